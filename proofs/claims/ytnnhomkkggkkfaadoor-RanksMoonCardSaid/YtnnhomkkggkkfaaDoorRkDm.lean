/- Moon's theorem: a tournament that no set of players can't leave has a round of every length through every player. -/
import Derived.KernelRfl
set_option linter.unusedSimpArgs false
set_option linter.unusedVariables false
set_option linter.unnecessarySimpa false
set_option maxHeartbeats 4000000
namespace Go.Proofs.Rnk
def pt (R : Nat → Nat → Prop) (a : Nat) : List Nat → Nat → Prop
  | [], z => R a z
  | b :: m, z => R a b ∧ pt R b m z
theorem pt_app {R : Nat → Nat → Prop} {b z : Nat} {m2 : List Nat} : ∀ (m1 : List Nat) (a : Nat), pt R a (m1 ++ b :: m2) z ↔ pt R a m1 b ∧ pt R b m2 z
  | [], a => Iff.rfl
  | c :: m1, a => by simp only [List.cons_append, pt, pt_app m1 c, and_assoc]
theorem pt_end {R : Nat → Nat → Prop} {c y : Nat} : ∀ (m : List Nat) (a : Nat), pt R a m c → R a y → (∀ x ∈ m, R x y) → pt R a m y
  | [], _, _, h, _ => h
  | b :: m, a, h, _, hm => ⟨h.1, pt_end m b h.2 (hm b (by simp)) fun x hx => hm x (by simp [hx])⟩
theorem pt_ins {R : Nat → Nat → Prop} {w z : Nat} : ∀ (m : List Nat) (a : Nat), pt R a m z → R a w → R w z → (∀ x ∈ m, R x w ∨ R w x) → ∃ m', pt R a m' z ∧ m'.Perm (w :: m)
  | [], a, _, h1, h2, _ => ⟨[w], ⟨h1, h2⟩, .refl _⟩
  | b :: m, a, h, h1, h2, hm => by
    by_cases c : R w b
    · exact ⟨w :: b :: m, ⟨h1, c, h.2⟩, .refl _⟩
    · have hb : R b w := (hm b (by simp)).resolve_right c
      obtain ⟨m', g1, g2⟩ := pt_ins m b h.2 hb h2 fun x hx => hm x (by simp [hx])
      exact ⟨b :: m', ⟨h.1, g1⟩, (List.Perm.cons b g2).trans (.swap w b m)⟩
structure TnR (R : Nat → Nat → Prop) (n : Nat) : Prop where
  anti : ∀ i j, i < n → j < n → R i j → ¬ R j i
  tot : ∀ i j, i < n → j < n → i ≠ j → R i j ∨ R j i
def Left (R : Nat → Nat → Prop) (n : Nat) : Prop := ∀ S : Nat → Prop, (∃ x, x < n ∧ S x) → (∃ y, y < n ∧ ¬ S y) → ∃ x y, x < n ∧ y < n ∧ S x ∧ ¬ S y ∧ R x y
structure Rd (R : Nat → Nat → Prop) (n v : Nat) (m : List Nat) : Prop where
  p : pt R v m v
  nd : (v :: m).Nodup
  lt : ∀ x ∈ v :: m, x < n
theorem len_of : ∀ (n : Nat) (l : List Nat), (∀ w, w < n → w ∈ l) → n ≤ l.length
  | 0, _, _ => Nat.zero_le _
  | n + 1, l, h => by
    have h1 := List.length_erase_of_mem (h n (by omega))
    have h2 := len_of n (l.erase n) fun w hw => (List.mem_erase_of_ne (by omega)).2 (h w (by omega))
    have h3 : 0 < l.length := List.length_pos_of_mem (h n (by omega))
    omega
theorem free_of {n : Nat} {l : List Nat} (h : l.length < n) : ∃ w, w < n ∧ w ∉ l := by
  apply Classical.byContradiction
  intro hc
  have := len_of n l fun w hw => Classical.byContradiction fun q => hc ⟨w, hw, q⟩
  omega
theorem Rd.more {R : Nat → Nat → Prop} {n v : Nat} {m : List Nat} (hT : TnR R n) (hL : Left R n) (h : Rd R n v m) (h2 : 2 ≤ m.length) (hn : m.length + 1 < n) : ∃ m', Rd R n v m' ∧ m'.length = m.length + 1 := by
  have hv : v < n := h.lt v (by simp)
  have use : ∀ w, w < n → w ∉ v :: m → ∀ m', pt R v m' v → m'.Perm (w :: m) → ∃ m', Rd R n v m' ∧ m'.length = m.length + 1 := fun w hw hm m' hp hq => by
    refine ⟨m', ⟨hp, ?_, fun x hx => ?_⟩, by have := hq.length_eq; simpa using this⟩
    · have : (v :: m').Perm (w :: v :: m) := (List.Perm.cons v hq).trans (.swap w v m)
      exact this.nodup_iff.2 (List.nodup_cons.2 ⟨hm, h.nd⟩)
    · rcases List.mem_cons.1 hx with rfl | q
      · exact hv
      · rcases List.mem_cons.1 (hq.mem_iff.1 q) with rfl | q
        · exact hw
        · exact h.lt x (by simp [q])
  by_cases hc : ∃ w, w < n ∧ w ∉ v :: m ∧ (∃ x ∈ v :: m, R x w) ∧ (∃ y ∈ v :: m, R w y)
  · obtain ⟨w, hw, hm, ⟨x, hx, hxw⟩, ⟨y, hy, hwy⟩⟩ := hc
    have hwv : w ≠ v := fun e => hm (by simp [e])
    have tot : ∀ x ∈ v :: m, R x w ∨ R w x := fun x hx => hT.tot x w (h.lt x hx) hw fun e => hm (e ▸ hx)
    by_cases c : R v w
    · have hyv : y ≠ v := fun e => hT.anti v w hv hw c (e ▸ hwy)
      have hym : y ∈ m := (List.mem_cons.1 hy).resolve_left hyv
      obtain ⟨m1, m2, rfl⟩ := List.append_of_mem hym
      have hp := (pt_app m1 v).1 h.p
      obtain ⟨m', g1, g2⟩ := pt_ins m1 v hp.1 c hwy fun x hx => tot x (by simp [hx])
      exact use w hw hm (m' ++ y :: m2) ((pt_app m' v).2 ⟨g1, hp.2⟩) (by simpa using g2.append_right (y :: m2))
    · have hwv2 : R w v := (tot v (by simp)).resolve_left c
      have hxv : x ≠ v := fun e => c (e ▸ hxw)
      have hxm : x ∈ m := (List.mem_cons.1 hx).resolve_left hxv
      obtain ⟨m1, m2, rfl⟩ := List.append_of_mem hxm
      have hp := (pt_app m1 v).1 h.p
      obtain ⟨m', g1, g2⟩ := pt_ins m2 x hp.2 hxw hwv2 fun x hx => tot x (by simp [hx])
      refine use w hw hm (m1 ++ x :: m') ((pt_app m1 v).2 ⟨hp.1, g1⟩) ?_
      have e1 : (m1 ++ x :: m').Perm (m1 ++ x :: (w :: m2)) := List.Perm.append_left m1 (List.Perm.cons x g2)
      refine e1.trans ?_
      have e2 : m1 ++ x :: w :: m2 = (m1 ++ [x]) ++ w :: m2 := by simp
      have e3 : w :: (m1 ++ x :: m2) = w :: ((m1 ++ [x]) ++ m2) := by simp
      rw [e2, e3]
      exact List.perm_middle
  · have out : ∀ w, w < n → w ∉ v :: m → ∀ x ∈ v :: m, R x w → ∀ y ∈ v :: m, R y w := fun w hw hm x hx hxw y hy => by
      rcases hT.tot y w (h.lt y hy) hw (fun e => hm (e ▸ hy)) with q | q
      · exact q
      · exact absurd ⟨w, hw, hm, ⟨x, hx, hxw⟩, ⟨y, hy, q⟩⟩ hc
    obtain ⟨w0, hw0, hm0⟩ := free_of (n := n) (l := v :: m) (by simpa using hn)
    obtain ⟨x, y, hx, hy, hxS, hyS, hxy⟩ := hL (fun x => x ∈ v :: m) ⟨v, hv, by simp⟩ ⟨w0, hw0, hm0⟩
    obtain ⟨y', z, hy', hz, ⟨hym, hyb⟩, hzS, hyz⟩ := hL (fun w => w ∉ v :: m ∧ ∀ y ∈ v :: m, R y w) ⟨y, hy, hyS, out y hy hyS x hxS hxy⟩ ⟨v, hv, fun q => q.1 (by simp)⟩
    have hzm : z ∉ v :: m := fun q => hT.anti z y' hz hy' (hyb z q) hyz
    have hzb : ∀ x ∈ v :: m, R z x := fun x hx => by
      rcases hT.tot z x hz (h.lt x hx) (fun e => hzm (e ▸ hx)) with q | q
      · exact q
      · exact absurd ⟨hzm, out z hz hzm x hx q⟩ hzS
    have hyz' : y' ≠ z := fun e => hT.anti y' z hy' hz hyz (by rw [e] at hyz ⊢; exact hyz)
    obtain ⟨m0, c, rfl⟩ : ∃ m0 c, m = m0 ++ [c] := by
      have hne : m ≠ [] := fun e => by rw [e] at h2; simp at h2
      exact ⟨m.dropLast, m.getLast hne, (List.dropLast_concat_getLast hne).symm⟩
    have hp := (pt_app m0 v (m2 := [])).1 h.p
    refine ⟨m0 ++ [y', z], ⟨(pt_app m0 v).2 ⟨pt_end m0 v hp.1 (hyb v (by simp)) fun x hx => hyb x (by simp [hx]), hyz, hzb v (by simp)⟩, ?_, fun x hx => ?_⟩, by simp⟩
    · have hnd := h.nd
      have hy0 : y' ∉ v :: m0 := fun q => hym (by rcases List.mem_cons.1 q with e | e <;> simp [e])
      have hz0 : z ∉ v :: m0 := fun q => hzm (by rcases List.mem_cons.1 q with e | e <;> simp [e])
      have h0 : (v :: m0).Nodup := (List.nodup_append.1 (show (v :: m0 ++ [c]).Nodup from hnd)).1
      have : (v :: m0 ++ [y', z]).Nodup := List.nodup_append.2 ⟨h0, by simp [hyz'], fun a ha b hb e => by
        simp only [List.mem_cons, List.not_mem_nil, or_false] at hb
        rcases hb with rfl | rfl
        · exact hy0 (e ▸ ha)
        · exact hz0 (e ▸ ha)⟩
      exact this
    · have : x ∈ v :: m0 ++ [y', z] := hx
      rcases List.mem_append.1 this with q | q
      · exact h.lt x (by rcases List.mem_cons.1 q with e | e <;> simp [e])
      · simp only [List.mem_cons, List.not_mem_nil, or_false] at q
        rcases q with rfl | rfl
        · exact hy'
        · exact hz
theorem moon {R : Nat → Nat → Prop} {n : Nat} (hT : TnR R n) (hL : Left R n) {v : Nat} (hv : v < n) (hn : 3 ≤ n) : ∀ k, 2 ≤ k → k < n → ∃ m, Rd R n v m ∧ m.length = k
  | 0, h, _ => by omega
  | 1, h, _ => by omega
  | 2, _, _ => by
    have other : ∃ y, y < n ∧ ¬ y = v := by
      by_cases c : v = 0
      · exact ⟨1, by omega, by omega⟩
      · exact ⟨0, by omega, by omega⟩
    have irr : ∀ i, i < n → ¬ R i i := fun i hi h => hT.anti i i hi hi h h
    obtain ⟨v1, x0, _, hx0, e0, hne, hR⟩ := hL (fun x => x = v) ⟨v, hv, rfl⟩ other
    have e0 : v1 = v := e0
    rw [e0] at hR
    obtain ⟨x, u, hx, hu, h1, h2, h3⟩ := hL (fun x => R v x) ⟨x0, hx0, hR⟩ ⟨v, hv, irr v hv⟩
    have huv : u ≠ v := fun e => hT.anti v x hv hx h1 (e ▸ h3)
    have huv2 : R u v := (hT.tot u v hu hv huv).resolve_right h2
    refine ⟨[x, u], ⟨⟨h1, h3, huv2⟩, ?_, fun y hy => ?_⟩, rfl⟩
    · have e1 : v ≠ x := fun e => irr v hv (by rw [← e] at h1; exact h1)
      have e2 : x ≠ u := fun e => irr x hx (by rw [← e] at h3; exact h3)
      simp [e1, e2, Ne.symm huv]
    · simp only [List.mem_cons, List.not_mem_nil, or_false] at hy
      rcases hy with rfl | rfl | rfl <;> assumption
  | k + 3, _, hk => by
    obtain ⟨m, h1, h2⟩ := moon hT hL hv hn (k + 2) (by omega) (by omega)
    obtain ⟨m', g1, g2⟩ := h1.more hT hL (by omega) (by omega)
    exact ⟨m', g1, by omega⟩
end Go.Proofs.Rnk

