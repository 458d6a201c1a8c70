/- Layer 4: mathematics of the law of fools: a tree fools any learner, and the careful one's dimension falls. -/
import Derived.Test.YtdnidpojcocklaaDoorLnBj
import Derived.Test.YtdnidpojcocklaaDoorLnV2
set_option linter.unusedSimpArgs false
set_option linter.unusedVariables false
set_option linter.unnecessarySimpa false
set_option maxHeartbeats 400000
set_option maxRecDepth 100000
namespace Go.Proofs.Lrn
open Go Go.VM
theorem lfF_app (es : List Pr) (x y : Int) : ∀ b, lfF (es ++ [(x, y)]) b = pt (lfF es b) x y := by
  induction es with
  | nil => intro b; rfl
  | cons e es ih => intro b; exact ih _
theorem exs_app {p : Int} {es : List Pr} {x y : Int} (h : exs p es) (hn : es.length < 20) (hx : 0 ≤ x ∧ x < p) (hy : y = 0 ∨ y = 1) : exs p (es ++ [(x, y)]) := by
  refine ⟨by simp; omega, fun i hi => ?_⟩
  simp only [List.length_append, List.length_cons, List.length_nil] at hi
  by_cases c : i < es.length
  · have e : (es ++ [(x, y)]).getD i pair0 = es.getD i pair0 := by simp only [List.getD_eq_getElem?_getD, List.getElem?_append_left c]
    have := h.2 i c
    simp only [exq, e] at this ⊢
    exact this
  · have e : i = es.length := by omega
    subst e
    have e : (es ++ [(x, y)]).getD es.length pair0 = (x, y) := by simp [List.getD_eq_getElem?_getD]
    simp only [exq, e]
    exact ⟨hx, hy⟩
/-- where the path is after some answers -/
structure PathAt (p : Int) (S : BitVec 32) (T : List Tri) (k : Nat) (a : Int) (es : List Pr) : Prop where
  ex : exs p es
  dim : (k : Int) ≤ dimV p (lfF es S)
  at_ : 1 ≤ k → ∃ (n : Nat) (A B : List Tri), a = (n : Int) ∧ T = A ++ (tre p k (lfF es S) n ++ B) ∧ A.length = n
theorem path_0 {p : Int} {S : BitVec 32} {d : Nat} (hd : dimV p S = (d : Int)) : PathAt p S (trL p S) d 0 [] where
  ex := ⟨by simp, fun i hi => by simp at hi⟩
  dim := by show (d : Int) ≤ dimV p S; omega
  at_ _ := ⟨0, [], [], rfl, by
    have e : (dimV p S).toNat = d := by omega
    rw [trL, e]; show _ = tre p d S 0 ++ []; simp, rfl⟩
/-- the node where it is -/
theorem PathAt.node {p : Int} {S : BitVec 32} {T : List Tri} {k : Nat} {a : Int} {es : List Pr} (h : PathAt p S T (k + 1) a es) :
    ∃ (n : Nat) (x : Tri), a = (n : Int) ∧ n < T.length ∧ nd T n = x ∧ (0 ≤ x.1 ∧ x.1 < p) ∧ (es.length < 20 → ∀ y : Int, y = 0 ∨ y = 1 → PathAt p S T k (if y = 1 then x.2.2 else x.2.1) (es ++ [(x.1, y)])) := by
  obtain ⟨n, A, B, ha, hT, hA⟩ := h.at_ (by omega)
  have hd := h.dim
  obtain ⟨f1, f2, f3⟩ := fx_spec (p := p) (b := lfF es S) (d := k + 1) (by omega) hd
  obtain ⟨x, hx⟩ : ∃ x, x = fx p (lfF es S) (k + 1) := ⟨_, rfl⟩
  rw [← hx] at f1 f2
  have hl0 := les_l p (lfF es S) (x : Int)
  have hl1 := les_r p (lfF es S) (x : Int)
  have hdim : ∀ y : Int, y = 0 ∨ y = 1 → (k : Int) ≤ dimV p (lfF (es ++ [((x : Int), y)]) S) := fun y hy => by
    rw [lfF_app]
    rcases hy with rfl | rfl <;> omega
  match k with
  | 0 =>
    have e : tre p 1 (lfF es S) n = [((x : Int), -1, -1)] := by rw [hx]; simp [tre]
    have hT : T = A ++ (((x : Int), -1, -1) :: B) := by rw [hT, e]; rfl
    refine ⟨n, ((x : Int), -1, -1), ha, by rw [hT, ← hA]; simp, ?_, ⟨by omega, f1⟩, fun hn y hy => ⟨exs_app h.ex hn ⟨by omega, f1⟩ hy, hdim y hy, fun q => absurd q (by omega)⟩⟩
    rw [hT, nd_app2 (by omega), hA, Nat.sub_self]; rfl
  | k + 1 =>
    have e : tre p (k + 2) (lfF es S) n = ((x : Int), ((n + 1 : Nat) : Int), ((n + 1 + tn (k + 1) : Nat) : Int)) :: (tre p (k + 1) (pt (lfF es S) x 0) (n + 1) ++ tre p (k + 1) (pt (lfF es S) x 1) (n + 1 + tn (k + 1))) := by rw [tre_two, ← hx]
    have e : tre p (k + 1 + 1) (lfF es S) n = ((x : Int), ((n + 1 : Nat) : Int), ((n + 1 + tn (k + 1) : Nat) : Int)) :: (tre p (k + 1) (pt (lfF es S) x 0) (n + 1) ++ tre p (k + 1) (pt (lfF es S) x 1) (n + 1 + tn (k + 1))) := e
    obtain ⟨z, hz⟩ : ∃ z : Tri, z = ((x : Int), ((n + 1 : Nat) : Int), ((n + 1 + tn (k + 1) : Nat) : Int)) := ⟨_, rfl⟩
    rw [e, ← hz] at hT
    have hz1 : z.1 = (x : Int) := by rw [hz]
    refine ⟨n, z, ha, by rw [hT, ← hA]; simp, ?_, by rw [hz1]; exact ⟨by omega, f1⟩, fun hn y hy => ⟨by rw [hz1]; exact exs_app h.ex hn ⟨by omega, f1⟩ hy, by rw [hz1]; exact hdim y hy, fun _ => ?_⟩⟩
    · rw [hT, nd_app2 (by omega), hA, Nat.sub_self]; rfl
    · rw [hz1, lfF_app]
      rcases hy with rfl | rfl
      · refine ⟨n + 1, A ++ [z], tre p (k + 1) (pt (lfF es S) x 1) (n + 1 + tn (k + 1)) ++ B, ?_, by rw [hT]; simp, by simp [hA]⟩
        rw [if_neg (by omega), hz]
      · refine ⟨n + 1 + tn (k + 1), A ++ z :: tre p (k + 1) (pt (lfF es S) x 0) (n + 1), B, ?_, by rw [hT]; simp, by simp [hA, tre_len]; omega⟩
        rw [if_pos rfl, hz]
/-- the careful learner: with a mistake the dimension falls -/
theorem careful_fall {p : Int} (hp : p5 p) {b : BitVec 32} {x c : Nat} (hx : (x : Int) < p) (hc : c < 32) (hb : b.getLsbD c = true) :
    (saV false p b (x : Int) = ((c / 2 ^ x % 2 : Nat) : Int) → dimV p (pt b (x : Int) ((c / 2 ^ x % 2 : Nat) : Int)) ≤ dimV p b) ∧
    (saV false p b (x : Int) ≠ ((c / 2 ^ x % 2 : Nat) : Int) → dimV p (pt b (x : Int) ((c / 2 ^ x % 2 : Nat) : Int)) + 1 ≤ dimV p b) := by
  have hx5 : x < 5 := by obtain ⟨_, _⟩ := hp; omega
  have hy : ((c / 2 ^ x % 2 : Nat) : Int) = 0 ∨ ((c / 2 ^ x % 2 : Nat) : Int) = 1 := by
    have : c / 2 ^ x % 2 < 2 := Nat.mod_lt _ (by decide)
    omega
  have hm := fun (y : Int) (q : y = 0 ∨ y = 1) => dim_mono hp 33 b (pt b (x : Int) y) (by have := pc_le b; omega) (pt_subset hx5 q)
  have hin : (pt b (x : Int) ((c / 2 ^ x % 2 : Nat) : Int)).getLsbD c = true := by
    rw [pt_bit hx5 hc hy, hb]
    simp
  refine ⟨fun _ => hm _ hy, fun hne => ?_⟩
  have m0 := hm 0 (.inl rfl)
  have m1 := hm 1 (.inr rfl)
  simp only [saV, saC, Bool.false_eq_true, if_false] at hne
  split at hne
  · rename_i hlt
    have e : ((c / 2 ^ x % 2 : Nat) : Int) = 0 := by omega
    rw [e]; omega
  · rename_i hlt
    have e : ((c / 2 ^ x % 2 : Nat) : Int) = 1 := by omega
    rw [e] at hin ⊢
    have n1 : pt b (x : Int) 1 ≠ 0#32 := fun q => by rw [q] at hin; simp at hin
    have p1 := dimV_pos (p := p) n1
    have n0 : pt b (x : Int) 0 ≠ 0#32 := fun q => by rw [q, dimV_0] at hlt; omega
    have hd : dfb b (x : Int) = true := dfb_iff.2 ⟨n0, n1⟩
    have hb0 : b ≠ 0#32 := fun q => by rw [q] at hb; simp at hb
    have hge := dmL_ge (f := dimV p) hd p.toNat (by omega)
    rw [← dimV_eq hb0] at hge
    rcases mn_or (dimV p (pt b (x : Int) 0)) (dimV p (pt b (x : Int) 1)) with ⟨q1, q2⟩ | ⟨q1, q2⟩ <;> rw [q1] at hge <;> omega
/-- where the learner is after some examples of a concept -/
structure CareAt (p : Int) (S : BitVec 32) (c : Nat) (es : List Pr) (m : Nat) : Prop where
  ex : exs p es
  mem : (lfF es S).getLsbD c = true
  dim : (m : Int) + dimV p (lfF es S) ≤ dimV p S
theorem CareAt.next {p : Int} (hp : p5 p) {S : BitVec 32} {c : Nat} (hc : c < 32) {es : List Pr} {m x : Nat} (h : CareAt p S c es m) (hx : (x : Int) < p) (hn : es.length < 20) :
    CareAt p S c (es ++ [((x : Int), ((c / 2 ^ x % 2 : Nat) : Int))]) (if saV false p (lfF es S) (x : Int) = ((c / 2 ^ x % 2 : Nat) : Int) then m else m + 1) := by
  have hx5 : x < 5 := by obtain ⟨_, _⟩ := hp; omega
  have hy : ((c / 2 ^ x % 2 : Nat) : Int) = 0 ∨ ((c / 2 ^ x % 2 : Nat) : Int) = 1 := by
    have : c / 2 ^ x % 2 < 2 := Nat.mod_lt _ (by decide)
    omega
  obtain ⟨h1, h2⟩ := careful_fall hp hx hc h.mem
  have hd := h.dim
  refine ⟨exs_app h.ex hn ⟨by omega, hx⟩ hy, ?_, ?_⟩
  · rw [lfF_app, pt_bit hx5 hc hy, h.mem]; simp
  · rw [lfF_app]
    split
    · rename_i q; have := h1 q; omega
    · rename_i q; have := h2 q; omega
theorem CareAt.le {p : Int} {S : BitVec 32} {c : Nat} {es : List Pr} {m : Nat} (h : CareAt p S c es m) : (m : Int) ≤ dimV p S := by
  have hne : lfF es S ≠ 0#32 := fun e => by have := h.mem; rw [e] at this; simp at this
  have := dimV_pos (p := p) hne
  have := h.dim
  omega
end Go.Proofs.Lrn

