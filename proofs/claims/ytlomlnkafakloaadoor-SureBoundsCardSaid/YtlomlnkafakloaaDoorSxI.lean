/- Layer 5: codes against weights and covers. -/
import Derived.Test.YtlomlnkafakloaaDoorSyh
import Derived.Test.YtlomlnkafakloaaDoorSuZ
import Derived.Test.YtlomlnkafakloaaDoorSvE
set_option linter.unusedSimpArgs false
set_option linter.unusedVariables false
set_option linter.unnecessarySimpa false
namespace Go.Proofs.Sur
open Go Go.VM
set_option maxHeartbeats 1000000
/-- how many have a value, over all values of some kind -/
theorem count_sm {n : Nat} {S : List Nat} {f : Nat → Nat} (hf : ∀ x, x ∈ S → f x < n) (q : Nat → Bool) :
    sm n (fun v => if q v = true then ((S.filter (fun x => decide (f x = v))).length : Int) else 0) = ((S.filter (fun x => q (f x))).length : Int) := by
  induction S with
  | nil => simp only [List.filter_nil, List.length_nil]; exact sm_zero n fun v _ => by split <;> rfl
  | cons a S ih =>
    have ih := ih (fun x hx => hf x (List.mem_cons_of_mem _ hx))
    have ha := hf a (by simp)
    have e : sm n (fun v => if q v = true then (((a :: S).filter (fun x => decide (f x = v))).length : Int) else 0) = sm n (fun v => (if q v = true then (if v = f a then (1 : Int) else 0) else 0) + (if q v = true then ((S.filter (fun x => decide (f x = v))).length : Int) else 0)) := sm_congr n fun v _ => by
      by_cases hq : q v = true
      · rw [if_pos hq, if_pos hq, if_pos hq]
        by_cases hv : f a = v
        · rw [List.filter_cons_of_pos (by simpa using hv), if_pos hv.symm]; simp only [List.length_cons]; omega
        · rw [List.filter_cons_of_neg (by simpa using hv), if_neg (fun c => hv c.symm)]; omega
      · rw [if_neg hq, if_neg hq, if_neg hq]; rfl
    rw [e, sm_add, ih, sm_one n (f := fun v => if q v = true then (if v = f a then (1 : Int) else 0) else 0) (k := f a) ha (fun v _ hv => by
      show (if q v = true then (if v = f a then (1 : Int) else 0) else 0) = 0
      rw [if_neg hv]; split <;> rfl), if_pos rfl]
    by_cases hq : q (f a) = true
    · rw [if_pos hq, List.filter_cons_of_pos (p := fun x => q (f x)) hq]; simp only [List.length_cons]; omega
    · rw [if_neg hq, List.filter_cons_of_neg (p := fun x => q (f x)) hq]; omega
theorem flt_all (S : List Nat) : S.filter (fun _ => true) = S := List.filter_eq_self.2 (fun _ _ => rfl)
/-- two signals of a set of neighbours are near -/
theorem clq_near {g : List Int} (hg : Gr g) {i : Nat} (hi : i < (clV g).length) {u v : Nat} (hu : u < g.length) (hv : v < g.length) (h1 : bS (clV g) i u = true) (h2 : bS (clV g) i v = true) : (wt_ (nrV g) u).getLsbD v = true := by
  have h64 := pw_64 hg.1.2
  have hm := clV_get hi
  have hlt := (clV_mem hg.1 hm).2
  have hok := clL_ok _ _ hm
  have h6 := hg.1.2
  have hp2 := Nat.two_pow_pos g.length
  rw [nrV_get hu, nrB_bit hg.1 hu (by omega)]
  by_cases e : v = u
  · subst e; simp
  · have := (qc_iff hg (s := (at_ (clV g) i).toNat) (by omega) hu).1 ((okF_iff _).1 hok u hu) h1 v hv h2 e
    rw [this]; rfl
/-- codes of one letter more -/
theorem rosen {g : List Int} (hg : Gr g) {a : List W} (ha : gsW a) (hl : a.length * g.length ≤ 64) {S : List Nat} (hS : Ind (prV a (nrV g)) (ful (a.length * g.length)) S) : (S.length : Int) * wgD g ≤ wgN g * (msV a (ful a.length) : Nat) := by
  obtain ⟨_, ⟨z, s, hc⟩, e1, e2, _⟩ := wg_ok hg
  have hn0 : 0 < g.length := hg.1.1
  have ha64 := ha.1.1.2
  have hlt : ∀ x, x ∈ S → x < a.length * g.length := fun x hx => by
    have := hS.ins x hx
    rw [ful_bit hl, decide_eq_true_eq] at this; exact this
  have hnear : ∀ x, x ∈ S → ∀ y, y ∈ S → (wt_ (prV a (nrV g)) x).getLsbD y = ((wt_ a (x / g.length)).getLsbD (y / g.length) && (wt_ (nrV g) (x % g.length)).getLsbD (y % g.length)) := fun x hx y hy => by
    have hx' := hlt x hx
    have hy' := hlt y hy
    have d := divlt hn0 hx'
    have hgd := nrV_gd hg
    rw [prV_get (nrV g) (by rw [nrV_len]; omega) a x (by rw [nrV_len]; exact hx'), nrV_len]
    exact prW_iff (m := a.length) (ha.1.2.1 _ d.1) (by have := hgd.2.1 (x % g.length) (by rw [nrV_len]; exact d.2); rw [nrV_len] at this; exact this) hl hy'
  have hf : ∀ x, x ∈ S → x % g.length < g.length := fun x _ => Nat.mod_lt _ hn0
  have hT := count_sm hf (fun _ => true)
  simp only [if_true, flt_all] at hT
  have key := hc.lptop (x := fun v => ((S.filter (fun x => decide (x % g.length = v))).length : Int)) (D := ((msV a (ful a.length) : Nat) : Int)) (fun _ _ => Int.natCast_nonneg _) (fun i hi => by
    show sm g.length (fun v => if bS (clV g) i v = true then ((S.filter (fun x => decide (x % g.length = v))).length : Int) else 0) ≤ _
    rw [count_sm hf (fun v => bS (clV g) i v)]
    have hI : Ind a (ful a.length) ((S.filter (fun x => bS (clV g) i (x % g.length))).map (· / g.length)) := by
      have hnd := hS.nd.filter (fun x => bS (clV g) i (x % g.length))
      have far : ∀ x, x ∈ S.filter (fun x => bS (clV g) i (x % g.length)) → ∀ y, y ∈ S.filter (fun x => bS (clV g) i (x % g.length)) → x ≠ y → (wt_ a (x / g.length)).getLsbD (y / g.length) = false := fun x hx y hy hne => by
        obtain ⟨hx1, hx2⟩ := List.mem_filter.1 hx
        obtain ⟨hy1, hy2⟩ := List.mem_filter.1 hy
        have h1 := hS.far x hx1 y hy1 hne
        rw [hnear x hx1 y hy1, clq_near hg hi (hf x hx1) (hf y hy1) hx2 hy2, Bool.and_true] at h1
        exact h1
      refine ⟨?_, ?_, ?_⟩
      · rw [List.Nodup, List.pairwise_map]
        refine (List.Pairwise.and_mem.1 hnd).imp ?_
        rintro x y ⟨hx, hy, hne⟩ e
        have h1 := far x hx y hy hne
        have d := divlt hn0 (hlt x (List.mem_filter.1 hx).1)
        rw [← e, ha.1.2.2.2 _ d.1] at h1
        cases h1
      · intro k hk
        obtain ⟨x, hx, rfl⟩ := List.mem_map.1 hk
        have d := divlt hn0 (hlt x (List.mem_filter.1 hx).1)
        rw [ful_bit ha64, decide_eq_true_eq]; exact d.1
      · intro k hk k' hk' hne
        obtain ⟨x, hx, rfl⟩ := List.mem_map.1 hk
        obtain ⟨y, hy, rfl⟩ := List.mem_map.1 hk'
        exact far x hx y hy (fun e => hne (by rw [e]))
    have := ms_le ha.1.2.2 (ful_sub ha64) hI
    rw [List.length_map] at this
    omega)
  rw [hT] at key
  rw [e1, e2]; exact key
/-- codes of one letter -/
theorem rosen1 {g : List Int} (hg : Gr g) {S : List Nat} (hS : Ind (nrV g) (ful g.length) S) : (S.length : Int) * wgD g ≤ wgN g := by
  obtain ⟨_, ⟨z, s, hc⟩, e1, e2, _⟩ := wg_ok hg
  have h6 := hg.1.2
  have hlt : ∀ x, x ∈ S → x < g.length := fun x hx => by
    have := hS.ins x hx
    rw [ful_bit (by omega), decide_eq_true_eq] at this; exact this
  have hT := count_sm (f := fun x => x) hlt (fun _ => true)
  simp only [if_true, flt_all] at hT
  have key := hc.lptop (x := fun v => ((S.filter (fun x => decide (x = v))).length : Int)) (D := 1) (fun _ _ => Int.natCast_nonneg _) (fun i hi => by
    show sm g.length (fun v => if bS (clV g) i v = true then ((S.filter (fun x => decide (x = v))).length : Int) else 0) ≤ _
    rw [count_sm (f := fun x => x) hlt (fun v => bS (clV g) i v)]
    have := nodup_le1 (S := S.filter (fun x => bS (clV g) i x)) (hS.nd.filter _) (fun x hx y hy => by
      obtain ⟨hx1, hx2⟩ := List.mem_filter.1 hx
      obtain ⟨hy1, hy2⟩ := List.mem_filter.1 hy
      refine Classical.byContradiction fun hne => ?_
      have h1 := hS.far x hx1 y hy1 hne
      rw [clq_near hg hi (hlt x hx1) (hlt y hy1) hx2 hy2] at h1
      cases h1)
    omega)
  rw [hT, Int.mul_one] at key
  rw [e1, e2]; exact key
def ipw (x : Int) : Nat → Int
  | 0 => 1
  | k + 1 => ipw x k * x
theorem ipw_nn {x : Int} (h : 0 ≤ x) : ∀ k, 0 ≤ ipw x k
  | 0 => by simp [ipw]
  | k + 1 => Int.mul_nonneg (ipw_nn h k) h
/-- a code has at most as many words as the weight to the power of the length -/
theorem rosenK {g : List Int} (hg : Gr g) : ∀ m, g.length ^ (m + 1) ≤ 64 → ((msV (pwW g m) (ful (pwW g m).length) : Nat) : Int) * ipw (wgD g) (m + 1) ≤ ipw (wgN g) (m + 1)
  | 0, h => by
    have hgs := pwW_gs hg 0 h
    obtain ⟨S, hS, hl⟩ := ms_get hgs (ful_sub hgs.1.1.2)
    have hS' : Ind (nrV g) (ful g.length) S := by
      have : (pwW g 0).length = g.length := by rw [pwW_len]; simp
      rw [this] at hS; exact hS
    have := rosen1 hg hS'
    rw [hl] at this
    simp only [ipw, Int.one_mul]; exact this
  | m + 1, h => by
    have hm : g.length ^ (m + 1) ≤ 64 := by
      refine Nat.le_trans ?_ h
      exact Nat.pow_le_pow_right hg.1.1 (by omega)
    have ih := rosenK hg m hm
    have hgs := pwW_gs hg (m + 1) h
    have hgm := pwW_gs hg m hm
    obtain ⟨S, hS, hl⟩ := ms_get hgs (ful_sub hgs.1.1.2)
    have e1 : (pwW g (m + 1)).length = (pwW g m).length * g.length := by rw [pwW_len, pwW_len, Nat.pow_succ]
    rw [e1] at hS hl
    have h64 : (pwW g m).length * g.length ≤ 64 := by rw [← e1, pwW_len]; exact h
    have hr := rosen hg hgm h64 hS
    rw [hl, ← e1] at hr
    obtain ⟨_, _, _, _, w1, w2, w3, w4⟩ := wg_ok hg
    have hD := ipw_nn (show 0 ≤ wgD g by omega) (m + 1)
    have q1 := Int.mul_le_mul_of_nonneg_right hr hD
    have q2 := Int.mul_le_mul_of_nonneg_left ih (show 0 ≤ wgN g by omega)
    have e2 : ipw (wgD g) (m + 1 + 1) = ipw (wgD g) (m + 1) * wgD g := rfl
    have e3 : ipw (wgN g) (m + 1 + 1) = ipw (wgN g) (m + 1) * wgN g := rfl
    rw [e2, e3, Int.mul_comm (ipw (wgN g) (m + 1))]
    generalize ipw (wgD g) (m + 1) = P at *
    generalize ipw (wgN g) (m + 1) = Q at *
    generalize ((msV (pwW g m) (ful (pwW g m).length) : Nat) : Int) = A at *
    generalize ((msV (pwW g (m + 1)) (ful (pwW g (m + 1)).length) : Nat) : Int) = B at *
    have x1 : B * (P * wgD g) = B * wgD g * P := by rw [Int.mul_comm P, Int.mul_assoc]
    have x2 : wgN g * A * P = wgN g * (A * P) := Int.mul_assoc _ _ _
    omega
/-! a cover has at least the weight -/
theorem cov_le {g : List Int} (hg : Gr g) {x : Nat → Int} {D : Int} (hx : ∀ j, j < g.length → 0 ≤ x j) (hl : ∀ i, i < (clV g).length → sm g.length (fun j => if bS (clV g) i j = true then x j else 0) ≤ D) :
    ∀ s, s < 2 ^ g.length → sm g.length (fun j => if s.testBit j = true then x j else 0) ≤ (V g s : Nat) * D := by
  have h64 := pw_64 hg.1.2
  have hD : 0 ≤ D := by
    have h0 := hl 0 (by have := clq_pos hg; omega)
    have h1 : 0 ≤ sm g.length (fun j => if bS (clV g) 0 j = true then x j else 0) := sm_nn fun j hj => by
      show 0 ≤ if bS (clV g) 0 j = true then x j else 0
      split
      · exact hx j hj
      · exact Int.le_refl _
    omega
  have hone : ∀ j, j < g.length → x j ≤ D := fun j hj => by
    obtain ⟨i, i1, i2⟩ := clq_reach hg j hj
    have h3 := hl i i1
    have h4 := sm_le_term (d := g.length) (f := fun j => -(if bS (clV g) i j = true then x j else 0)) (k := j) (fun k hk => by
      show -(if bS (clV g) i k = true then x k else 0) ≤ 0
      have := hx k hk
      split <;> omega) hj
    rw [sm_neg, if_pos i2] at h4
    omega
  intro s
  induction s using Nat.strongRecOn with
  | _ s ih =>
    intro hs
    by_cases h0 : s = 0
    · subst h0
      rw [sm_zero _ (fun j _ => by simp), V_0]; simp
    · rw [V_eq g h0]
      -- the first bound, and each set's
      have hbase : sm g.length (fun j => if s.testBit j = true then x j else 0) ≤ ((g.length : Nat) : Int) * D := by
        have : sm g.length (fun j => if s.testBit j = true then x j else 0) ≤ sm g.length (fun _ => D) := sm_le _ fun j hj => by
          split
          · exact hone j hj
          · exact hD
        rw [sm_const] at this; exact this
      have fold : ∀ (l : List Int) (b : Nat), (∀ c, c ∈ l → c ∈ clV g) → sm g.length (fun j => if s.testBit j = true then x j else 0) ≤ (b : Int) * D → sm g.length (fun j => if s.testBit j = true then x j else 0) ≤ ((l.foldl (cvT (V g) s) b : Nat) : Int) * D := by
        intro l
        induction l with
        | nil => intro b _ h; exact h
        | cons c l ihl =>
          intro b hc h
          rw [List.foldl_cons]
          refine ihl _ (fun c' h' => hc c' (List.mem_cons_of_mem _ h')) ?_
          simp only [cvT]
          split
          · rename_i hlt
            obtain ⟨i, i1, i2⟩ := at_ix (hc c (by simp))
            have h2 := ih (andn s c.toNat) hlt (by omega)
            have h3 := hl i i1
            have hsum : sm g.length (fun j => if s.testBit j = true then x j else 0) ≤ sm g.length (fun j => (if (andn s c.toNat).testBit j = true then x j else 0) + (if bS (clV g) i j = true then x j else 0)) := sm_le _ fun j hj => by
              have hxj := hx j hj
              have hb : bS (clV g) i j = c.toNat.testBit j := by show bi (at_ (clV g) i) j = _; rw [i2]
              rw [andn_bit (by omega) j, hb]
              cases s.testBit j <;> cases c.toNat.testBit j <;> simp <;> omega
            rw [sm_add] at hsum
            rcases Nat.le_total b (1 + V g (andn s c.toNat)) with hm | hm
            · rw [Nat.min_eq_left hm]; exact h
            · rw [Nat.min_eq_right hm]
              have : ((1 + V g (andn s c.toNat) : Nat) : Int) = 1 + (V g (andn s c.toNat) : Nat) := by omega
              rw [this, Int.add_mul, Int.one_mul]
              omega
          · exact h
      exact fold _ _ (fun _ h => h) hbase
theorem cover_wg {g : List Int} (hg : Gr g) : wgN g ≤ (cvA g : Nat) * wgD g := by
  obtain ⟨_, ⟨z, s, hc⟩, e1, e2, w1, _⟩ := wg_ok hg
  obtain ⟨x, x1, x2, x3⟩ := hc.2.1
  have h1 := cov_le hg x1 x2 (2 ^ g.length - 1) (by have := Nat.two_pow_pos g.length; omega)
  have h2 : sm g.length (fun j => if (2 ^ g.length - 1).testBit j = true then x j else 0) = sm g.length x := sm_congr _ fun j hj => by
    rw [if_pos (by rw [Nat.testBit_two_pow_sub_one]; simpa using hj)]
  rw [h2, x3] at h1
  obtain ⟨_, a2, _, a4, _, _⟩ := hc.lp
  have hs := hc.1
  rw [e1, e2]
  have h3 : (wgP g).1 * s ≤ ((cvA g : Nat) * (wgP g).2) * s := by
    rw [a4]
    have := Int.mul_le_mul_of_nonneg_right h1 (show 0 ≤ (wgP g).2 by omega)
    have e : ((cvA g : Nat) : Int) * (wgP g).2 * s = (cvA g : Nat) * s * (wgP g).2 := by rw [Int.mul_assoc, Int.mul_comm (wgP g).2, Int.mul_assoc]
    rw [e]; exact this
  exact Int.le_of_mul_le_mul_right h3 hs
end Go.Proofs.Sur

