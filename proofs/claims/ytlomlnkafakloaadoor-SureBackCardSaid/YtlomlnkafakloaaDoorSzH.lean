/- Layer 5: the least chance, its mathematics. -/
import Derived.Test.YtlomlnkafakloaaDoorSzD
import Derived.Test.YtlomlnkafakloaaDoorSzF
import Derived.Test.YtlomlnkafakloaaDoorSzG
import Derived.Test.YtlomlnkafakloaaDoorSxL
import Derived.Test.YtlomlnkafakloaaDoorSyC
set_option linter.unusedSimpArgs false
set_option linter.unusedVariables false
set_option linter.unnecessarySimpa false
set_option maxHeartbeats 1000000
namespace Go.Proofs.Sur
open Go Go.VM

theorem bit_8 {x : Int} (h : 1 ≤ x ∧ x < 256) : ∃ k, k < 8 ∧ bi x k = true := by
  obtain ⟨k, hk⟩ := Nat.exists_testBit_of_ne_zero (x := x.toNat) (by omega)
  refine ⟨k, ?_, hk⟩
  refine Classical.byContradiction fun hc => ?_
  have h1 : x.toNat < 2 ^ k := Nat.lt_of_lt_of_le (show x.toNat < 2 ^ 8 by omega) (Nat.pow_le_pow_right (by decide) (by omega))
  rw [Nat.testBit_lt_two_pow h1] at hk
  cases hk
theorem meL_mem (l : List Int) {k : Nat} (h0 : mtS l k l.length ≠ 0) : ∀ t, k < t → ((mtS l k l.length : Nat) : Int) ∈ meL l t
  | 0, h => absurd h (Nat.not_lt_zero _)
  | t + 1, h => by
    simp only [meL]
    by_cases e : k = t
    · subst e; rw [if_neg h0]; simp
    · have := meL_mem l h0 t (by omega)
      split
      · exact this
      · exact List.mem_append_left _ this
theorem meL_of (l : List Int) {c : Int} : ∀ t, c ∈ meL l t → ∃ k, k < t ∧ c = (mtS l k l.length : Nat) ∧ mtS l k l.length ≠ 0
  | 0, h => by simp [meL] at h
  | t + 1, h => by
    simp only [meL] at h
    split at h
    · obtain ⟨k, h1, h2⟩ := meL_of l t h
      exact ⟨k, by omega, h2⟩
    · rename_i h0
      rcases List.mem_append.1 h with h | h
      · obtain ⟨k, h1, h2⟩ := meL_of l t h
        exact ⟨k, by omega, h2⟩
      · exact ⟨t, by omega, List.mem_singleton.1 h, h0⟩
/-- each set is an output's -/
theorem me_bS {l : List Int} {i : Nat} (hi : i < (meV l).length) : ∃ k, k < 8 ∧ mtS l k l.length ≠ 0 ∧ at_ (meV l) i = (mtS l k l.length : Nat) ∧ ∀ j, bS (meV l) i j = (decide (j < l.length) && bi (at_ l j) k) := by
  have hm : at_ (meV l) i ∈ meV l := by
    have e : at_ (meV l) i = (meV l)[i] := by simp [at_, List.getD_eq_getElem?_getD, List.getElem?_eq_getElem hi]
    rw [e]; exact List.getElem_mem hi
  obtain ⟨k, h1, h2, h3⟩ := meL_of l 8 hm
  refine ⟨k, h1, h3, h2, fun j => ?_⟩
  show bi (at_ (meV l) i) j = _
  rw [h2]
  show ((mtS l k l.length : Nat) : Int).toNat.testBit j = _
  rw [Int.toNat_natCast, mtS_bit]
theorem me_at {l : List Int} {k j : Nat} (hk : k < 8) (hj : j < l.length) (hb : bi (at_ l j) k = true) : ∃ i, i < (meV l).length ∧ at_ (meV l) i = (mtS l k l.length : Nat) := by
  have h0 : mtS l k l.length ≠ 0 := fun e => by
    have := mtS_bit l k l.length j
    rw [e, hb] at this
    simp [hj] at this
  obtain ⟨i, i1, i2⟩ := at_ix (meL_mem l h0 8 hk)
  exact ⟨i, i1, i2⟩
theorem me_reach {l : List Int} (h : Chn l) : reach l.length (meV l).length (meV l) := fun j hj => by
  obtain ⟨k, k1, k2⟩ := bit_8 (h.2 j hj)
  obtain ⟨i, i1, i2⟩ := me_at k1 hj k2
  refine ⟨i, i1, ?_⟩
  show bi (at_ (meV l) i) j = true
  rw [i2]
  show ((mtS l k l.length : Nat) : Int).toNat.testBit j = true
  rw [Int.toNat_natCast, mtS_bit, k2]; simp [hj]
theorem me_sets {l : List Int} (h : Chn l) : setsOk l.length (meV l).length (meV l) := ⟨rfl, fun i hi => by
  obtain ⟨k, _, _, e, _⟩ := me_bS hi
  have := mtS_64 h.1 k l.length (Nat.le_refl _)
  rw [e]; omega⟩
theorem me_nm {l : List Int} (h : Chn l) : nm l.length (meV l).length := ⟨h.1.1, h.1.2, by have := meL_len l 8; show (meL l 8).length ≤ 64; omega⟩
theorem me_pos {l : List Int} (h : Chn l) : 1 ≤ (meV l).length := by
  obtain ⟨i, h1, _⟩ := me_reach h 0 (by have := h.1.1; omega)
  omega
noncomputable abbrev bkP (l : List Int) : Int × Int := lpV l.length (meV l).length (bS (meV l))
theorem lp_ex2 {n m : Nat} {S : List Int} (hn : nm n m) (hS : setsOk n m S) (hb : reach n m S) : ∃ z s, Cert n m (bS S) z s ∧ s ≤ 120 := by
  obtain ⟨K, F, h0, hF, hK, hg⟩ := ends hn.2.1 hb (start_good hS)
  have hgK := hg K (Nat.le_refl K)
  obtain ⟨⟨N, σ, hL⟩, _⟩ := id hgK
  exact ⟨_, _, hgK.cert hK, hL.s_120 hn.2.1⟩
theorem bk_ok {l : List Int} (h : Chn l) : (∃ z s, Cert l.length (meV l).length (bS (meV l)) z s) ∧ 1 ≤ (bkP l).2 ∧ (bkP l).2 ≤ 120 ∧ (bkP l).2 ≤ (bkP l).1 ∧ (bkP l).1 ≤ l.length * (bkP l).2 ∧ (bkP l).1 ≤ 720 := by
  obtain ⟨z, s, hc, hs⟩ := lp_ex2 (me_nm h) (me_sets h) (me_reach h)
  obtain ⟨a1, _, a3, a4⟩ := hc.small (me_reach h) h.1.1 (by omega)
  obtain ⟨_, _, _, _, a5, _⟩ := hc.lp
  have a1 : 1 ≤ (bkP l).2 := a1
  have a3 : (bkP l).2 ≤ (bkP l).1 := a3
  have a4 : (bkP l).1 ≤ l.length * (bkP l).2 := a4
  have a5 : (bkP l).2 ≤ s := a5
  have h6 := h.1.2
  have a6 := Int.mul_le_mul_of_nonneg_right (show (l.length : Int) ≤ 6 by omega) (show 0 ≤ (bkP l).2 by omega)
  exact ⟨⟨z, s, hc⟩, a1, by omega, a3, a4, by omega⟩
/-- some output comes with every signal -/
def evr (l : List Int) : Prop := ∃ k, k < 8 ∧ ∀ j, j < l.length → bi (at_ l j) k = true
theorem bk_one {l : List Int} (h : Chn l) : ((bkP l).1 = (bkP l).2) ↔ evr l := by
  obtain ⟨⟨z, s, hc⟩, a1, a2, a3, a4, a5⟩ := bk_ok h
  have h1 := h.1.1
  constructor
  · intro e
    refine Classical.byContradiction fun hn => ?_
    have key := hc.lptop (x := fun _ => 1) (D := (l.length : Int) - 1) (fun _ _ => by decide) (fun i hi => by
      obtain ⟨k, k1, k2, _, k4⟩ := me_bS hi
      have hj : ∃ j, j < l.length ∧ bi (at_ l j) k = false := Classical.byContradiction fun hq => hn ⟨k, k1, fun j hj => by
        cases hb : bi (at_ l j) k
        · exact absurd ⟨j, hj, hb⟩ hq
        · rfl⟩
      obtain ⟨j, hj, hb⟩ := hj
      have e1 : sm l.length (fun v => if bS (meV l) i v = true then (1 : Int) else 0) ≤ sm l.length (fun v => 1 + -(if v = j then (1 : Int) else 0)) := sm_le _ fun v hv => by
        rw [k4 v]
        by_cases ev : v = j
        · subst ev; rw [hb, if_neg (by simp), if_pos rfl]; decide
        · rw [if_neg ev]; split <;> decide
      rw [sm_add, sm_const, sm_neg, sm_one l.length (f := fun v => if v = j then (1 : Int) else 0) (k := j) hj (fun v _ hv => if_neg hv), if_pos rfl] at e1
      omega)
    rw [sm_const, e] at key
    have e2 : (lpV l.length (meV l).length (bS (meV l))).2 * ((l.length : Int) - 1) = (lpV l.length (meV l).length (bS (meV l))).2 * (l.length : Int) - (lpV l.length (meV l).length (bS (meV l))).2 := by rw [Int.mul_sub, Int.mul_one]
    rw [e2, Int.mul_one, Int.mul_comm] at key
    have a1 : 1 ≤ (lpV l.length (meV l).length (bS (meV l))).2 := a1
    omega
  · rintro ⟨k, k1, k2⟩
    obtain ⟨i, i1, i2⟩ := me_at k1 (show 0 < l.length by omega) (k2 0 (by omega))
    obtain ⟨_, ⟨x, x1, x2, x3⟩, _⟩ := id hc
    have e3 := x2 i i1
    have e4 : sm l.length (fun j => if bS (meV l) i j = true then x j else 0) = sm l.length x := sm_congr _ fun j hj => by
      have : bS (meV l) i j = true := by
        show bi (at_ (meV l) i) j = true
        rw [i2]
        show ((mtS l k l.length : Nat) : Int).toNat.testBit j = true
        rw [Int.toNat_natCast, mtS_bit, k2 j hj]; simp [hj]
      rw [if_pos this]
    rw [e4, x3] at e3
    -- z ≤ s
    obtain ⟨_, b2, _, b4, _, _⟩ := hc.lp
    have hs := hc.1
    have e5 : (bkP l).1 * s ≤ (bkP l).2 * s := by
      show (lpV l.length (meV l).length (bS (meV l))).1 * s ≤ _
      rw [b4, Int.mul_comm (bkP l).2 s]
      exact Int.mul_le_mul_of_nonneg_right e3 (by omega)
    have := Int.le_of_mul_le_mul_right e5 hs
    omega
theorem bk_eq1 {l : List Int} (h : Chn l) : ((bkP l).1 = (bkP l).2) → (bkP l).1 = 1 ∧ (bkP l).2 = 1 := fun e => by
  obtain ⟨⟨z, s, hc⟩, a1, a2, a3, a4, a5⟩ := bk_ok h
  obtain ⟨_, _, b3, _⟩ := hc.lp
  have b3 : Nat.gcd (bkP l).1.toNat (bkP l).2.toNat = 1 := b3
  rw [e, Nat.gcd_self] at b3
  omega
/-- the graph is one -/
theorem cf_bi {l : List Int} {x y : Nat} (hx : x < l.length) : bi (at_ (cfV l) x) y = (decide (y < l.length) && cfB l x y) := by
  rw [cfV_at hx]
  show ((cfR l x l.length : Nat) : Int).toNat.testBit y = _
  rw [Int.toNat_natCast, cfR_bit]
theorem cfB_sy (l : List Int) (x y : Nat) : cfB l x y = cfB l y x := by
  unfold cfB
  rw [Nat.and_comm]
  have : decide (x = y) = decide (y = x) := decide_eq_decide.2 eq_comm
  rw [this]
theorem cf_gr {l : List Int} (h : Chn l) : Gr (cfV l) := by
  refine ⟨by rw [sz, cfV_len]; exact h.1, fun x hx => ?_, fun x hx y hy => ?_⟩
  · rw [cfV_len] at hx
    have := cfR_lt l x l.length
    rw [q1, cfV_at hx, cfV_len]
    show 0 ≤ ((cfR l x l.length : Nat) : Int) ∧ ((cfR l x l.length : Nat) : Int) < _
    omega
  · rw [cfV_len] at hx hy
    rw [q2, cf_bi hx, cf_bi hy, cfB_sy l x y]
    refine ⟨by simp [hx, hy], fun e => ?_⟩
    subst e
    rw [cfB_1 rfl, Bool.and_false]
/-- a code's words never come together -/
theorem bk_code {l : List Int} (h : Chn l) : (al (cfV l) : Int) * (bkP l).2 ≤ (bkP l).1 := by
  have hg := cf_gr h
  obtain ⟨⟨z, s, hc⟩, _⟩ := bk_ok h
  obtain ⟨S, hS, e⟩ := al_ex hg
  rw [cfV_len] at hS
  have h6 := h.1.2
  have hlt : ∀ x, x ∈ S → x < l.length := fun x hx => by
    have := hS.ins x hx
    rw [ful_bit (by omega), decide_eq_true_eq] at this; exact this
  have hT := count_sm (f := fun x => x) hlt (fun _ => true)
  simp only [if_true, flt_all] at hT
  have key := hc.lptop (x := fun v => ((S.filter (fun x => decide (x = v))).length : Int)) (D := 1) (fun _ _ => Int.natCast_nonneg _) (fun i hi => by
    show sm l.length (fun v => if bS (meV l) i v = true then ((S.filter (fun x => decide (x = v))).length : Int) else 0) ≤ _
    rw [count_sm (f := fun x => x) hlt (fun v => bS (meV l) i v)]
    have := nodup_le1 (S := S.filter (fun x => bS (meV l) i x)) (hS.nd.filter _) (fun x hx y hy => by
      obtain ⟨hx1, hx2⟩ := List.mem_filter.1 hx
      obtain ⟨hy1, hy2⟩ := List.mem_filter.1 hy
      refine Classical.byContradiction fun hne => ?_
      have h1 := hS.far x hx1 y hy1 hne
      obtain ⟨k, _, _, _, k4⟩ := me_bS hi
      rw [k4] at hx2 hy2
      have bx : bi (at_ l x) k = true := (Bool.and_eq_true _ _ |>.mp hx2).2
      have by' : bi (at_ l y) k = true := (Bool.and_eq_true _ _ |>.mp hy2).2
      have hand : ¬ (at_ l x).toNat &&& (at_ l y).toNat = 0 := fun e0 => by
        have := Nat.testBit_and (at_ l x).toNat (at_ l y).toNat k
        rw [e0, show (at_ l x).toNat.testBit k = true from bx, show (at_ l y).toNat.testBit k = true from by'] at this
        simp at this
      have hnr := nr_eq hg (u := x) (v := y) (by rw [cfV_len]; exact hlt x hx1) (by rw [cfV_len]; exact hlt y hy1)
      rw [cf_bi (hlt x hx1), cfB_3 hne hand] at hnr
      have hnr2 : Sur.nr (cfV l) x y = false := h1
      rw [hnr2] at hnr
      simp [hlt y hy1] at hnr)
    omega)
  rw [hT, Int.mul_one] at key
  rw [← e]; exact key
/-- all outputs at once -/
def alN (l : List Int) : Nat → Nat
  | 0 => 255
  | j + 1 => alN l j &&& (at_ l j).toNat
theorem alN_lt (l : List Int) : ∀ j, alN l j < 256
  | 0 => (by decide : 255 < 256)
  | j + 1 => Nat.lt_of_le_of_lt Nat.and_le_left (alN_lt l j)
theorem alN_bit (l : List Int) (k : Nat) : ∀ n, (alN l n).testBit k = true ↔ k < 8 ∧ ∀ j, j < n → bi (at_ l j) k = true
  | 0 => by
    have : alN l 0 = 2 ^ 8 - 1 := rfl
    rw [this, Nat.testBit_two_pow_sub_one, decide_eq_true_eq]
    exact ⟨fun h => ⟨h, fun j hj => absurd hj (Nat.not_lt_zero _)⟩, fun h => h.1⟩
  | n + 1 => by
    rw [alN, Nat.testBit_and, Bool.and_eq_true, alN_bit l k n]
    constructor
    · rintro ⟨⟨h1, h2⟩, h3⟩
      refine ⟨h1, fun j hj => ?_⟩
      by_cases e : j = n
      · subst e; exact h3
      · exact h2 j (by omega)
    · rintro ⟨h1, h2⟩
      exact ⟨⟨h1, fun j hj => h2 j (by omega)⟩, h2 n (by omega)⟩
theorem alN_ne {l : List Int} : alN l l.length ≠ 0 ↔ evr l := by
  constructor
  · intro h
    obtain ⟨k, hk⟩ := Nat.exists_testBit_of_ne_zero h
    exact ⟨k, (alN_bit l k l.length).1 hk⟩
  · rintro ⟨k, hk⟩ e
    have := (alN_bit l k l.length).2 hk
    rw [e] at this; simp at this
end Go.Proofs.Sur

