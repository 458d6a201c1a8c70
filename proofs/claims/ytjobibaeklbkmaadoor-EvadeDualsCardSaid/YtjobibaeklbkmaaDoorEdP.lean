/- Layer 8: what is settled early has the sum 0; duals. -/
import Derived.Test.YtjobibaeklbkmaaDoorEdO
set_option linter.unusedSimpArgs false
set_option linter.unusedVariables false
set_option linter.unnecessarySimpa false
set_option maxRecDepth 100000
namespace Go.Proofs.Evd
open Go.Proofs.Sur (W mem_bits andn andn_bit andn_le lsU lsU_mem)

/-! ### duals -/
def ofB (f : Nat → Bool) : W := fm ((List.range 64).filter f)
theorem ofB_bit {f : Nat → Bool} {s : Nat} (h : s < 64) : hs (ofB f) s = f s := by
  rw [Bool.eq_iff_iff, ofB, fm_bit h, List.mem_filter, List.mem_range]
  simp [h]
/-- the family of what is not in it, turned -/
def du (r : Nat) (F : W) : W := ofB fun s => decide (s &&& r = s) && !hs F (andn r s)
theorem du_bit {r : Nat} {F : W} {s : Nat} (h : s < 64) : hs (du r F) s = (decide (s &&& r = s) && !hs F (andn r s)) := ofB_bit h
theorem andn_self {r : Nat} (hr : r < 64) : andn r r = 0 := by
  apply Nat.eq_of_testBit_eq; intro i
  rw [andn_bit (by omega)]; simp
theorem andn_0 {r : Nat} (hr : r < 64) : andn r 0 = r := by
  apply Nat.eq_of_testBit_eq; intro i
  rw [andn_bit (by omega)]; simp
theorem stl_du {r : Nat} (hr : r < 64) (F : W) : stl r (du r F) = stl r F := by
  simp only [stl]
  have e1 : decide (r &&& r = r) = true := by simp
  have e2 : decide (0 &&& r = 0) = true := by simp
  rw [du_bit hr, du_bit (show 0 < 64 by decide), andn_self hr, andn_0 hr, e1, e2]
  cases hs F 0 <;> cases hs F r <;> rfl
theorem du_wot {r : Nat} (hr : r < 64) (F : W) {x : Nat} (hx : x < 6) (hb : r.testBit x = true) : wot (du r F) x = du (rst r x) (lnk F x) := by
  refine ext fun s h => ?_
  have hl : andn (rst r x) s < 64 := Nat.lt_of_le_of_lt (andn_le (by have := rst_lt (x := x) hr; omega)) (rst_lt hr)
  rw [wot_bit hx h, du_bit h, du_bit h, lnk_bit hx hl]
  cases hq : s.testBit x
  · have e1 : (s &&& r = s) ↔ (s &&& rst r x = s) := by
      rw [← sub_and, ← sub_and]
      constructor
      · intro k i hi
        rw [rst_bit hr, k i hi, Bool.true_and, Bool.not_eq_true', decide_eq_false_iff_not]
        rintro rfl; rw [hq] at hi; cases hi
      · intro k i hi
        have := k i hi
        rw [rst_bit hr, Bool.and_eq_true] at this; exact this.1
    have e2 : andn (rst r x) s ||| 2 ^ x = andn r s := by
      apply Nat.eq_of_testBit_eq; intro i
      rw [Nat.testBit_or, andn_bit (by have := rst_lt (x := x) hr; omega), rst_bit hr, andn_bit (by omega), Nat.testBit_two_pow]
      by_cases e : x = i
      · subst e; simp [hb, hq]
      · simp [e]
    have e3 : (andn (rst r x) s).testBit x = false := by
      rw [andn_bit (by have := rst_lt (x := x) hr; omega), rst_bit hr]; simp
    rw [e2, e3]
    simp only [e1, Bool.not_false, Bool.and_true]
  · have : ¬ (s &&& rst r x = s) := fun k => by
      have := sub_and.2 k x hq
      rw [rst_bit hr] at this; simp at this
    simp [this]
theorem du_lnk {r : Nat} (hr : r < 64) (F : W) {x : Nat} (hx : x < 6) (hb : r.testBit x = true) : lnk (du r F) x = du (rst r x) (wot F x) := by
  refine ext fun s h => ?_
  have hl : andn (rst r x) s < 64 := Nat.lt_of_le_of_lt (andn_le (by have := rst_lt (x := x) hr; omega)) (rst_lt hr)
  rw [lnk_bit hx h, du_bit (or_lt hx h), du_bit h, wot_bit hx hl]
  cases hq : s.testBit x
  · have e1 : ((s ||| 2 ^ x) &&& r = s ||| 2 ^ x) ↔ (s &&& rst r x = s) := by
      rw [← sub_and, ← sub_and]
      constructor
      · intro k i hi
        rw [rst_bit hr, k i (by rw [Nat.testBit_or, hi]; rfl), Bool.true_and, Bool.not_eq_true', decide_eq_false_iff_not]
        rintro rfl; rw [hq] at hi; cases hi
      · intro k i hi
        rw [Nat.testBit_or, Nat.testBit_two_pow, Bool.or_eq_true, decide_eq_true_eq] at hi
        rcases hi with hi | rfl
        · have := k i hi
          rw [rst_bit hr, Bool.and_eq_true] at this; exact this.1
        · exact hb
    have e2 : andn r (s ||| 2 ^ x) = andn (rst r x) s := by
      apply Nat.eq_of_testBit_eq; intro i
      rw [andn_bit (show r < _ by omega), andn_bit (by have := rst_lt (x := x) hr; omega), rst_bit hr, Nat.testBit_or, Nat.testBit_two_pow]
      by_cases e : x = i
      · subst e; simp
      · simp [e]
    have e3 : (andn (rst r x) s).testBit x = false := by
      rw [andn_bit (by have := rst_lt (x := x) hr; omega), rst_bit hr]; simp
    rw [e2, e3]
    simp only [e1, Bool.not_false, Bool.and_true]
  · have : ¬ (s &&& rst r x = s) := fun k => by
      have := sub_and.2 k x hq
      rw [rst_bit hr] at this; simp at this
    simp [this]
theorem du_ask : ∀ (m r : Nat) (F : W), r < 64 → pc r = m → ask r (du r F) = ask r F
  | 0, r, F, hr, hm => by
    have := pc_zero hr hm; subst this
    rw [ask_stl (stl_zero _), ask_stl (stl_zero _)]
  | m + 1, r, F, hr, hm => by
    by_cases hst : stl r F = true
    · rw [ask_stl hst, ask_stl (by rw [stl_du hr]; exact hst)]
    · rw [ask_eq hr hst, ask_eq hr (by rw [stl_du hr]; exact hst)]
      congr 1
      refine bst_congr (fun x hx hb => ?_) 6 (Nat.le_refl _)
      have hp := pc_rst hx hr hb
      simp only [go]
      rw [du_wot hr F hx hb, du_lnk hr F hx hb, du_ask m _ _ (rst_lt hr) (by omega), du_ask m _ _ (rst_lt hr) (by omega), Nat.max_comm]
end Go.Proofs.Evd

