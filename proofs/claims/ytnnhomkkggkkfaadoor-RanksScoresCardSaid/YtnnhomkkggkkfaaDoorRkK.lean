/- Layer 2: the law of kings and scores. -/
import Derived.Test.YtnnhomkkggkkfaaDoorRkJ
import Derived.KernelRfl
set_option linter.unusedSimpArgs false
set_option linter.unusedVariables false
set_option linter.unnecessarySimpa false
set_option maxHeartbeats 4000000
set_option maxRecDepth 100000
namespace Go.Proofs.Rnk
open Go Go.VM
open Go.Proofs.Sur (andn andn_bit andn_le i_wrap i_and i_or i_andn i_shl i_shr bit_01)

theorem cut_eq {t : List Int} (h : t.length ≤ 11) : cut t = t := List.take_of_length_le h
theorem cut_get {t : List Int} {i : Nat} (h : i < (cut t).length) : ia (cut t) i = ia t i := by
  have h1 : i < 11 := by simp only [cut, List.length_take] at h; omega
  simp only [ia, cut, List.getD_eq_getElem?_getD, List.getElem?_take, if_pos h1]
theorem cut_in {t : List Int} (h : inI t) : inI (cut t) := fun i hi => by
  rw [cut_get hi]; exact h i (by simp only [cut, List.length_take] at hi; omega)
theorem cut_tn {t : List Int} (h : ¬ Tn t) : ¬ Tn (cut t) := fun k => by
  have h8 := k.s.2
  have : t.length ≤ 11 := by simp only [cut, List.length_take] at h8; omega
  rw [cut_eq this] at k
  exact h k
/-- what is asked of a slice as an argument -/
abbrev pL (t : List Int) (r : Room) : Prop := (lim t.length ∧ rok t r ∧ em t r) ∧ inI t
theorem pL_rr {t : List Int} {q : RK} (h1 : t.length ≤ Go.maxLen) (h2 : q.mt = true → t = []) (h3 : inI t) : pL t (rr q) := by
  refine ⟨⟨Nat.le_trans h1 (by decide), fun hl e => ?_, fun e => ?_⟩, h3⟩
  · cases q <;> simp_all [rr, RK.mt]
  · cases q <;> simp_all [rr, RK.mt]
end Go.Proofs.Rnk

