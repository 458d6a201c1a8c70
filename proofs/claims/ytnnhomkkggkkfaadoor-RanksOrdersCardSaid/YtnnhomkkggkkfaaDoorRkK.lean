/- Layer 2: the law of kings and scores. -/
import Derived.Test.YtnnhomkkggkkfaaDoorRkJ
import Derived.KernelRfl
set_option linter.unusedSimpArgs false
set_option linter.unusedVariables false
set_option linter.unnecessarySimpa false
set_option maxHeartbeats 4000000
set_option maxRecDepth 100000
namespace Go.Proofs.Rnk
open Go Go.VM
open Go.Proofs.Sur (andn andn_bit andn_le i_wrap i_and i_or i_andn i_shl i_shr bit_01)

theorem cut_eq {t : List Int} (h : t.length ≤ 11) : cut t = t := List.take_of_length_le h
theorem cut_get {t : List Int} {i : Nat} (h : i < (cut t).length) : ia (cut t) i = ia t i := by
  have h1 : i < 11 := by simp only [cut, List.length_take] at h; omega
  simp only [ia, cut, List.getD_eq_getElem?_getD, List.getElem?_take, if_pos h1]
theorem cut_in {t : List Int} (h : inI t) : inI (cut t) := fun i hi => by
  rw [cut_get hi]; exact h i (by simp only [cut, List.length_take] at hi; omega)
theorem cut_tn {t : List Int} (h : ¬ Tn t) : ¬ Tn (cut t) := fun k => by
  have h8 := k.s.2
  have : t.length ≤ 11 := by simp only [cut, List.length_take] at h8; omega
  rw [cut_eq this] at k
  exact h k
theorem emp_rcl (l : List Int) (r : Room) : em l (rcl r) := fun h => by cases r <;> cases h
/-- 'list' of a slice that is not longer -/
noncomputable def c19s : PCtr Tryd.prog where
  f := 19
  X := List Int × Room
  args x := [ls x.1 x.2]
  pre x := (lim x.1.length ∧ rok x.1 x.2 ∧ em x.1 x.2) ∧ x.1.length ≤ 11
  v x := ls x.1 (rcl x.2)
  det := by
    rintro ⟨l, r⟩ ⟨l', r'⟩ e _ _
    simp at e
    simp [e]
  ok := by
    rintro ⟨l, r⟩ ⟨h1, h2⟩
    have := c19.ok (l, r) h1
    have e : c19.v (l, r) = ls l (rcl r) := by show ls (cut l) (rcl r) = _; rw [cut_eq h2]
    rw [e] at this
    exact this
/-- what is asked of a slice as an argument -/
abbrev pL (t : List Int) (r : Room) : Prop := (lim t.length ∧ rok t r ∧ em t r) ∧ inI t
theorem pL_rr {t : List Int} {q : RK} (h1 : t.length ≤ Go.maxLen) (h2 : q.mt = true → t = []) (h3 : inI t) : pL t (rr q) := by
  refine ⟨⟨Nat.le_trans h1 (by decide), fun hl e => ?_, fun e => ?_⟩, h3⟩
  · cases q <;> simp_all [rr, RK.mt]
  · cases q <;> simp_all [rr, RK.mt]
end Go.Proofs.Rnk

