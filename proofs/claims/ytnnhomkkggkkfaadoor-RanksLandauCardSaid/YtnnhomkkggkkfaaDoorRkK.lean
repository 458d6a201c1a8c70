/- Layer 2: the law of kings and scores. -/
import Derived.Test.YtnnhomkkggkkfaaDoorRkJ
import Derived.KernelRfl
set_option linter.unusedSimpArgs false
set_option linter.unusedVariables false
set_option linter.unnecessarySimpa false
set_option maxHeartbeats 4000000
set_option maxRecDepth 100000
namespace Go.Proofs.Rnk
open Go Go.VM
open Go.Proofs.Sur (andn andn_bit andn_le i_wrap i_and i_or i_andn i_shl i_shr bit_01)

theorem cut_eq {t : List Int} (h : t.length ≤ 11) : cut t = t := List.take_of_length_le h
/-- 'list' of a slice that is not longer -/
noncomputable def c19s : PCtr Tryd.prog where
  f := 19
  X := List Int × Room
  args x := [ls x.1 x.2]
  pre x := (lim x.1.length ∧ rok x.1 x.2 ∧ em x.1 x.2) ∧ x.1.length ≤ 11
  v x := ls x.1 (rcl x.2)
  det := by
    rintro ⟨l, r⟩ ⟨l', r'⟩ e _ _
    simp at e
    simp [e]
  ok := by
    rintro ⟨l, r⟩ ⟨h1, h2⟩
    have := c19.ok (l, r) h1
    have e : c19.v (l, r) = ls l (rcl r) := by show ls (cut l) (rcl r) = _; rw [cut_eq h2]
    rw [e] at this
    exact this
end Go.Proofs.Rnk

