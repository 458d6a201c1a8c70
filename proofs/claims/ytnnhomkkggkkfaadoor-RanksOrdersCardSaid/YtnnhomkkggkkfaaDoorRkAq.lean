/- Joined: RkAq, RkAv. -/
import Derived.Test.YtnnhomkkggkkfaaDoorRkAp
import Derived.Test.YtnnhomkkggkkfaaDoorRkS
import Derived.Test.YtnnhomkkggkkfaaDoorRkK
import Derived.KernelRfl
import Derived.Test.YtnnhomkkggkkfaaDoorRkAu
set_option linter.unusedSimpArgs false
set_option linter.unusedVariables false
set_option linter.unnecessarySimpa false
section
set_option maxHeartbeats 4000000
set_option maxRecDepth 100000
namespace Go.Proofs.Rnk
open Go Go.VM
open Go.Proofs.Sur (andn andn_bit andn_le i_wrap i_and i_or i_xor i_andn i_shl i_shr bit_01)

/-- 'list' of a slice that is not longer and not empty -/
noncomputable def c19q : PCtr Tryd.prog where
  f := 19
  X := List Int × Room
  args x := [ls x.1 x.2]
  pre x := ((lim x.1.length ∧ rok x.1 x.2 ∧ em x.1 x.2) ∧ x.1.length ≤ 11) ∧ x.1 ≠ []
  v x := ls x.1 .no
  det := by
    rintro ⟨l, r⟩ ⟨l', r'⟩ e _ _
    simp at e
    simp [e]
  ok := by
    rintro ⟨l, r⟩ ⟨h1, h2⟩
    have := c19s.ok (l, r) h1
    have e : c19s.v (l, r) = ls l .no := by
      show ls l (rcl r) = _
      have hr := h1.1.2.1 h2
      cases r <;> first | rfl | exact absurd rfl hr
    rw [e] at this
    exact this
end Go.Proofs.Rnk
end
section
set_option maxHeartbeats 4000000
set_option maxRecDepth 100000
namespace Go.Proofs.Rnk
open Go Go.VM
open Go.Proofs.Sur (andn andn_bit andn_le i_wrap i_and i_or i_xor i_andn i_shl i_shr bit_01)

theorem oR_rok (t : List Int) : rok (oT t) (oR t) ∧ em (oT t) (oR t) := by
  constructor
  · intro hne
    cases hq : oT t with
    | nil => exact absurd hq hne
    | cons x l => simp [rm, hq, Room.wk]
  · intro e
    simp only [oR] at e
    cases hq : oT t with
    | nil => rfl
    | cons x l => rw [hq] at e; simp [rm, Room.wk] at e
end Go.Proofs.Rnk
end
