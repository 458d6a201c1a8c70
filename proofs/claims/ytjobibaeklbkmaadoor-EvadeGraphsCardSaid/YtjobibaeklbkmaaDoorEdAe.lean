/- Layer 8: EvadeDuals. -/
import Derived.Test.YtjobibaeklbkmaaDoorEdAd
import Derived.Test.YtjobibaeklbkmaaDoorEdAc
import Derived.KernelRfl
set_option linter.unusedSimpArgs false
set_option linter.unusedVariables false
set_option linter.unnecessarySimpa false
set_option maxHeartbeats 4000000
set_option maxRecDepth 100000
namespace Go.Proofs.Evd
open Go Go.VM
open Go.Proofs.Sur (W w_wrap w_nat w_inj w_eq0 w_and w_or w_andn w_shl w_shr neg_nat sub_nat tz tz_ok cl bits_cons bits_0 bits_len andn andn_bit andn_le i_wrap i_and i_or i_andn i_shl i_shr bit_01)

/-- a copy of what 'list' returns -/
noncomputable def c55f : PCtr Tryd.prog where
  f := 55
  X := W × Room
  args x := [ls (lst x.1) x.2]
  pre x := rok (lst x.1) x.2 ∧ em (lst x.1) x.2
  v x := ls (lst x.1) (rcl x.2)
  det := by
    rintro ⟨l, r⟩ ⟨l', r'⟩ e _ _
    simp at e
    simp [e]
  ok := by
    rintro ⟨F, r⟩ ⟨h1, h2⟩
    have hb : (lst F).length ≤ 1000000000 := by have := lst_len F; omega
    exact c55.ok (lst F, r, (lst F).length) ⟨rfl, hb, h1, h2⟩
theorem rn_em (l : List Int) : em l (rn l) := fun h => by cases l <;> simp_all [rn, rm, Room.wk]
end Go.Proofs.Evd

