/- Layer 2: the parts, by the reference. -/
import Derived.Test.YtnnhomkkggkkfaaDoorRkAa
import Derived.Test.YtnnhomkkggkkfaaDoorVm8
import Derived.KernelRfl
set_option linter.unusedSimpArgs false
set_option linter.unusedVariables false
set_option linter.unnecessarySimpa false
set_option maxHeartbeats 4000000
set_option maxRecDepth 100000
namespace Go.Proofs.Rnk
open Go Go.VM
open Go.Proofs.Sur (andn andn_bit andn_le i_wrap i_and i_or i_andn i_shl i_shr bit_01)

abbrev lA (l : List Int) : AV := .sl (ints l) l.length (rm 0 l)
abbrev lH (l : List Int) : H := ⟨[], tk l, []⟩
/-- the parts -/
noncomputable abbrev pts (t : List Int) : List Int := pl t (mP t)
/-- the room of the parts, forgotten -/
noncomputable abbrev pR (t : List Int) : Room := (rm 0 (pts t)).wk
end Go.Proofs.Rnk

