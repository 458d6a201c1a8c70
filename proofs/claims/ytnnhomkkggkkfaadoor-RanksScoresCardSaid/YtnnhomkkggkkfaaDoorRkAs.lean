/- Layer 2: the best order, by the program. -/
import Derived.Test.YtnnhomkkggkkfaaDoorRkAr
import Derived.Test.YtnnhomkkggkkfaaDoorRkD
import Derived.Test.YtnnhomkkggkkfaaDoorRkR
import Derived.Test.YtnnhomkkggkkfaaDoorVm9
import Derived.KernelRfl
set_option linter.unusedSimpArgs false
set_option linter.unusedVariables false
set_option linter.unnecessarySimpa false
set_option maxHeartbeats 4000000
set_option maxRecDepth 100000
namespace Go.Proofs.Rnk
open Go Go.VM
open Go.Proofs.Sur (andn andn_bit andn_le i_wrap i_and i_or i_andn i_shl i_shr bit_01)

/-- the best order's first ones -/
def oL (t : List Int) (k : Nat) : List Int := (List.range k).map fun i => ((oo (sn t) (alls t.length) i : Nat) : Int)
@[simp] theorem oL_len (t : List Int) (k : Nat) : (oL t k).length = k := by simp [oL]
abbrev lO (l : List Int) : AV := .sl (ints l) l.length (rm 0 l)
abbrev hO (l : List Int) : H := ⟨[], tk l, []⟩
end Go.Proofs.Rnk

