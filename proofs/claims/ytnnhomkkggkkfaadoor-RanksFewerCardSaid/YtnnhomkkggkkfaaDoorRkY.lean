/- Layer 2: whom a player reaches, by the reference; the mathematics of it. -/
import Derived.Test.YtnnhomkkggkkfaaDoorRkX
import Derived.Test.YtnnhomkkggkkfaaDoorOrM
import Derived.KernelRfl
set_option linter.unusedSimpArgs false
set_option linter.unusedVariables false
set_option linter.unnecessarySimpa false
set_option maxHeartbeats 4000000
set_option maxRecDepth 100000
namespace Go.Proofs.Rnk
open Go Go.VM
open Go.Proofs.Sur (andn andn_bit andn_le i_wrap i_and i_or i_andn i_shl i_shr bit_01)

/-- the program's relation: oneself and whom one beats -/
def r0 (t : List Int) : Ord.Rel := fun e => if e < t.length then sn t e ||| 2 ^ e else 0
end Go.Proofs.Rnk

