/- Layer 9: what there is after a race, by the program and by the reference. -/
import Derived.Test.YthodoagjojmliaaBtY
import Derived.KernelRfl
set_option linter.unusedSimpArgs false
set_option linter.unusedVariables false
set_option linter.unnecessarySimpa false
set_option maxHeartbeats 4000000
set_option maxRecDepth 100000
namespace Go.Proofs.Bts
open Go Go.VM
open Go.Proofs.Sur (i_and i_shl i_shr bit_01)

abbrev stD (s : List Pr) : Int := ((dn s s.length : Nat) : Int)
end Go.Proofs.Bts

