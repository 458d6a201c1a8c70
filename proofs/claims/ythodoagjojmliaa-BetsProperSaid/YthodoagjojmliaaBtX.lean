/- Layer 9: what a race and a staking are, by the program and by the reference. -/
import Derived.Test.YthodoagjojmliaaBtW
import Derived.Test.YthodoagjojmliaaBtT
import Derived.KernelRfl
set_option linter.unusedSimpArgs false
set_option linter.unusedVariables false
set_option linter.unnecessarySimpa false
set_option maxHeartbeats 4000000
set_option maxRecDepth 100000
namespace Go.Proofs.Bts
open Go Go.VM
open Go.Proofs.Sur (i_and i_shl i_shr bit_01)

end Go.Proofs.Bts

