/- Layer 5: how the reference finds the most words and the first code. -/
import Derived.Test.YtlomlnkafakloaaDoorSuY
import Derived.KernelRfl
set_option linter.unusedSimpArgs false
set_option linter.unusedVariables false
set_option linter.unnecessarySimpa false
set_option maxHeartbeats 4000000
set_option maxRecDepth 100000
namespace Go.Proofs.Sur
open Go Go.VM

end Go.Proofs.Sur

