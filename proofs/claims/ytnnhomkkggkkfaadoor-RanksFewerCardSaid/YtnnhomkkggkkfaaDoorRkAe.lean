/- Layer 2: cycles, by the reference: mathematics. -/
import Derived.Test.YtnnhomkkggkkfaaDoorRkL
import Derived.Test.YtnnhomkkggkkfaaDoorRkJ
set_option linter.unusedSimpArgs false
set_option linter.unusedVariables false
set_option linter.unnecessarySimpa false
set_option maxHeartbeats 4000000
set_option maxRecDepth 100000
namespace Go.Proofs.Rnk
open Go Go.VM

end Go.Proofs.Rnk

