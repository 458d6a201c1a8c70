/- Layer 4: examples, and what is left by them. -/
import Derived.Test.YtdnidpojcocklaaDoorLnV3
import Derived.Test.YtdnidpojcocklaaDoorLnV2
import Derived.Test.YtdnidpojcocklaaDoorLnT1
import Derived.KernelRfl
set_option linter.unusedSimpArgs false
set_option linter.unusedVariables false
set_option linter.unnecessarySimpa false
set_option maxHeartbeats 4000000
set_option maxRecDepth 100000
namespace Go.Proofs.Lrn
open Go Go.VM

end Go.Proofs.Lrn

