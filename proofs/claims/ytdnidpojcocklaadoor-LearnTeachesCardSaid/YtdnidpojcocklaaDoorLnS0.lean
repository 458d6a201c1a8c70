/- Layer 4: the learners. -/
import Derived.Test.YtdnidpojcocklaaDoorLnI
import Derived.KernelRfl
set_option linter.unusedSimpArgs false
set_option linter.unusedVariables false
set_option linter.unnecessarySimpa false
set_option maxHeartbeats 4000000
set_option maxRecDepth 100000
namespace Go.Proofs.Lrn
open Go Go.VM

end Go.Proofs.Lrn

