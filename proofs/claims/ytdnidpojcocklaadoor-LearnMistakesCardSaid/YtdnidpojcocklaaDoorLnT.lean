/- Layer 4: the law of the greatest number of mistakes. -/
import Derived.Test.YtdnidpojcocklaaDoorLnS
import Derived.Test.YtdnidpojcocklaaDoorLnT1
import Derived.Test.YtdnidpojcocklaaDoorLnT2
import Derived.Test.YtdnidpojcocklaaDoorLnO0
import Derived.Test.YtdnidpojcocklaaDoorLnJ
import Derived.Test.YtdnidpojcocklaaDoorLnD
import Derived.Test.YtdnidpojcocklaaDoorLnE
import Derived.KernelRfl
set_option linter.unusedSimpArgs false
set_option linter.unusedVariables false
set_option linter.unnecessarySimpa false
set_option maxHeartbeats 4000000
set_option maxRecDepth 100000
namespace Go.Proofs.Lrn
open Go Go.VM

end Go.Proofs.Lrn

