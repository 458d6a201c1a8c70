/- Layer 4: examples. -/
import Derived.Test.YtdnidpojcocklaaDoorLnQ
import Derived.Test.YtdnidpojcocklaaDoorLnE
import Derived.Test.YtdnidpojcocklaaDoorVm7
import Derived.KernelRfl
set_option linter.unusedSimpArgs false
set_option linter.unusedVariables false
set_option linter.unnecessarySimpa false
set_option maxHeartbeats 4000000
set_option maxRecDepth 100000
namespace Go.Proofs.Lrn
open Go Go.VM

abbrev ps (l : List Pr) (r : Room) : AV := .sl (pairsA l) l.length r
end Go.Proofs.Lrn

