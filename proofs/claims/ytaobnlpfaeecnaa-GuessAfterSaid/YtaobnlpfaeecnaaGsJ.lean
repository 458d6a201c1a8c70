/- Layer 6: Lie; the laws of After and Lie. -/
import Derived.Test.YtaobnlpfaeecnaaGsI
import Derived.Test.YtaobnlpfaeecnaaGsD
import Derived.KernelRfl
set_option linter.unusedSimpArgs false
set_option linter.unusedVariables false
set_option linter.unnecessarySimpa false
set_option maxHeartbeats 4000000
set_option maxRecDepth 100000
namespace Go.Proofs.Gss
open Go Go.VM

end Go.Proofs.Gss

