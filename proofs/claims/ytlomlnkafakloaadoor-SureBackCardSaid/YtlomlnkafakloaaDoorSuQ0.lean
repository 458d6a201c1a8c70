/- Layer 5: division. -/
import Derived.Test.YtlomlnkafakloaaDoorSuM
set_option linter.unusedSimpArgs false
set_option linter.unusedVariables false
set_option linter.unnecessarySimpa false
namespace Go.Proofs.Sur
open Go Go.VM
end Go.Proofs.Sur

