/- Layer 7: the pairs of an order, and what they make. -/
import Derived.Test.YtmgbglnljnlapaaOrT
set_option linter.unusedSimpArgs false
set_option linter.unusedVariables false
set_option linter.unnecessarySimpa false
namespace Go.Proofs.Ord
open Go Go.VM
end Go.Proofs.Ord

