/- Layer 5: graphs beside each other; the reference's pairs. -/
import Derived.Test.YtlomlnkafakloaaDoorSuH
import Derived.Test.YtlomlnkafakloaaDoorSuK
import Derived.Test.YtlomlnkafakloaaDoorSuJ0
import Derived.KernelRfl
set_option linter.unusedSimpArgs false
set_option linter.unusedVariables false
set_option linter.unnecessarySimpa false
set_option maxHeartbeats 4000000
set_option maxRecDepth 100000
namespace Go.Proofs.Sur
open Go Go.VM

abbrev ih1 (l : List Int) : H := ⟨[], [l.length], []⟩
end Go.Proofs.Sur

