/- Layer 9: what a race is, by the program. -/
import Derived.Test.YthodoagjojmliaaBtV
import Derived.Test.YthodoagjojmliaaVm9
import Derived.KernelRfl
set_option linter.unusedSimpArgs false
set_option linter.unusedVariables false
set_option linter.unnecessarySimpa false
set_option maxHeartbeats 4000000
set_option maxRecDepth 100000
namespace Go.Proofs.Bts
open Go Go.VM

abbrev hWb : H := ⟨[[I 0], [I 12], [I 1], [I 12]], [], []⟩
end Go.Proofs.Bts

