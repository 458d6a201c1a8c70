/- Layer 9: the law of averages (P9.7). -/
import Derived.Test.YthodoagjojmliaaBtS
import Derived.KernelRfl
set_option linter.unusedSimpArgs false
set_option linter.unusedVariables false
set_option linter.unnecessarySimpa false
set_option maxHeartbeats 4000000
set_option maxRecDepth 100000
namespace Go.Proofs.Bts
open Go Go.VM

abbrev hT (p : Pr) (m : List Pr) : H := ⟨[[I p.1, I p.2], pairsA m], [], []⟩
end Go.Proofs.Bts

