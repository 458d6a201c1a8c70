/- Layer 9: scores and averages. -/
import Derived.Test.YthodoagjojmliaaBtK
import Derived.Test.YthodoagjojmliaaVm8
import Derived.KernelRfl
set_option linter.unusedSimpArgs false
set_option linter.unusedVariables false
set_option linter.unnecessarySimpa false
set_option maxHeartbeats 4000000
set_option maxRecDepth 100000
namespace Go.Proofs.Bts
open Go Go.VM

theorem bn_3 {l : List Pr} (h : jOK l) (hd : dn l l.length ≤ 30000) : bnI (nums l) 30000 := fun i hi => by
  have := nums_b h i hi
  omega
end Go.Proofs.Bts

