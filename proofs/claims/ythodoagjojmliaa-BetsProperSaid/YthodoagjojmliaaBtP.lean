/- Layer 9: scores, by the reference; the law. -/
import Derived.Test.YthodoagjojmliaaBtO
import Derived.KernelRfl
set_option linter.unusedSimpArgs false
set_option linter.unusedVariables false
set_option linter.unnecessarySimpa false
set_option maxHeartbeats 4000000
set_option maxRecDepth 100000
namespace Go.Proofs.Bts
open Go Go.VM

def zs (n j : Nat) : List Pr := (List.range n).map fun i => if i < j then (0, 1) else pair0
abbrev hS (l : List Pr) : H := ⟨[[I 0, I 0], pairsA l], [], []⟩
end Go.Proofs.Bts

