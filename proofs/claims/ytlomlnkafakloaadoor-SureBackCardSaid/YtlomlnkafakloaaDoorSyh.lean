/- Layer 5: weights: the contract of Weigh. -/
import Derived.Test.YtlomlnkafakloaaDoorSyg
import Derived.KernelRfl
set_option linter.unusedSimpArgs false
set_option linter.unusedVariables false
set_option linter.unnecessarySimpa false
set_option maxHeartbeats 4000000
set_option maxRecDepth 100000
namespace Go.Proofs.Sur
open Go Go.VM

theorem at_ix {l : List Int} {c : Int} (h : c ∈ l) : ∃ i, i < l.length ∧ at_ l i = c := mem_gt h
end Go.Proofs.Sur

