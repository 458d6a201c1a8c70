/- Layer 7: the pairs of an order, and what they make. -/
import Derived.Test.YtmgbglnljnlapaaOrT
set_option linter.unusedSimpArgs false
set_option linter.unusedVariables false
set_option linter.unnecessarySimpa false
namespace Go.Proofs.Ord
open Go Go.VM
theorem getD_mem {l : List Pr} {k : Nat} (h : k < l.length) : l.getD k pair0 ∈ l := by
  rw [List.getD_eq_getElem?_getD, List.getElem?_eq_getElem h]
  exact List.getElem_mem h
end Go.Proofs.Ord

