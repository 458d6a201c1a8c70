/- Layer 4: the tree that is written is one. -/
import Derived.Test.YtdnidpojcocklaaDoorLnBi
import Derived.Test.YtdnidpojcocklaaDoorLnBe
set_option linter.unusedSimpArgs false
set_option linter.unusedVariables false
set_option linter.unnecessarySimpa false
set_option maxHeartbeats 4000000
set_option maxRecDepth 100000
namespace Go.Proofs.Lrn
open Go Go.VM
theorem nd_app2 {A B : List Tri} {i : Nat} (h : A.length ≤ i) : nd (A ++ B) i = nd B (i - A.length) := by
  simp only [nd, List.getD_eq_getElem?_getD, List.getElem?_append_right h]
/-- links of the nodes from the n-th on -/
structure Lks (L : List Tri) (n : Nat) : Prop where
  r : ∀ i, i < 2 * L.length → nx L i = -1 ∨ (((n + i / 2 : Nat) : Int) < nx L i ∧ nx L i < ((n + L.length : Nat) : Int))
  d : ∀ i k, i < k → k < 2 * L.length → nx L k ≠ -1 → nx L i ≠ nx L k
end Go.Proofs.Lrn

