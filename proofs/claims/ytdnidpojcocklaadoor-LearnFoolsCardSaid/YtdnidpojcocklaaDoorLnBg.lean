/- Layer 4: what areTold comes to. -/
import Derived.Test.YtdnidpojcocklaaDoorLnBf
import Derived.Test.YtdnidpojcocklaaDoorVm8
import Derived.KernelRfl
set_option linter.unusedSimpArgs false
set_option linter.unusedVariables false
set_option linter.unnecessarySimpa false
set_option maxHeartbeats 4000000
set_option maxRecDepth 100000
namespace Go.Proofs.Lrn
open Go Go.VM
/-- the links, one behind the other -/
def nx (l : List Tri) (i : Nat) : Int := if i % 2 = 0 then (nd l (i / 2)).2.1 else (nd l (i / 2)).2.2
open Classical in
noncomputable def tdB (l : List Tri) (k : Nat) : List Bool := (List.range l.length).map fun (j : Nat) => decide (∃ i, i < k ∧ nx l i = ((j : Nat) : Int))
@[simp] theorem tdB_len (l : List Tri) (k : Nat) : (tdB l k).length = l.length := by simp [tdB]
end Go.Proofs.Lrn

