/- Layer 4: Check, of a class. -/
import Derived.Test.YtdnidpojcocklaaDoorLnBh
import Derived.Test.YtdnidpojcocklaaDoorLnC
import Derived.KernelRfl
set_option linter.unusedSimpArgs false
set_option linter.unusedVariables false
set_option linter.unnecessarySimpa false
set_option maxHeartbeats 4000000
set_option maxRecDepth 100000
namespace Go.Proofs.Lrn
open Go Go.VM
theorem u64_sm {n : Nat} (h : n ≤ 1000) : IntKind.u64.wrap (n : Int) = (n : Int) := by
  simp only [IntKind.wrap, IntKind.bits, IntKind.signed]
  simp
  omega
structure CkP (p : Int) (cl : List Int) (r : Room) (l : List Tri) (q : Room) : Prop where
  c : cls p cl ∧ rok cl r
  n : l.length ≤ 70
  q : rok l q
end Go.Proofs.Lrn

