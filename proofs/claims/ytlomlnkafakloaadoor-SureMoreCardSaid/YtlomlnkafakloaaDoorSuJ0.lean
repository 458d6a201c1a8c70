/- Layer 5: lists as they come. -/
import Derived.Test.YtlomlnkafakloaaDoorSuI
import Derived.KernelRfl
set_option linter.unusedSimpArgs false
set_option linter.unusedVariables false
set_option linter.unnecessarySimpa false
set_option maxHeartbeats 4000000
set_option maxRecDepth 100000
namespace Go.Proofs.Sur
open Go Go.VM

abbrev pl (l : List Int) (q : RK) : Prop := lim l.length ∧ (q.mt = true → l = [])
theorem pl_rok {l : List Int} {q : RK} (h : pl l q) : rok l (rr q) := by
  intro hne
  cases q
  · simp [rr]
  · exact absurd (h.2 rfl) hne
  · simp [rr]
end Go.Proofs.Sur

