/- Layer 4: the reference's parts of a class. -/
import Derived.Test.YtdnidpojcocklaaDoorLnN0
import Derived.KernelRfl
set_option linter.unusedSimpArgs false
set_option linter.unusedVariables false
set_option linter.unnecessarySimpa false
set_option maxHeartbeats 4000000
set_option maxRecDepth 100000
namespace Go.Proofs.Lrn
open Go Go.VM

abbrev rn {α : Type} (l : List α) : Room := (rm 0 l).wk
theorem rn_rok {α : Type} (l : List α) : rok l (rn l) := by cases l <;> simp [rok, rn, rm, Room.wk]
abbrev acc (l : List Int) : AV := .sl (ints l) l.length (rm 0 l)
abbrev hacc (l : List Int) : H := ⟨[], tk l, []⟩
abbrev inL (l : List Int) : Prop := ∀ c ∈ l, 0 ≤ c ∧ c < 32
end Go.Proofs.Lrn

