/- Layer 4: what is in a list. -/
import Derived.Test.YtdnidpojcocklaaDoorLnB
import Derived.KernelRfl
set_option linter.unusedSimpArgs false
set_option linter.unusedVariables false
set_option linter.unnecessarySimpa false
set_option maxHeartbeats 4000000
set_option maxRecDepth 100000
namespace Go.Proofs.Lrn
open Go Go.VM

theorem mem_iff {l : List Int} {c : Int} : c ∈ l ↔ ∃ j, j < l.length ∧ l.getD j i0 = c := by
  rw [List.mem_iff_getElem]
  constructor
  · rintro ⟨i, hi, rfl⟩
    exact ⟨i, hi, by simp [List.getD_eq_getElem?_getD, List.getElem?_eq_getElem hi]⟩
  · rintro ⟨i, hi, h⟩
    exact ⟨i, hi, by rw [← h]; simp [List.getD_eq_getElem?_getD, List.getElem?_eq_getElem hi]⟩
end Go.Proofs.Lrn

