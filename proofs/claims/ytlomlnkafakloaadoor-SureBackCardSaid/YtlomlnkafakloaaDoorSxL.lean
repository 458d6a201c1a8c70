/- Layer 5: joined graphs, and graphs beside each other: what they are, and their codes. -/
import Derived.Test.YtlomlnkafakloaaDoorSxK
import Derived.Test.YtlomlnkafakloaaDoorSuZ
set_option linter.unusedSimpArgs false
set_option linter.unusedVariables false
set_option linter.unnecessarySimpa false
namespace Go.Proofs.Sur
open Go Go.VM
set_option maxHeartbeats 1000000
/-- the most words of one letter -/
def al (g : List Int) : Nat := msV (nrV g) (ful g.length)
theorem nrV_gs {g : List Int} (hg : Gr g) : gsW (nrV g) := by
  have := pwW_gs hg 0 (by have := hg.1.2; simp; omega)
  exact this
theorem al_ex {g : List Int} (hg : Gr g) : ∃ S, Ind (nrV g) (ful g.length) S ∧ S.length = al g :=
  ms_get (nrV_gs hg) (by rw [nrV_len]; exact ful_sub (by have := hg.1.2; omega))
/-! beside each other -/
end Go.Proofs.Sur

