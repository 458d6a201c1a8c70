/- Layer 5: joined graphs, and graphs beside each other: what they are, and their codes. -/
import Derived.Test.YtlomlnkafakloaaDoorSxK
import Derived.Test.YtlomlnkafakloaaDoorSuZ
set_option linter.unusedSimpArgs false
set_option linter.unusedVariables false
set_option linter.unnecessarySimpa false
namespace Go.Proofs.Sur
open Go Go.VM
set_option maxHeartbeats 1000000
def al (g : List Int) : Nat := msV (nrV g) (ful g.length)
theorem nrV_gs {g : List Int} (hg : Gr g) : gsW (nrV g) := by
  have := pwW_gs hg 0 (by have := hg.1.2; simp; omega)
  exact this
/-! beside each other -/
end Go.Proofs.Sur

