/- Layer 5: sets of neighbours. -/
import Derived.Test.YtlomlnkafakloaaDoorSuB
import Derived.Test.YtlomlnkafakloaaDoorSuK
import Derived.Test.YtlomlnkafakloaaDoorSuF
import Derived.KernelRfl
set_option linter.unusedSimpArgs false
set_option linter.unusedVariables false
set_option linter.unnecessarySimpa false
set_option maxHeartbeats 4000000
set_option maxRecDepth 100000
namespace Go.Proofs.Sur
open Go Go.VM

/-- a signal is not of a set, or a neighbour of all others -/
def qc (g : List Int) (s i : Nat) : Bool := !s.testBit i || decide (andn s (at_ g i).toNat = 2 ^ i)
def okF (g : List Int) (s : Nat) : Nat → Bool
  | 0 => true
  | j + 1 => okF g s j && qc g s j
/-- all sets of neighbours below a number -/
def clL (g : List Int) : Nat → List Int
  | 0 => []
  | s + 1 => if s ≠ 0 ∧ okF g s g.length = true then clL g s ++ [(s : Int)] else clL g s
def clV (g : List Int) : List Int := clL g (2 ^ g.length)
abbrev iac (l : List Int) : AV := .sl (ints l) l.length (rm 0 l)
abbrev ihc (l : List Int) : H := ⟨[], tk l, []⟩
end Go.Proofs.Sur

