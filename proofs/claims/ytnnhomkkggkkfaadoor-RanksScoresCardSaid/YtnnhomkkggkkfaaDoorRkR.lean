/- Layer 2: sets of players without a cycle, their mathematics. -/
import Derived.Test.YtnnhomkkggkkfaaDoorRkQ
import Derived.Test.YtnnhomkkggkkfaaDoorRkJ
set_option linter.unusedSimpArgs false
set_option linter.unusedVariables false
set_option linter.unnecessarySimpa false
set_option maxRecDepth 100000
namespace Go.Proofs.Rnk
open Go Go.VM
open Go.Proofs.Sur (andn andn_bit andn_le)

/-! ### what cycles there are -/
/-! ### how many there are -/
/-! ### with one player less -/
def less (t : List Int) (k : Nat) : Nat → List Int
  | 0 => []
  | j + 1 => less t k j ++ [((sn t j &&& alls k : Nat) : Int)]
end Go.Proofs.Rnk

