/- Layer 2: the most players without a cycle, by the reference. -/
import Derived.Test.YtnnhomkkggkkfaaDoorRkAf
import Derived.Test.YtnnhomkkggkkfaaDoorRkS
import Derived.Test.YtnnhomkkggkkfaaDoorRkI
import Derived.KernelRfl
set_option linter.unusedSimpArgs false
set_option linter.unusedVariables false
set_option linter.unnecessarySimpa false
set_option maxHeartbeats 4000000
set_option maxRecDepth 100000
namespace Go.Proofs.Rnk
open Go Go.VM
open Go.Proofs.Sur (andn andn_bit andn_le i_wrap i_and i_or i_andn i_shl i_shr bit_01)

/-- none of the first cycles is within a set -/
def fr (l : List Tri) (S : Nat) : Nat → Bool
  | 0 => true
  | j + 1 => fr l S j && !ins (l.getD j tri0) (S : Int)
end Go.Proofs.Rnk

