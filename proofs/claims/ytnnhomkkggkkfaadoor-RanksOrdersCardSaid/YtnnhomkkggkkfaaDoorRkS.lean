/- Joined: RkS, RkAg. -/
import Derived.Test.YtnnhomkkggkkfaaDoorRkR
import Derived.Test.YtnnhomkkggkkfaaDoorRkK
import Derived.KernelRfl
import Derived.Test.YtnnhomkkggkkfaaDoorRkAp
import Derived.Test.YtnnhomkkggkkfaaDoorRkI
set_option linter.unusedSimpArgs false
set_option linter.unusedVariables false
set_option linter.unnecessarySimpa false
section
set_option maxHeartbeats 4000000
set_option maxRecDepth 100000
namespace Go.Proofs.Rnk
open Go Go.VM
open Go.Proofs.Sur (andn andn_bit andn_le i_wrap i_and i_or i_andn i_shl i_shr bit_01)

end Go.Proofs.Rnk
end
section
set_option maxHeartbeats 4000000
set_option maxRecDepth 100000
namespace Go.Proofs.Rnk
open Go Go.VM
open Go.Proofs.Sur (andn andn_bit andn_le i_wrap i_and i_or i_andn i_shl i_shr bit_01)

/-- none of the first cycles is within a set -/
def fr (l : List Tri) (S : Nat) : Nat → Bool
  | 0 => true
  | j + 1 => fr l S j && !ins (l.getD j tri0) (S : Int)
end Go.Proofs.Rnk
end
