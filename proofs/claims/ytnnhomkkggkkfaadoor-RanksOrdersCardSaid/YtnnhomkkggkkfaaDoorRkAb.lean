/- Joined: RkAb, RkAc, RkAd. -/
import Derived.Test.YtnnhomkkggkkfaaDoorRkAa
import Derived.Test.YtnnhomkkggkkfaaDoorVm8
import Derived.KernelRfl
import Derived.Test.YtnnhomkkggkkfaaDoorRkZ
import Derived.Test.YtnnhomkkggkkfaaDoorVm9
import Derived.Test.YtnnhomkkggkkfaaDoorRkK
set_option linter.unusedSimpArgs false
set_option linter.unusedVariables false
set_option linter.unnecessarySimpa false
section
set_option maxHeartbeats 4000000
set_option maxRecDepth 100000
namespace Go.Proofs.Rnk
open Go Go.VM
open Go.Proofs.Sur (andn andn_bit andn_le i_wrap i_and i_or i_andn i_shl i_shr bit_01)

end Go.Proofs.Rnk
end
section
set_option maxHeartbeats 4000000
set_option maxRecDepth 100000
namespace Go.Proofs.Rnk
open Go Go.VM
open Go.Proofs.Sur (andn andn_bit andn_le i_wrap i_and i_or i_andn i_shl i_shr bit_01)

/-- the first part of a set, by the players of the set -/
def pk (t : List Int) (S : Nat) : Nat → Nat
  | 0 => 0
  | j + 1 => if rch t (el S j) = S then pk t S j ||| 2 ^ (el S j) else pk t S j
abbrev rB (t : List Int) : List AV := [.sl (ints (rws t)) t.length .no]
/-- what the rounds before have left -/
def gb (t : List Int) : Nat → List (List AV)
  | 0 => []
  | k + 1 => gb t k ++ [[I (rst t (k + 1) : Nat)], [I (pk t (rst t k) (pc (rst t k)) : Nat)], [I (drop1 (rst t k) (pc (rst t k)) : Nat)]]
abbrev hb (t : List Int) (k : Nat) : List (List AV) := rB t :: (gb t k ++ [[I (rst t k : Nat)]])
end Go.Proofs.Rnk
end
section
set_option maxHeartbeats 4000000
set_option maxRecDepth 100000
namespace Go.Proofs.Rnk
open Go Go.VM
open Go.Proofs.Sur (andn andn_bit andn_le i_wrap i_and i_or i_andn i_shl i_shr bit_01)

end Go.Proofs.Rnk
end
