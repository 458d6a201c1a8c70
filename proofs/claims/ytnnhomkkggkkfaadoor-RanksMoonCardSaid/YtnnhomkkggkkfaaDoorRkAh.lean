/- Joined: RkAh, RkAi. -/
import Derived.Test.YtnnhomkkggkkfaaDoorRkM
import Derived.Test.YtnnhomkkggkkfaaDoorRkC
import Derived.Test.YtnnhomkkggkkfaaDoorVm9
import Derived.Test.YtnnhomkkggkkfaaDoorVm8
import Derived.KernelRfl
set_option linter.unusedSimpArgs false
set_option linter.unusedVariables false
set_option linter.unnecessarySimpa false
section
set_option maxHeartbeats 4000000
set_option maxRecDepth 100000
namespace Go.Proofs.Rnk
open Go Go.VM
open Go.Proofs.Sur (andn andn_bit andn_le i_wrap i_and i_or i_andn i_shl i_shr bit_01)

end Go.Proofs.Rnk
end
section
set_option maxHeartbeats 4000000
set_option maxRecDepth 100000
namespace Go.Proofs.Rnk
open Go Go.VM
open Go.Proofs.Sur (andn andn_bit andn_le i_wrap i_and i_or i_andn i_shl i_shr bit_01)

structure PK (n : Nat) (l : List Pr) (k : Nat) : Prop where
  a : 0 ≤ (l.getD k pair0).1
  b : (l.getD k pair0).1 < (l.getD k pair0).2
  c : (l.getD k pair0).2 < (n : Int)
structure PD (n : Nat) (l : List Pr) (k : Nat) : Prop where
  p : PK n l k
  d : l.getD k pair0 ∉ l.take k
structure PS (n : Nat) (l : List Pr) : Prop where
  h : ∀ k, k < l.length → PD n l k
structure PB (n : Nat) (l : List Pr) : Prop where
  le : l.length ≤ 28
  h : PS n l
/-! ### by the reference -/
end Go.Proofs.Rnk
end
