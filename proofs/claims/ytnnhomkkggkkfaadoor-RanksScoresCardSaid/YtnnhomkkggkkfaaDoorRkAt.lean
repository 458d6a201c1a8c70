/- Layer 2: orders, by the program and by the reference. -/
import Derived.Test.YtnnhomkkggkkfaaDoorRkAs
import Derived.KernelRfl
set_option linter.unusedSimpArgs false
set_option linter.unusedVariables false
set_option linter.unnecessarySimpa false
set_option maxHeartbeats 4000000
set_option maxRecDepth 100000
namespace Go.Proofs.Rnk
open Go Go.VM
open Go.Proofs.Sur (andn andn_bit andn_le i_wrap i_and i_or i_andn i_shl i_shr bit_01)

/-! ### is it an order? -/
structure OD (n : Nat) (l : List Int) (k : Nat) : Prop where
  a : 0 ≤ l.getD k i0
  b : l.getD k i0 < (n : Int)
  d : l.getD k i0 ∉ l.take k
structure OS (n : Nat) (l : List Int) : Prop where
  h : ∀ k, k < l.length → OD n l k
structure OB (n : Nat) (l : List Int) : Prop where
  le : l.length = n
  h : OS n l
end Go.Proofs.Rnk

