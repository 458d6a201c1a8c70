/- Joined: RkZ, RkAh, RkAi. -/
import Derived.Test.YtnnhomkkggkkfaaDoorRkY
import Derived.Test.YtnnhomkkggkkfaaDoorVm8
import Derived.Test.YtnnhomkkggkkfaaDoorVm7
import Derived.KernelRfl
import Derived.Test.YtnnhomkkggkkfaaDoorRkM
import Derived.Test.YtnnhomkkggkkfaaDoorRkC
import Derived.Test.YtnnhomkkggkkfaaDoorVm9
set_option linter.unusedSimpArgs false
set_option linter.unusedVariables false
set_option linter.unnecessarySimpa false
section
set_option maxHeartbeats 4000000
set_option maxRecDepth 100000
namespace Go.Proofs.Rnk
open Go Go.VM
open Go.Proofs.Sur (andn andn_bit andn_le i_wrap i_and i_or i_andn i_shl i_shr bit_01)

/-- n sets, one behind the other -/
def wl (n : Nat) (A : Nat → Nat) : List Int := (List.range n).map fun e => ((A e : Nat) : Int)
@[simp] theorem wl_len (n : Nat) (A : Nat → Nat) : (wl n A).length = n := by simp [wl]
theorem wl_get {n : Nat} (A : Nat → Nat) {k : Nat} (hk : k < n) : (wl n A).getD k i0 = ((A k : Nat) : Int) := by
  simp [wl, List.getD_eq_getElem?_getD, hk]
abbrev hR (n : Nat) (A : Nat → Nat) : H := ⟨[ints (wl n A)], [], []⟩
/-- the first players are reached by themselves as well -/
def g0 (t : List Int) (k : Nat) : Nat → Nat := fun e => if e < k then sn t e ||| 2 ^ e else sn t e
/-- whom each player reaches -/
abbrev rws (t : List Int) : List Int := wl t.length (rch t)
end Go.Proofs.Rnk
end
section
set_option maxHeartbeats 4000000
set_option maxRecDepth 100000
namespace Go.Proofs.Rnk
open Go Go.VM
open Go.Proofs.Sur (andn andn_bit andn_le i_wrap i_and i_or i_andn i_shl i_shr bit_01)

end Go.Proofs.Rnk
end
section
set_option maxHeartbeats 4000000
set_option maxRecDepth 100000
namespace Go.Proofs.Rnk
open Go Go.VM
open Go.Proofs.Sur (andn andn_bit andn_le i_wrap i_and i_or i_andn i_shl i_shr bit_01)

/-- what is asked of a pair -/
structure PK (n : Nat) (l : List Pr) (k : Nat) : Prop where
  a : 0 ≤ (l.getD k pair0).1
  b : (l.getD k pair0).1 < (l.getD k pair0).2
  c : (l.getD k pair0).2 < (n : Int)
structure PD (n : Nat) (l : List Pr) (k : Nat) : Prop where
  p : PK n l k
  d : l.getD k pair0 ∉ l.take k
structure PS (n : Nat) (l : List Pr) : Prop where
  h : ∀ k, k < l.length → PD n l k
structure PB (n : Nat) (l : List Pr) : Prop where
  le : l.length ≤ 28
  h : PS n l
/-! ### by the reference -/
end Go.Proofs.Rnk
end
