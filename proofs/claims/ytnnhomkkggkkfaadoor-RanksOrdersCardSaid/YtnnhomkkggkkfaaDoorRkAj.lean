/- Joined: RkAj, RkAo. -/
import Derived.Test.YtnnhomkkggkkfaaDoorRkAh
import Derived.KernelRfl
import Derived.Test.YtnnhomkkggkkfaaDoorRkAn
set_option linter.unusedSimpArgs false
set_option linter.unusedVariables false
set_option linter.unnecessarySimpa false
section
set_option maxHeartbeats 4000000
set_option maxRecDepth 100000
namespace Go.Proofs.Rnk
open Go Go.VM
open Go.Proofs.Sur (andn andn_bit andn_le i_wrap i_and i_or i_andn i_shl i_shr bit_01)

end Go.Proofs.Rnk
end
section
set_option maxHeartbeats 4000000
set_option maxRecDepth 100000
namespace Go.Proofs.Rnk
open Go Go.VM
open Go.Proofs.Sur (andn andn_bit andn_le i_wrap i_and i_or i_xor i_andn i_shl i_shr bit_01)

/-- the first half of a turn -/
def T0 (A : Nat → Nat) (a b : Nat) : Nat → Nat := fun e => if e = a then A a ^^^ 2 ^ b else A e
structure TS (n : Nat) (A : Nat → Nat) (x y : Int) : Prop where
  d0 : 0 ≤ x
  d1 : x < (n : Int)
  d2 : 0 ≤ y
  d3 : y < (n : Int)
  d6 : x ≤ 62
  d7 : y ≤ 62
  e0 : x.toNat < n
  e1 : y.toNat < n
  ev1 : IntKind.i64.wrap (1 * 2 ^ min x.toNat IntKind.i64.bits) = ((2 ^ x.toNat : Nat) : Int)
  ev2 : IntKind.i64.wrap (1 * 2 ^ min y.toNat IntKind.i64.bits) = ((2 ^ y.toNat : Nat) : Int)
  ev3 : IntKind.i64.wrap ((BitVec.ofInt IntKind.i64.bits ((wl n A).getD x.toNat i0) ^^^ BitVec.ofInt IntKind.i64.bits ((2 ^ y.toNat : Nat) : Int)).toNat : Int) = ((T0 A x.toNat y.toNat x.toNat : Nat) : Int)
  hs0 : (wl n A).set x.toNat ((T0 A x.toNat y.toNat x.toNat : Nat) : Int) = wl n (T0 A x.toNat y.toNat)
  ev4 : IntKind.i64.wrap ((BitVec.ofInt IntKind.i64.bits ((wl n (T0 A x.toNat y.toNat)).getD y.toNat i0) ^^^ BitVec.ofInt IntKind.i64.bits ((2 ^ x.toNat : Nat) : Int)).toNat : Int) = ((T1 A x.toNat y.toNat y.toNat : Nat) : Int)
  hs1 : (wl n (T0 A x.toNat y.toNat)).set y.toNat ((T1 A x.toNat y.toNat y.toNat : Nat) : Int) = wl n (T1 A x.toNat y.toNat)
end Go.Proofs.Rnk
end
