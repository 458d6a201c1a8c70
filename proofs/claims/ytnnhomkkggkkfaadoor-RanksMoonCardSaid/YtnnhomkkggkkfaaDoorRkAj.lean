/- Joined: RkAj, RkAo, RkAp, RkAe, RkAf, RkK, RkS, RkAg, RkAq, RkAv. -/
import Derived.Test.YtnnhomkkggkkfaaDoorRkAh
import Derived.KernelRfl
import Derived.Test.YtnnhomkkggkkfaaDoorRkAn
import Derived.Test.YtnnhomkkggkkfaaDoorVm8
import Derived.Test.YtnnhomkkggkkfaaDoorRkT
import Derived.Test.YtnnhomkkggkkfaaDoorRkJ
import Derived.Test.YtnnhomkkggkkfaaDoorRkR
import Derived.Test.YtnnhomkkggkkfaaDoorRkAr
set_option linter.unusedSimpArgs false
set_option linter.unusedVariables false
set_option linter.unnecessarySimpa false
section
set_option maxHeartbeats 4000000
set_option maxRecDepth 100000
namespace Go.Proofs.Rnk
open Go Go.VM
open Go.Proofs.Sur (andn andn_bit andn_le i_wrap i_and i_or i_andn i_shl i_shr bit_01)

end Go.Proofs.Rnk
end
section
set_option maxHeartbeats 4000000
set_option maxRecDepth 100000
namespace Go.Proofs.Rnk
open Go Go.VM
open Go.Proofs.Sur (andn andn_bit andn_le i_wrap i_and i_or i_xor i_andn i_shl i_shr bit_01)

def T0 (A : Nat → Nat) (a b : Nat) : Nat → Nat := fun e => if e = a then A a ^^^ 2 ^ b else A e
structure TS (n : Nat) (A : Nat → Nat) (x y : Int) : Prop where
  d0 : 0 ≤ x
  d1 : x < (n : Int)
  d2 : 0 ≤ y
  d3 : y < (n : Int)
  d6 : x ≤ 62
  d7 : y ≤ 62
  e0 : x.toNat < n
  e1 : y.toNat < n
  ev1 : IntKind.i64.wrap (1 * 2 ^ min x.toNat IntKind.i64.bits) = ((2 ^ x.toNat : Nat) : Int)
  ev2 : IntKind.i64.wrap (1 * 2 ^ min y.toNat IntKind.i64.bits) = ((2 ^ y.toNat : Nat) : Int)
  ev3 : IntKind.i64.wrap ((BitVec.ofInt IntKind.i64.bits ((wl n A).getD x.toNat i0) ^^^ BitVec.ofInt IntKind.i64.bits ((2 ^ y.toNat : Nat) : Int)).toNat : Int) = ((T0 A x.toNat y.toNat x.toNat : Nat) : Int)
  hs0 : (wl n A).set x.toNat ((T0 A x.toNat y.toNat x.toNat : Nat) : Int) = wl n (T0 A x.toNat y.toNat)
  ev4 : IntKind.i64.wrap ((BitVec.ofInt IntKind.i64.bits ((wl n (T0 A x.toNat y.toNat)).getD y.toNat i0) ^^^ BitVec.ofInt IntKind.i64.bits ((2 ^ x.toNat : Nat) : Int)).toNat : Int) = ((T1 A x.toNat y.toNat y.toNat : Nat) : Int)
  hs1 : (wl n (T0 A x.toNat y.toNat)).set y.toNat ((T1 A x.toNat y.toNat y.toNat : Nat) : Int) = wl n (T1 A x.toNat y.toNat)
end Go.Proofs.Rnk
end
section
set_option maxHeartbeats 4000000
set_option maxRecDepth 100000
namespace Go.Proofs.Rnk
open Go Go.VM
open Go.Proofs.Sur (andn andn_bit andn_le i_wrap i_and i_or i_xor i_andn i_shl i_shr bit_01)
local instance wrI2 : Inhabited Globs := ⟨⟨gcell, fun t => t == 22⟩⟩

end Go.Proofs.Rnk
end
section
set_option maxHeartbeats 4000000
set_option maxRecDepth 100000
namespace Go.Proofs.Rnk
open Go Go.VM

end Go.Proofs.Rnk
end
section
set_option maxHeartbeats 4000000
set_option maxRecDepth 100000
namespace Go.Proofs.Rnk
open Go Go.VM
open Go.Proofs.Sur (andn andn_bit andn_le i_wrap i_and i_or i_andn i_shl i_shr bit_01)

end Go.Proofs.Rnk
end
section
set_option maxHeartbeats 4000000
set_option maxRecDepth 100000
namespace Go.Proofs.Rnk
open Go Go.VM
open Go.Proofs.Sur (andn andn_bit andn_le i_wrap i_and i_or i_andn i_shl i_shr bit_01)

theorem cut_eq {t : List Int} (h : t.length ≤ 11) : cut t = t := List.take_of_length_le h
theorem cut_get {t : List Int} {i : Nat} (h : i < (cut t).length) : ia (cut t) i = ia t i := by
  have h1 : i < 11 := by simp only [cut, List.length_take] at h; omega
  simp only [ia, cut, List.getD_eq_getElem?_getD, List.getElem?_take, if_pos h1]
theorem cut_in {t : List Int} (h : inI t) : inI (cut t) := fun i hi => by
  rw [cut_get hi]; exact h i (by simp only [cut, List.length_take] at hi; omega)
theorem cut_tn {t : List Int} (h : ¬ Tn t) : ¬ Tn (cut t) := fun k => by
  have h8 := k.s.2
  have : t.length ≤ 11 := by simp only [cut, List.length_take] at h8; omega
  rw [cut_eq this] at k
  exact h k
noncomputable def c19s : PCtr Tryd.prog where
  f := 19
  X := List Int × Room
  args x := [ls x.1 x.2]
  pre x := (lim x.1.length ∧ rok x.1 x.2 ∧ em x.1 x.2) ∧ x.1.length ≤ 11
  v x := ls x.1 (rcl x.2)
  det := by
    rintro ⟨l, r⟩ ⟨l', r'⟩ e _ _
    simp at e
    simp [e]
  ok := by
    rintro ⟨l, r⟩ ⟨h1, h2⟩
    have := c19.ok (l, r) h1
    have e : c19.v (l, r) = ls l (rcl r) := by show ls (cut l) (rcl r) = _; rw [cut_eq h2]
    rw [e] at this
    exact this
abbrev pL (t : List Int) (r : Room) : Prop := (lim t.length ∧ rok t r ∧ em t r) ∧ inI t
theorem pL_rr {t : List Int} {q : RK} (h1 : t.length ≤ Go.maxLen) (h2 : q.mt = true → t = []) (h3 : inI t) : pL t (rr q) := by
  refine ⟨⟨Nat.le_trans h1 (by decide), fun hl e => ?_, fun e => ?_⟩, h3⟩
  · cases q <;> simp_all [rr, RK.mt]
  · cases q <;> simp_all [rr, RK.mt]
end Go.Proofs.Rnk
end
section
set_option maxHeartbeats 4000000
set_option maxRecDepth 100000
namespace Go.Proofs.Rnk
open Go Go.VM
open Go.Proofs.Sur (andn andn_bit andn_le i_wrap i_and i_or i_andn i_shl i_shr bit_01)

end Go.Proofs.Rnk
end
section
set_option maxHeartbeats 4000000
set_option maxRecDepth 100000
namespace Go.Proofs.Rnk
open Go Go.VM
open Go.Proofs.Sur (andn andn_bit andn_le i_wrap i_and i_or i_andn i_shl i_shr bit_01)

def fr (l : List Tri) (S : Nat) : Nat → Bool
  | 0 => true
  | j + 1 => fr l S j && !ins (l.getD j tri0) (S : Int)
end Go.Proofs.Rnk
end
section
set_option maxHeartbeats 4000000
set_option maxRecDepth 100000
namespace Go.Proofs.Rnk
open Go Go.VM
open Go.Proofs.Sur (andn andn_bit andn_le i_wrap i_and i_or i_xor i_andn i_shl i_shr bit_01)

end Go.Proofs.Rnk
end
section
set_option maxHeartbeats 4000000
set_option maxRecDepth 100000
namespace Go.Proofs.Rnk
open Go Go.VM
open Go.Proofs.Sur (andn andn_bit andn_le i_wrap i_and i_or i_xor i_andn i_shl i_shr bit_01)

end Go.Proofs.Rnk
end
