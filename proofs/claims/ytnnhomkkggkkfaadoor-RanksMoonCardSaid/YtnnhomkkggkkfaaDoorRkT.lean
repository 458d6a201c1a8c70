/- Joined: RkT, RkU, RkL, RkI, RkQ. -/
import Derived.Test.YtnnhomkkggkkfaaDoorRkH
import Derived.Test.YtnnhomkkggkkfaaDoorVm8
import Derived.KernelRfl
import Derived.Test.YtnnhomkkggkkfaaDoorRkF
set_option linter.unusedSimpArgs false
set_option linter.unusedVariables false
set_option linter.unnecessarySimpa false
section
set_option maxHeartbeats 4000000
set_option maxRecDepth 100000
namespace Go.Proofs.Rnk
open Go Go.VM
open Go.Proofs.Sur (andn andn_bit andn_le i_wrap i_and i_or i_andn i_shl i_shr bit_01)

abbrev hI (l : List Int) : H := ⟨[ints l], [], []⟩
end Go.Proofs.Rnk
end
section
set_option maxHeartbeats 4000000
set_option maxRecDepth 100000
namespace Go.Proofs.Rnk
open Go Go.VM
open Go.Proofs.Sur (andn andn_bit andn_le i_wrap i_and i_or i_andn i_shl i_shr bit_01)

end Go.Proofs.Rnk
end
section
set_option maxHeartbeats 4000000
set_option maxRecDepth 100000
namespace Go.Proofs.Rnk
open Go Go.VM
open Go.Proofs.Sur (andn andn_bit andn_le i_wrap i_and i_or i_andn i_shl i_shr bit_01)

abbrev gr (n a : Nat) : Nat := andn (alls n) (alls (a + 1))
theorem gr_bit {n a b : Nat} (h : n ≤ 8) : (gr n a).testBit b = true ↔ a < b ∧ b < n := by
  have : alls n < 9223372036854775808 := by have := pow8 h; simp only [alls]; omega
  rw [gr, andn_bit this, alls_bit, alls_bit]
  simp only [Bool.and_eq_true, decide_eq_true_eq, Bool.not_eq_true', decide_eq_false_iff_not]
  omega
abbrev s1 (t : List Int) (a b : Nat) : Nat := sn t b &&& gr t.length a
theorem s1_bit {t : List Int} (h : Tn t) {a b c : Nat} : (s1 t a b).testBit c = true ↔ bt t b c = true ∧ a < c := by
  rw [s1, Nat.testBit_and, Bool.and_eq_true, gr_bit h.s.2]
  constructor
  · rintro ⟨h1, h2⟩; exact ⟨h1, h2.1⟩
  · rintro ⟨h1, h2⟩; exact ⟨h1, h2, (h.lt h1).2⟩
abbrev tri (a b c : Nat) : Tri := ((a : Int), (b : Int), (c : Int))
def cc3 (t : List Int) (a b : Nat) (acc : List Tri) : Nat → List Tri
  | 0 => acc
  | k + 1 => if bt t (el (s1 t a b) k) a = true then cc3 t a b acc k ++ [tri a b (el (s1 t a b) k)] else cc3 t a b acc k
def cc2 (t : List Int) (a : Nat) (acc : List Tri) : Nat → List Tri
  | 0 => acc
  | k + 1 => cc3 t a (el (s1 t a a) k) (cc2 t a acc k) (pc (s1 t a (el (s1 t a a) k)))
def cc1 (t : List Int) : Nat → List Tri
  | 0 => []
  | a + 1 => cc2 t a (cc1 t a) (pc (s1 t a a))
abbrev cyc (t : List Int) : List Tri := cc1 t t.length
abbrev tl (l : List Tri) : AV := .sl (trisA l) l.length (rmz 3 l)
abbrev hL0 (t : List Int) (r : Room) (l : List Tri) : H := ⟨[[ls t r], [tl l]], tkz l, []⟩
abbrev hL2 (t : List Int) (r : Room) (a k : Nat) (l : List Tri) : H := ⟨[[ls t r], [tl l], [I a], [I (gr t.length a : Nat)], [I (dI (s1 t a a : Nat) k)]], tkz l, []⟩
end Go.Proofs.Rnk
end
section
set_option maxHeartbeats 4000000
set_option maxRecDepth 100000
namespace Go.Proofs.Rnk
open Go Go.VM
open Go.Proofs.Sur (andn andn_bit andn_le i_wrap i_and i_or i_andn i_shl i_shr bit_01)

end Go.Proofs.Rnk
end
section
set_option maxHeartbeats 4000000
set_option maxRecDepth 100000
namespace Go.Proofs.Rnk
open Go Go.VM
open Go.Proofs.Sur (andn andn_bit andn_le i_wrap i_and i_or i_andn i_shl i_shr bit_01)

abbrev d8 (x : Int) : Prop := 0 ≤ x ∧ x < 8
abbrev tr8 (x : Tri) : Prop := d8 x.1 ∧ d8 x.2.1 ∧ d8 x.2.2
theorem pw_lt {x : Int} (h : d8 x) : 2 ^ x.toNat < 2 ^ 8 := Nat.pow_lt_pow_right (by decide) (by omega)
abbrev memN (x : Tri) : Nat := 2 ^ x.1.toNat ||| 2 ^ x.2.1.toNat ||| 2 ^ x.2.2.toNat
theorem memN_lt {x : Tri} (h : tr8 x) : memN x < 256 := Nat.or_lt_two_pow (n := 8) (Nat.or_lt_two_pow (n := 8) (pw_lt h.1) (pw_lt h.2.1)) (pw_lt h.2.2)
def ins (x : Tri) (s : Int) : Bool := decide (andn (memN x) s.toNat = 0)
abbrev hS (s : Int) : H := ⟨[[I s]], [], []⟩
abbrev ts (l : List Tri) (r : Room) : AV := .sl (trisA l) l.length r
def ixV (l : List Tri) (s : Int) : Int :=
  match (List.range l.length).find? (fun i => ins (l.getD i tri0) s) with
  | some i => i
  | none => -1
theorem ixV_none {l : List Tri} {s : Int} (hn : ∀ k, k < l.length → ins (l.getD k tri0) s = false) : ixV l s = -1 := by
  have : (List.range l.length).find? (fun i => ins (l.getD i tri0) s) = none := by
    rw [List.find?_eq_none]
    intro x hx
    rw [hn x (List.mem_range.1 hx)]; simp
  simp only [ixV, this]
def anyV (l : List Tri) (s : Int) : Bool := decide (0 ≤ ixV l s)
end Go.Proofs.Rnk
end
