/- Layer 8: sums, duals, joins. -/
import Derived.Test.YtjobibaeklbkmaaDoorEdN
set_option linter.unusedSimpArgs false
set_option linter.unusedVariables false
set_option linter.unnecessarySimpa false
set_option maxRecDepth 100000
namespace Go.Proofs.Evd
open Go.Proofs.Sur (W mem_bits andn andn_bit andn_le lsU lsU_mem)

/-- all sets of n elements are numbers below 2^n -/
def Rg (n : Nat) (F : W) : Prop := ∀ s, hs F s = true → s < 2 ^ n
/-- the sets of all elements that are left -/
def In (r : Nat) (F : W) : Prop := ∀ s, hs F s = true → Sub s r
/-- a family of the elements r -/
structure Fa (r : Nat) (F : W) : Prop where
  r64 : r < 64
  inn : In r F
  dn : Dn F
theorem sub_and {s r : Nat} : Sub s r ↔ s &&& r = s := by
  constructor
  · intro h
    apply Nat.eq_of_testBit_eq; intro i
    rw [Nat.testBit_and]
    cases hb : s.testBit i
    · rfl
    · rw [h i hb]; rfl
  · intro h i hi
    rw [← h, Nat.testBit_and, Bool.and_eq_true] at hi
    exact hi.2
instance (s t : Nat) : Decidable (Sub s t) := decidable_of_iff _ sub_and.symm
theorem p64 {n : Nat} (h : n ≤ 6) : 2 ^ n ≤ 64 := Nat.le_trans (Nat.pow_le_pow_right (by decide) h) (by decide : 2 ^ 6 ≤ 64)
/-! ### the sum -/
def sumI (f : Nat → Int) : Nat → Int
  | 0 => 0
  | n + 1 => sumI f n + f n
theorem sumI_congr {f g : Nat → Int} : ∀ n, (∀ i, i < n → f i = g i) → sumI f n = sumI g n
  | 0, _ => rfl
  | n + 1, h => by simp only [sumI]; rw [sumI_congr n (fun i hi => h i (by omega)), h n (by omega)]
end Go.Proofs.Evd

