/- Layer 8: sums, duals, joins. -/
import Derived.Test.YtjobibaeklbkmaaDoorEdN
set_option linter.unusedSimpArgs false
set_option linter.unusedVariables false
set_option linter.unnecessarySimpa false
set_option maxRecDepth 100000
namespace Go.Proofs.Evd
open Go.Proofs.Sur (W mem_bits andn andn_bit andn_le lsU lsU_mem)

/-- all sets of n elements are numbers below 2^n -/
def Rg (n : Nat) (F : W) : Prop := ∀ s, hs F s = true → s < 2 ^ n
/-- the sets of all elements that are left -/
def In (r : Nat) (F : W) : Prop := ∀ s, hs F s = true → Sub s r
/-- a family of the elements r -/
structure Fa (r : Nat) (F : W) : Prop where
  r64 : r < 64
  inn : In r F
  dn : Dn F
theorem sub_and {s r : Nat} : Sub s r ↔ s &&& r = s := by
  constructor
  · intro h
    apply Nat.eq_of_testBit_eq; intro i
    rw [Nat.testBit_and]
    cases hb : s.testBit i
    · rfl
    · rw [h i hb]; rfl
  · intro h i hi
    rw [← h, Nat.testBit_and, Bool.and_eq_true] at hi
    exact hi.2
instance (s t : Nat) : Decidable (Sub s t) := decidable_of_iff _ sub_and.symm
theorem full_sub {n : Nat} {s : Nat} : Sub s (2 ^ n - 1) ↔ s < 2 ^ n := by
  constructor
  · intro h
    refine Classical.byContradiction fun hc => ?_
    obtain ⟨i, h1, h2⟩ := Nat.exists_ge_and_testBit_of_ge_two_pow (n := n) (by omega : 2 ^ n ≤ s)
    have := h i h2
    rw [Nat.testBit_two_pow_sub_one] at this
    simp at this; omega
  · intro h i hi
    rw [Nat.testBit_two_pow_sub_one, decide_eq_true_eq]
    refine Classical.byContradiction fun hc => ?_
    have : s.testBit i = false := Nat.testBit_lt_two_pow (Nat.lt_of_lt_of_le h (Nat.pow_le_pow_right (by decide) (by omega)))
    rw [this] at hi; cases hi
theorem p64 {n : Nat} (h : n ≤ 6) : 2 ^ n ≤ 64 := Nat.le_trans (Nat.pow_le_pow_right (by decide) h) (by decide : 2 ^ 6 ≤ 64)
theorem fa_full {n : Nat} (hn : n ≤ 6) {F : W} (h1 : Rg n F) (h2 : Dn F) : Fa (2 ^ n - 1) F :=
  ⟨by have := p64 hn; have := Nat.two_pow_pos n; omega, fun s h => full_sub.2 (h1 s h), h2⟩
theorem lnk_dn {F : W} (h : Dn F) {x : Nat} (hx : x < 6) : Dn (lnk F x) := fun s t ht hst => by
  have htl := hs_lt ht
  have hsl := sub_lt hst htl
  rw [lnk_bit hx htl, Bool.and_eq_true, Bool.not_eq_true'] at ht
  rw [lnk_bit hx hsl, Bool.and_eq_true, Bool.not_eq_true']
  refine ⟨h _ _ ht.1 (fun i hi => ?_), ?_⟩
  · rw [Nat.testBit_or, Bool.or_eq_true] at hi ⊢
    exact hi.imp (hst i) id
  · cases hb : s.testBit x
    · rfl
    · have := hst x hb; rw [ht.2] at this; cases this
theorem wot_dn {F : W} (h : Dn F) {x : Nat} (hx : x < 6) : Dn (wot F x) := fun s t ht hst => by
  have htl := hs_lt ht
  have hsl := sub_lt hst htl
  rw [wot_bit hx htl, Bool.and_eq_true, Bool.not_eq_true'] at ht
  rw [wot_bit hx hsl, Bool.and_eq_true, Bool.not_eq_true']
  refine ⟨h _ _ ht.1 hst, ?_⟩
  cases hb : s.testBit x
  · rfl
  · have := hst x hb; rw [ht.2] at this; cases this
theorem lnk_fa {r : Nat} {F : W} (h : Fa r F) {x : Nat} (hx : x < 6) : Fa (rst r x) (lnk F x) :=
  ⟨rst_lt h.r64, (fun s hs' i hi => by
    have hl := hs_lt hs'
    rw [lnk_bit hx hl, Bool.and_eq_true, Bool.not_eq_true'] at hs'
    have := h.inn _ hs'.1 i (by rw [Nat.testBit_or, hi]; rfl)
    rw [rst_bit h.r64, this, Bool.true_and, Bool.not_eq_true', decide_eq_false_iff_not]
    rintro rfl
    rw [hs'.2] at hi; cases hi), lnk_dn h.dn hx⟩
theorem wot_fa {r : Nat} {F : W} (h : Fa r F) {x : Nat} (hx : x < 6) : Fa (rst r x) (wot F x) :=
  ⟨rst_lt h.r64, (fun s hs' i hi => by
    have hl := hs_lt hs'
    rw [wot_bit hx hl, Bool.and_eq_true, Bool.not_eq_true'] at hs'
    have := h.inn _ hs'.1 i hi
    rw [rst_bit h.r64, this, Bool.true_and, Bool.not_eq_true', decide_eq_false_iff_not]
    rintro rfl
    rw [hs'.2] at hi; cases hi), wot_dn h.dn hx⟩
theorem zero_sub (s : Nat) : Sub 0 s := fun i h => by simp at h
/-- settled: all sets of the elements, or none -/
theorem stl_iff {r : Nat} {F : W} (h : Fa r F) : stl r F = true ↔ (∀ s, hs F s = false) ∨ ∀ s, Sub s r → hs F s = true := by
  simp only [stl, Bool.or_eq_true, Bool.not_eq_true']
  constructor
  · rintro (q | q)
    · exact .inr fun s hs' => h.dn s r q hs'
    · refine .inl fun s => ?_
      cases hb : hs F s
      · rfl
      · have := h.dn 0 s hb (zero_sub s); rw [q] at this; cases this
  · rintro (q | q)
    · exact .inr (q 0)
    · exact .inl (q r (Sub.refl r))

/-! ### the sum -/
/-- 1 for a set with an even number of elements, else -1 -/
def sg (s : Nat) : Int := 1 - 2 * ((pc s % 2 : Nat) : Int)
def sumI (f : Nat → Int) : Nat → Int
  | 0 => 0
  | n + 1 => sumI f n + f n
theorem sumI_congr {f g : Nat → Int} : ∀ n, (∀ i, i < n → f i = g i) → sumI f n = sumI g n
  | 0, _ => rfl
  | n + 1, h => by simp only [sumI]; rw [sumI_congr n (fun i hi => h i (by omega)), h n (by omega)]
theorem sumI_sub (f g : Nat → Int) : ∀ n, sumI (fun i => f i - g i) n = sumI f n - sumI g n
  | 0 => rfl
  | n + 1 => by simp only [sumI, sumI_sub f g n]; omega
theorem sumI_mul (c : Int) (f : Nat → Int) : ∀ n, sumI (fun i => c * f i) n = c * sumI f n
  | 0 => by simp [sumI]
  | n + 1 => by simp only [sumI, sumI_mul c f n]; rw [Int.mul_add]
theorem sumI_zero (f : Nat → Int) : ∀ n, (∀ i, i < n → f i = 0) → sumI f n = 0
  | 0, _ => rfl
  | n + 1, h => by simp only [sumI]; rw [sumI_zero f n (fun i hi => h i (by omega)), h n (by omega)]; rfl
def sm (F : W) : Int := sumI (fun s => if hs F s = true then sg s else 0) 64
end Go.Proofs.Evd

