/- Layer 7: how many lines there are, told from the end, from the beginning, and by pairs. -/
import Derived.Test.YtmgbglnljnlapaaOrN
set_option linter.unusedSimpArgs false
set_option linter.unusedVariables false
set_option linter.unnecessarySimpa false
namespace Go.Proofs.Ord
open Go Go.VM
open Go.Proofs.Sur (andn andn_bit andn_le)

def sumN (f : Nat → Nat) : Nat → Nat
  | 0 => 0
  | n + 1 => sumN f n + f n
theorem sumN_ext {f g : Nat → Nat} : ∀ {n : Nat}, (∀ i, i < n → f i = g i) → sumN f n = sumN g n
  | 0, _ => rfl
  | n + 1, h => by rw [sumN, sumN, sumN_ext (fun i hi => h i (by omega)), h n (by omega)]
theorem sumN_zero {f : Nat → Nat} {n : Nat} (h : ∀ i, i < n → f i = 0) : sumN f n = 0 := by
  induction n with
  | zero => rfl
  | succ n ih => rw [sumN, ih (fun i hi => h i (by omega)), h n (by omega)]
theorem sumN_add (f g : Nat → Nat) : ∀ n, sumN (fun i => f i + g i) n = sumN f n + sumN g n
  | 0 => rfl
  | n + 1 => by rw [sumN, sumN, sumN, sumN_add f g n]; omega
theorem sumN_one {f : Nat → Nat} {k : Nat} : ∀ {n : Nat}, k < n → (∀ i, i < n → i ≠ k → f i = 0) → sumN f n = f k
  | 0, h, _ => by omega
  | n + 1, h, h0 => by
    rw [sumN]
    rcases Nat.lt_or_ge k n with q | q
    · rw [sumN_one q (fun i hi => h0 i (by omega)), h0 n (by omega) (by omega)]; rfl
    · have : k = n := by omega
      subst this
      rw [sumN_zero fun i hi => h0 i (by omega) (by omega)]; omega
/-- without e -/
abbrev clr (S e : Nat) : Nat := andn S (2 ^ e)
abbrev big : Nat := 9223372036854775808
theorem clr_bit {S : Nat} (hS : S < big) (e i : Nat) : (clr S e).testBit i = (S.testBit i && !decide (e = i)) := by
  rw [clr, andn_bit hS, Nat.testBit_two_pow]
theorem clr_lt {S e : Nat} (hS : S < big) (h : S.testBit e = true) : clr S e < S := by
  have h1 := andn_le (b := 2 ^ e) hS
  rcases Nat.lt_or_ge (clr S e) S with q | q
  · exact q
  · have : clr S e = S := Nat.le_antisymm h1 q
    have := clr_bit hS e e
    rw [‹clr S e = S›, h] at this
    simp at this
theorem clr_big {S e : Nat} (hS : S < big) : clr S e < big := Nat.lt_of_le_of_lt (andn_le hS) hS
/-- e is in S, and nothing of S is above it -/
def mx (A : Rel) (S e : Nat) : Bool := S.testBit e && decide (A e &&& S = 0)
theorem and0 {a b : Nat} : a &&& b = 0 ↔ ∀ i, a.testBit i = true → b.testBit i = true → False := by
  constructor
  · intro h i p q
    have : (a &&& b).testBit i = true := by rw [Nat.testBit_and, p, q]; rfl
    rw [h] at this; simp at this
  · intro h
    apply Nat.eq_of_testBit_eq; intro i
    rw [Nat.testBit_and, Nat.zero_testBit]
    cases p : a.testBit i
    · rfl
    · cases q : b.testBit i
      · rfl
      · exact (h i p q).elim
theorem mx_iff {A : Rel} {S e : Nat} : mx A S e = true ↔ S.testBit e = true ∧ ∀ y, ab A e y → S.testBit y = true → False := by
  simp only [mx, Bool.and_eq_true, decide_eq_true_eq, and0]
/-- how many lines there are of a set's elements, with fuel -/
def ctF (A : Rel) (n : Nat) : Nat → Nat → Nat
  | 0, S => if S = 0 then 1 else 0
  | k + 1, S => if S = 0 then 1 else sumN (fun e => if mx A S e = true then ctF A n k (clr S e) else 0) n
theorem ctF_eq {A : Rel} {n : Nat} : ∀ (k l S : Nat), S < big → S ≤ k → S ≤ l → ctF A n k S = ctF A n l S
  | 0, 0, S, _, _, _ => rfl
  | 0, l + 1, S, _, h, _ => by
    have : S = 0 := by omega
    subst this; rfl
  | k + 1, 0, S, _, _, h => by
    have : S = 0 := by omega
    subst this; rfl
  | k + 1, l + 1, S, hb, h1, h2 => by
    simp only [ctF]
    split
    · rfl
    · refine sumN_ext fun e _ => ?_
      split <;> rename_i hm
      · have := clr_lt hb (mx_iff.1 hm).1
        exact ctF_eq k l _ (clr_big hb) (by omega) (by omega)
      · rfl
def ct (A : Rel) (n S : Nat) : Nat := ctF A n S S
theorem ct_rec {A : Rel} {n S : Nat} (hb : S < big) (hS : S ≠ 0) : ct A n S = sumN (fun e => if mx A S e = true then ct A n (clr S e) else 0) n := by
  obtain ⟨k, rfl⟩ : ∃ k, S = k + 1 := ⟨S - 1, by omega⟩
  rw [ct, ctF, if_neg hS]
  refine sumN_ext fun e _ => ?_
  split <;> rename_i hm
  · have := clr_lt hb (mx_iff.1 hm).1
    exact ctF_eq _ _ _ (clr_big hb) (by omega) (by omega)
  · rfl
theorem clr_lt2 {S n e : Nat} (hb : S < big) (h : S < 2 ^ n) : clr S e < 2 ^ n := Nat.lt_of_le_of_lt (andn_le hb) h
theorem bit_lt {S n e : Nat} (h : S < 2 ^ n) (k : S.testBit e = true) : e < n := by
  rcases Nat.lt_or_ge e n with q | q
  · exact q
  · have := Nat.testBit_lt_two_pow (Nat.lt_of_lt_of_le h (Nat.pow_le_pow_right (by decide) q))
    rw [this] at k; cases k
end Go.Proofs.Ord

