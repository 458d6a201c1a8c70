/- A turned arc of a tournament; a player who beats all. -/
import Derived.Test.YtnnhomkkggkkfaaDoorRkCr
set_option linter.unusedSimpArgs false
set_option linter.unusedVariables false
set_option linter.unnecessarySimpa false
set_option maxHeartbeats 4000000
set_option maxRecDepth 100000
namespace Go.Proofs.Rnk
theorem hp_congr {D E : Nat → Nat → Bool} {n S : Nat} (h : ∀ x y, S.testBit x = true → S.testBit y = true → x ≠ y → D x y = E x y) : hp D n S = hp E n S :=
  xs_congr fun a _ => wp_congr n S a h
theorem hp_flip {D : Nat → Nat → Bool} {a b n S : Nat} (hab : a ≠ b) (h1 : D a b = false) (h2 : D b a = false) (hS : S < 256)
    (ht : ∀ x y, S.testBit x = true → S.testBit y = true → x ≠ y → ¬ (x = a ∧ y = b) → ¬ (x = b ∧ y = a) → D y x = !D x y) : hp (addD D a b) n S = hp (addD D b a) n S := by
  have h4 : (((hp (addD (addD D a b) b a) n S).xor (hp (addD D a b) n S)).xor (hp (addD D b a) n S)).xor (hp D n S) = false := by
    simp only [hp]
    rw [← xs_xor, ← xs_xor, ← xs_xor, xs_congr (g := fun _ => false) fun x _ => wp_four hab h1 h2 n S x, xs_false]
  have h5 : hp (addD (addD D a b) b a) n S = hp D n S := by
    rw [← hp_turn (addD (addD D a b) b a) hS, ← berge D n S hS]
    refine hp_congr fun x y hx hy hne => ?_
    simp only [flD, cpD, addD]
    by_cases c1 : x = a ∧ y = b
    · obtain ⟨rfl, rfl⟩ := c1
      rw [h1, h2]; simp
    · by_cases c2 : x = b ∧ y = a
      · obtain ⟨rfl, rfl⟩ := c2
        rw [h1, h2]; simp
      · rw [ht x y hx hy hne c1 c2]
        have e1 : (decide (y = a) && decide (x = b)) = false := by
          rw [← Bool.not_eq_true, Bool.and_eq_true, decide_eq_true_eq, decide_eq_true_eq]
          exact fun q => c2 ⟨q.2, q.1⟩
        have e2 : (decide (y = b) && decide (x = a)) = false := by
          rw [← Bool.not_eq_true, Bool.and_eq_true, decide_eq_true_eq, decide_eq_true_eq]
          exact fun q => c1 ⟨q.2, q.1⟩
        rw [e1, e2]; simp
  rw [h5] at h4
  revert h4
  cases hp D n S <;> cases hp (addD D a b) n S <;> cases hp (addD D b a) n S <;> simp
/-- no path comes to one whom none beats, but from it -/
theorem wp_source {D : Nat → Nat → Bool} {v : Nat} : ∀ (f S x : Nat), S.testBit v = true → x ≠ v → (∀ y, S.testBit y = true → y ≠ v → D y v = false) → wp D f S x = false
  | 0, S, x, hv, hx, _ => by
    rw [wp, decide_eq_false_iff_not]
    intro e
    rw [e, Nat.testBit_two_pow] at hv
    exact hx (by simpa using hv)
  | f + 1, S, x, hv, hx, h => by
    rw [wp]
    cases c : S.testBit x
    · rfl
    · rw [xs_congr (g := fun _ => false) fun y _ => ?_, xs_false]
      · rfl
      · by_cases e : y = v
        · subst e; rw [h x c hx]; rfl
        · have hv2 : (S ^^^ 2 ^ x).testBit v = true := by rw [Nat.testBit_xor, Nat.testBit_two_pow, hv]; simp [hx]
          rw [wp_source f (S ^^^ 2 ^ x) y hv2 e fun z hz hzv => h z (bit_out hz c).1 hzv]
          simp
theorem hp_source {D : Nat → Nat → Bool} {v n S : Nat} (hv8 : v < 8) (hv : S.testBit v = true) (h1 : ∀ y, S.testBit y = true → y ≠ v → D y v = false) (h2 : ∀ y, S.testBit y = true → y ≠ v → D v y = true) : hp D (n + 1) S = hp D n (S ^^^ 2 ^ v) := by
  rw [hp, xs_one (p := v) hv8 fun x _ hx => wp_source (n + 1) S x hv hx h1, wp, hv, Bool.true_and, hp]
  refine xs_congr fun y _ => ?_
  cases c : wp D n (S ^^^ 2 ^ v) y
  · simp
  · have := bit_out (wp_in c) hv
    rw [h2 y this.1 this.2]; rfl
end Go.Proofs.Rnk

