/- Joined: RkCr, RkCs. -/
import Derived.Test.YtnnhomkkggkkfaaDoorRkCq
set_option linter.unusedSimpArgs false
set_option linter.unusedVariables false
set_option linter.unnecessarySimpa false
section
set_option maxHeartbeats 4000000
set_option maxRecDepth 100000
namespace Go.Proofs.Rnk
theorem xor_xor_self (S X : Nat) : S ^^^ (X ^^^ S) = X := by
  apply Nat.eq_of_testBit_eq
  intro k
  simp only [Nat.testBit_xor]
  cases S.testBit k <;> cases X.testBit k <;> rfl
theorem subS_xor (X S : Nat) : subS (X ^^^ S) S = subS X S := by
  have e : ∀ X, subS X S = true ↔ ∀ i, X.testBit i = true → S.testBit i = true := fun X => by
    constructor
    · intro h i hi; exact subS_bit h hi
    · intro h
      rw [subS, decide_eq_true_eq]
      apply Nat.eq_of_testBit_eq
      intro i
      rw [Nat.testBit_and]
      cases d : X.testBit i
      · rfl
      · rw [h i d]; rfl
  rw [Bool.eq_iff_iff, e, e]
  constructor
  · intro h i hi
    cases d : S.testBit i
    · have := h i (by rw [Nat.testBit_xor, hi, d]; rfl)
      rw [d] at this; cases this
    · rfl
  · intro h i hi
    cases d : S.testBit i
    · rw [Nat.testBit_xor, d] at hi
      have hx : X.testBit i = true := by simpa using hi
      have := h i hx
      rw [d] at this; cases this
    · rfl
theorem hp_zero (D : Nat → Nat → Bool) (n : Nat) : hp D n 0 = false := by
  rw [hp, xs_congr (g := fun _ => false) fun a _ => ?_, xs_false]
  cases c : wp D n 0 a
  · rfl
  · have := wp_in c
    rw [Nat.zero_testBit] at this; cases this
theorem berge (D : Nat → Nat → Bool) : ∀ (n S : Nat), S < 256 → hp (cpD D) n S = hp D n S := by
  intro n
  induction n using Nat.strongRecOn with
  | _ n ih =>
    intro S hS
    by_cases h0 : S = 0
    · rw [h0, hp_zero, hp_zero]
    · obtain ⟨s, hs⟩ : ∃ s, S.testBit s = true := Nat.exists_testBit_of_ne_zero h0
      have hc : cuts D S n = false := by
        have h1 : cuts D S n = sS (fun X => xs (fun i => subS X S && (hp D i X && hp D (n - 1 - i) (S ^^^ X))) n) 8 0 := by
          rw [cuts, ← sS_xs (fun X i => subS X S && (hp (flD D) i X && hp (cpD D) (n - 1 - i) (S ^^^ X))) 8 0 n]
          refine sS_congr _ _ fun X _ => xs_congr fun i hi => ?_
          cases c : subS X S
          · rfl
          · have hX : X < 256 := by
              have h2 : X &&& S = X := by rw [subS, decide_eq_true_eq] at c; exact c
              have := @Nat.and_le_right X S
              omega
            have hY : S ^^^ X < 256 := Nat.xor_lt_two_pow (n := 8) hS hX
            rw [hp_turn D hX, ih (n - 1 - i) (by omega) _ hY]
        rw [h1]
        refine sS_twice hS hs fun X => ?_
        rw [subS_xor, xor_xor_self, ← xs_rev n fun i => subS X S && (hp D i X && hp D (n - 1 - i) (S ^^^ X))]
        refine xs_congr fun i hi => ?_
        rw [show n - 1 - (n - 1 - i) = i by omega, Nat.xor_comm X S, Bool.and_comm (hp D i (S ^^^ X))]
      rw [cuts_ends D hS, hp_turn D hS] at hc
      revert hc
      cases hp D n S <;> cases hp (cpD D) n S <;> simp
end Go.Proofs.Rnk
end
section
set_option maxHeartbeats 4000000
set_option maxRecDepth 100000
namespace Go.Proofs.Rnk
theorem bit_out {S a y : Nat} (h : (S ^^^ 2 ^ a).testBit y = true) (ha : S.testBit a = true) : S.testBit y = true ∧ y ≠ a := by
  rw [Nat.testBit_xor, Nat.testBit_two_pow] at h
  by_cases e : a = y
  · subst e; rw [ha] at h; simp at h
  · simp [e] at h
    exact ⟨h, fun q => e q.symm⟩
theorem wp_congr {D E : Nat → Nat → Bool} : ∀ (f S a : Nat), (∀ x y, S.testBit x = true → S.testBit y = true → x ≠ y → D x y = E x y) → wp D f S a = wp E f S a
  | 0, S, a, _ => rfl
  | f + 1, S, a, h => by
    rw [wp, wp]
    cases ha : S.testBit a
    · rfl
    · congr 1
      refine xs_congr fun y _ => ?_
      have ih := wp_congr (D := D) (E := E) f (S ^^^ 2 ^ a) y fun x z hx hz hne => h x z (bit_out hx ha).1 (bit_out hz ha).1 hne
      rw [ih]
      cases c : wp E f (S ^^^ 2 ^ a) y
      · simp
      · have := bit_out (wp_in c) ha
        rw [h a y ha this.1 fun e => this.2 e.symm]
/-- a digraph with an arc more -/
def addD (D : Nat → Nat → Bool) (a b x y : Nat) : Bool := D x y || (decide (x = a) && decide (y = b))
theorem wp_four {D : Nat → Nat → Bool} {a b : Nat} (hab : a ≠ b) (h1 : D a b = false) (h2 : D b a = false) : ∀ (f S x : Nat), (((wp (addD (addD D a b) b a) f S x).xor (wp (addD D a b) f S x)).xor (wp (addD D b a) f S x)).xor (wp D f S x) = false
  | 0, S, x => by simp [wp]
  | f + 1, S, x => by
    rw [wp, wp, wp, wp]
    cases hx : S.testBit x
    · rfl
    · simp only [Bool.true_and]
      rw [← xs_xor, ← xs_xor, ← xs_xor]
      rw [xs_congr (g := fun _ => false) fun y _ => ?_, xs_false]
      have ih := wp_four hab h1 h2 f (S ^^^ 2 ^ x) y
      have hout : (S ^^^ 2 ^ x).testBit x = false := by rw [Nat.testBit_xor, Nat.testBit_two_pow, hx]; simp
      by_cases ea : x = a
      · subst ea
        by_cases eb : y = b
        · subst eb
          have e1 : wp (addD (addD D x y) y x) f (S ^^^ 2 ^ x) y = wp D f (S ^^^ 2 ^ x) y := wp_congr _ _ _ fun u v hu hv _ => by
            have hu' : u ≠ x := fun e => by rw [e, hout] at hu; cases hu
            have hv' : v ≠ x := fun e => by rw [e, hout] at hv; cases hv
            simp [addD, hu', hv']
          have e2 : wp (addD D x y) f (S ^^^ 2 ^ x) y = wp D f (S ^^^ 2 ^ x) y := wp_congr _ _ _ fun u v hu hv _ => by
            have hu' : u ≠ x := fun e => by rw [e, hout] at hu; cases hu
            simp [addD, hu']
          rw [e1, e2]
          have hne : ¬ x = y := hab
          simp [addD, h1, hne]
        · revert ih
          have hne : ¬ x = b := hab
          simp only [addD, hne, eb, decide_false, Bool.and_false, Bool.false_and, Bool.or_false]
          cases D x y
          · intro _; rfl
          · intro ih; simpa [addD] using ih
      · by_cases eb : x = b
        · subst eb
          by_cases ey : y = a
          · subst ey
            have e1 : wp (addD (addD D y x) x y) f (S ^^^ 2 ^ x) y = wp D f (S ^^^ 2 ^ x) y := wp_congr _ _ _ fun u v hu hv _ => by
              have hu' : u ≠ x := fun e => by rw [e, hout] at hu; cases hu
              have hv' : v ≠ x := fun e => by rw [e, hout] at hv; cases hv
              simp [addD, hu', hv']
            have e2 : wp (addD D x y) f (S ^^^ 2 ^ x) y = wp D f (S ^^^ 2 ^ x) y := wp_congr _ _ _ fun u v hu hv _ => by
              have hu' : u ≠ x := fun e => by rw [e, hout] at hu; cases hu
              simp [addD, hu']
            rw [e1, e2]
            simp [addD, h2, ea]
          · revert ih
            simp only [addD, ea, ey, decide_false, Bool.and_false, Bool.false_and, Bool.or_false]
            cases D x y
            · intro _; rfl
            · intro ih; simpa [addD] using ih
        · revert ih
          simp only [addD, ea, eb, decide_false, Bool.false_and, Bool.or_false]
          cases D x y
          · intro _; rfl
          · intro ih; simpa [addD] using ih
end Go.Proofs.Rnk
end
