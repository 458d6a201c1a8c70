/- A digraph and its complement have as many paths, modulo 2. -/
import Derived.Test.YtnnhomkkggkkfaaDoorRkCo
set_option linter.unusedSimpArgs false
set_option linter.unusedVariables false
set_option linter.unnecessarySimpa false
set_option maxHeartbeats 4000000
set_option maxRecDepth 100000
namespace Go.Proofs.Rnk
theorem xs_first (f : Nat → Bool) : ∀ n, xs f (n + 1) = (f 0).xor (xs (fun i => f (i + 1)) n)
  | 0 => by simp [xs]
  | n + 1 => by
    rw [xs, xs_first f n, xs]
    cases f 0 <;> cases xs (fun i => f (i + 1)) n <;> cases f (n + 1) <;> rfl
theorem xs_rev : ∀ (n : Nat) (f : Nat → Bool), xs (fun i => f (n - 1 - i)) n = xs f n
  | 0, _ => rfl
  | n + 1, f => by
    rw [xs_first f n, xs]
    have h1 : xs (fun i => f (n + 1 - 1 - i)) n = xs (fun i => f (i + 1)) n := by
      rw [← xs_rev n fun i => f (i + 1)]
      exact xs_congr fun i hi => by rw [show n + 1 - 1 - i = n - 1 - i + 1 by omega]
    rw [h1, show n + 1 - 1 - n = 0 by omega]
    cases f 0 <;> cases xs (fun i => f (i + 1)) n <;> rfl
theorem sS_tog (f : Nat → Bool) (n X0 : Nat) (h : X0.testBit n = false) : sS (fun X => f (X ^^^ 2 ^ n)) n X0 = sS f n (X0 ||| 2 ^ n) := by
  rw [← sS_shift f (2 ^ n) n X0]
  refine sS_congr _ _ fun X hX => ?_
  congr 1
  have hb : X.testBit n = false := by rw [hX n (Nat.le_refl _), h]
  apply Nat.eq_of_testBit_eq
  intro i
  rw [Nat.testBit_xor, Nat.testBit_or, Nat.testBit_two_pow]
  by_cases e : n = i
  · subst e; rw [hb]; simp
  · simp [e]
theorem sS_tog2 (f : Nat → Bool) (n X0 : Nat) (h : X0.testBit n = false) : sS (fun X => f (X ^^^ 2 ^ n)) n (X0 ||| 2 ^ n) = sS f n X0 := by
  rw [← sS_shift (fun X => f (X ^^^ 2 ^ n)) (2 ^ n) n X0]
  refine sS_congr _ _ fun X hX => ?_
  have hb : X.testBit n = false := by rw [hX n (Nat.le_refl _), h]
  show f ((X ||| 2 ^ n) ^^^ 2 ^ n) = f X
  rw [or_xor hb]
theorem sS_xorc : ∀ (n : Nat) (f : Nat → Bool) (c X0 : Nat), (∀ i, n ≤ i → c.testBit i = false) → (∀ i, i < n → X0.testBit i = false) → sS (fun X => f (X ^^^ c)) n X0 = sS f n X0
  | 0, f, c, X0, hc, _ => by
    have : c = 0 := Nat.eq_of_testBit_eq fun i => by rw [hc i (Nat.zero_le _), Nat.zero_testBit]
    subst this
    rw [sS, sS, Nat.xor_zero]
  | n + 1, f, c, X0, hc, h0 => by
    have hX0 := h0 n (by omega)
    have hl : ∀ i, i < n → X0.testBit i = false := fun i hi => h0 i (by omega)
    have hl2 : ∀ i, i < n → (X0 ||| 2 ^ n).testBit i = false := fun i hi => by
      rw [Nat.testBit_or, Nat.testBit_two_pow, hl i hi]
      have : ¬ n = i := by omega
      simp [this]
    rw [sS, sS]
    cases d : c.testBit n
    · have hc' : ∀ i, n ≤ i → c.testBit i = false := fun i hi => by
        by_cases e : i = n
        · subst e; exact d
        · exact hc i (by omega)
      rw [sS_xorc n f c X0 hc' hl, sS_xorc n f c (X0 ||| 2 ^ n) hc' hl2]
    · have hc' : ∀ i, n ≤ i → (c ^^^ 2 ^ n).testBit i = false := fun i hi => by
        rw [Nat.testBit_xor, Nat.testBit_two_pow]
        by_cases e : n = i
        · subst e; rw [d]; simp
        · rw [hc i (by omega)]; simp [e]
      have he : ∀ X, X ^^^ c = (X ^^^ (c ^^^ 2 ^ n)) ^^^ 2 ^ n := fun X => by
        apply Nat.eq_of_testBit_eq
        intro k
        simp only [Nat.testBit_xor]
        cases X.testBit k <;> cases c.testBit k <;> cases (2 ^ n).testBit k <;> rfl
      have e1 : (fun X => f (X ^^^ c)) = fun X => (fun Y => f (Y ^^^ 2 ^ n)) (X ^^^ (c ^^^ 2 ^ n)) := by
        funext X
        show f (X ^^^ c) = f ((X ^^^ (c ^^^ 2 ^ n)) ^^^ 2 ^ n)
        rw [he]
      rw [e1, sS_xorc n (fun Y => f (Y ^^^ 2 ^ n)) (c ^^^ 2 ^ n) X0 hc' hl, sS_xorc n (fun Y => f (Y ^^^ 2 ^ n)) (c ^^^ 2 ^ n) (X0 ||| 2 ^ n) hc' hl2, sS_tog f n X0 hX0, sS_tog2 f n X0 hX0]
      exact Bool.xor_comm _ _
/-- what comes twice is nothing -/
theorem sS_twice {g : Nat → Bool} {S s : Nat} (hS : S < 256) (hs : S.testBit s = true) (h : ∀ X, g (X ^^^ S) = g X) : sS g 8 0 = false := by
  have h1 : sS g 8 0 = (sS (fun X => X.testBit s && g X) 8 0).xor (sS (fun X => !X.testBit s && g X) 8 0) := by
    rw [← sS_xor]
    refine sS_congr _ _ fun X _ => ?_
    cases X.testBit s <;> cases g X <;> rfl
  have h2 : sS (fun X => X.testBit s && g X) 8 0 = sS (fun X => !X.testBit s && g X) 8 0 := by
    rw [← sS_xorc 8 (fun X => X.testBit s && g X) S 0 (fun i hi => hi_bits hS hi) (fun i _ => Nat.zero_testBit i)]
    refine sS_congr _ _ fun X _ => ?_
    rw [h, Nat.testBit_xor, hs]
    cases X.testBit s <;> rfl
  rw [h1, h2]; simp
end Go.Proofs.Rnk

