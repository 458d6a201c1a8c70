/- Joined: RkCm, RkCn. -/
import Derived.Test.YtnnhomkkggkkfaaDoorRkCk
set_option linter.unusedSimpArgs false
set_option linter.unusedVariables false
set_option linter.unnecessarySimpa false
section
set_option maxHeartbeats 4000000
set_option maxRecDepth 100000
namespace Go.Proofs.Rnk
/-- the sum modulo 2 over a base with any of 0 to n - 1 -/
def sS (f : Nat → Bool) : Nat → Nat → Bool
  | 0, X => f X
  | n + 1, X => (sS f n X).xor (sS f n (X ||| 2 ^ n))
theorem sS_congr {f g : Nat → Bool} : ∀ (n X0 : Nat), (∀ X, (∀ i, n ≤ i → X.testBit i = X0.testBit i) → f X = g X) → sS f n X0 = sS g n X0
  | 0, X0, h => h X0 fun _ _ => rfl
  | n + 1, X0, h => by
    have h1 := sS_congr (f := f) (g := g) n X0 fun X hX => h X fun i hi => hX i (by omega)
    have h2 := sS_congr (f := f) (g := g) n (X0 ||| 2 ^ n) fun X hX => h X fun i hi => by
      rw [hX i (by omega), Nat.testBit_or, Nat.testBit_two_pow]
      have : ¬ n = i := by omega
      simp [this]
    rw [sS, sS, h1, h2]
theorem sS_false : ∀ (n X0 : Nat), sS (fun _ => false) n X0 = false
  | 0, _ => rfl
  | n + 1, X0 => by rw [sS, sS_false n, sS_false n]; rfl
theorem sS_xor (f g : Nat → Bool) : ∀ (n X0 : Nat), sS (fun X => (f X).xor (g X)) n X0 = (sS f n X0).xor (sS g n X0)
  | 0, _ => rfl
  | n + 1, X0 => by
    rw [sS, sS, sS, sS_xor f g n, sS_xor f g n]
    cases sS f n X0 <;> cases sS g n X0 <;> cases sS f n (X0 ||| 2 ^ n) <;> cases sS g n (X0 ||| 2 ^ n) <;> rfl
theorem sS_xs (f : Nat → Nat → Bool) (n X0 : Nat) : ∀ m, sS (fun X => xs (fun j => f X j) m) n X0 = xs (fun j => sS (fun X => f X j) n X0) m
  | 0 => by simp only [xs]; exact sS_false n X0
  | m + 1 => by
    rw [xs, ← sS_xs f n X0 m, ← sS_xor]
    exact sS_congr _ _ fun X _ => rfl
theorem sS_shift (g : Nat → Bool) (c : Nat) : ∀ (n X0 : Nat), sS (fun X => g (X ||| c)) n X0 = sS g n (X0 ||| c)
  | 0, _ => rfl
  | n + 1, X0 => by
    rw [sS, sS, sS_shift g c n, sS_shift g c n]
    congr 2
    rw [Nat.or_assoc, Nat.or_comm (2 ^ n) c, ← Nat.or_assoc]
/-- a player taken in -/
theorem sS_in (g : Nat → Bool) {b : Nat} : ∀ (n X0 : Nat), b < n → (∀ i, i < n → X0.testBit i = false) → sS (fun X => !X.testBit b && g (X ||| 2 ^ b)) n X0 = sS (fun X => X.testBit b && g X) n X0
  | 0, _, h, _ => by omega
  | n + 1, X0, hb, h0 => by
    by_cases e : b = n
    · subst e
      have hX0 := h0 b (by omega)
      have h1 : sS (fun X => !X.testBit b && g (X ||| 2 ^ b)) b X0 = sS (fun X => g (X ||| 2 ^ b)) b X0 := sS_congr _ _ fun X hX => by rw [hX b (Nat.le_refl _), hX0]; rfl
      have h2 : sS (fun X => !X.testBit b && g (X ||| 2 ^ b)) b (X0 ||| 2 ^ b) = sS (fun _ => false) b (X0 ||| 2 ^ b) := sS_congr _ _ fun X hX => by
        rw [hX b (Nat.le_refl _), Nat.testBit_or, Nat.testBit_two_pow]; simp
      have h3 : sS (fun X => X.testBit b && g X) b X0 = sS (fun _ => false) b X0 := sS_congr _ _ fun X hX => by rw [hX b (Nat.le_refl _), hX0]; rfl
      have h4 : sS (fun X => X.testBit b && g X) b (X0 ||| 2 ^ b) = sS g b (X0 ||| 2 ^ b) := sS_congr _ _ fun X hX => by
        rw [hX b (Nat.le_refl _), Nat.testBit_or, Nat.testBit_two_pow]; simp
      rw [sS, sS, h1, h2, h3, h4, sS_false, sS_false, sS_shift]
      simp
    · have hn : ∀ i, i < n → (X0 ||| 2 ^ n).testBit i = false := fun i hi => by
        rw [Nat.testBit_or, Nat.testBit_two_pow, h0 i (by omega)]
        have : ¬ n = i := by omega
        simp [this]
      rw [sS, sS, sS_in g n X0 (by omega) (fun i hi => h0 i (by omega)), sS_in g n (X0 ||| 2 ^ n) (by omega) hn]
end Go.Proofs.Rnk
end
section
set_option maxHeartbeats 4000000
set_option maxRecDepth 100000
namespace Go.Proofs.Rnk
def flD (D : Nat → Nat → Bool) (a b : Nat) : Bool := D b a
def subS (X S : Nat) : Bool := decide (X &&& S = X)
theorem subS_bit {X S i : Nat} (h : subS X S = true) (hi : X.testBit i = true) : S.testBit i = true := by
  rw [subS, decide_eq_true_eq] at h
  rw [← h, Nat.testBit_and, Bool.and_eq_true] at hi
  exact hi.2
theorem or_xor {X b : Nat} (h : X.testBit b = false) : (X ||| 2 ^ b) ^^^ 2 ^ b = X := by
  apply Nat.eq_of_testBit_eq
  intro i
  rw [Nat.testBit_xor, Nat.testBit_or, Nat.testBit_two_pow]
  by_cases c : b = i
  · subst c; rw [h]; simp
  · simp [c]
theorem wp_step {D : Nat → Nat → Bool} {i X b : Nat} (h : X.testBit b = false) : wp (flD D) (i + 1) (X ||| 2 ^ b) b = xs (fun a => D a b && wp (flD D) i X a) 8 := by
  rw [wp, or_xor h, Nat.testBit_or, Nat.testBit_two_pow]
  simp [flD]
/-- paths of D that end at b, and go on by E -/
def Tp (D E : Nat → Nat → Bool) (S i j : Nat) : Bool := xs (fun b => sS (fun Z => Z.testBit b && (subS (Z ^^^ 2 ^ b) S && (wp (flD D) i Z b && wp E j (S ^^^ (Z ^^^ 2 ^ b)) b))) 8 0) 8
theorem stepA (D E : Nat → Nat → Bool) (S i j : Nat) : sS (fun X => subS X S && xs (fun b => xs (fun a => D a b && wp (flD D) i X a) 8 && wp E j (S ^^^ X) b) 8) 8 0 = Tp D E S (i + 1) j := by
  have h1 : sS (fun X => subS X S && xs (fun b => xs (fun a => D a b && wp (flD D) i X a) 8 && wp E j (S ^^^ X) b) 8) 8 0 = sS (fun X => xs (fun b => subS X S && (xs (fun a => D a b && wp (flD D) i X a) 8 && wp E j (S ^^^ X) b)) 8) 8 0 :=
    sS_congr _ _ fun X _ => (xs_and _ _ _).symm
  rw [h1, sS_xs, Tp]
  refine xs_congr fun b hb => ?_
  rw [← sS_in (fun Z => subS (Z ^^^ 2 ^ b) S && (wp (flD D) (i + 1) Z b && wp E j (S ^^^ (Z ^^^ 2 ^ b)) b)) 8 0 hb (fun i _ => Nat.zero_testBit i)]
  refine sS_congr _ _ fun X _ => ?_
  cases c : X.testBit b
  · rw [or_xor c, wp_step c]; rfl
  · simp only [Bool.not_true, Bool.false_and]
    cases c1 : subS X S
    · rfl
    · cases c2 : wp E j (S ^^^ X) b
      · simp
      · have h2 := wp_in c2
        rw [Nat.testBit_xor, c, subS_bit c1 c] at h2
        cases h2
theorem stepB (D E : Nat → Nat → Bool) (S i j : Nat) : sS (fun X => subS X S && xs (fun a => wp (flD D) i X a && xs (fun b => E a b && wp E j (S ^^^ X) b) 8) 8) 8 0 = Tp D E S i (j + 1) := by
  have h1 : sS (fun X => subS X S && xs (fun a => wp (flD D) i X a && xs (fun b => E a b && wp E j (S ^^^ X) b) 8) 8) 8 0 = sS (fun X => xs (fun a => subS X S && (wp (flD D) i X a && xs (fun b => E a b && wp E j (S ^^^ X) b) 8)) 8) 8 0 :=
    sS_congr _ _ fun X _ => (xs_and _ _ _).symm
  rw [h1, sS_xs, Tp]
  refine xs_congr fun a ha => sS_congr _ _ fun X _ => ?_
  cases c1 : wp (flD D) i X a
  · simp
  · have hX := wp_in c1
    have hx2 : (X ^^^ 2 ^ a).testBit a = false := by rw [Nat.testBit_xor, hX, Nat.testBit_two_pow]; simp
    have hS2 : (S ^^^ (X ^^^ 2 ^ a)) ^^^ 2 ^ a = S ^^^ X := by
      apply Nat.eq_of_testBit_eq
      intro i
      simp only [Nat.testBit_xor]
      cases S.testBit i <;> cases X.testBit i <;> cases (2 ^ a).testBit i <;> rfl
    rw [wp, hS2, Nat.testBit_xor, hx2, hX]
    have hs : (subS X S && true) = (subS (X ^^^ 2 ^ a) S && (S.testBit a)) := by
      have e1 : subS X S = true ↔ subS (X ^^^ 2 ^ a) S = true ∧ S.testBit a = true := by
        constructor
        · intro h
          refine ⟨?_, subS_bit h hX⟩
          rw [subS, decide_eq_true_eq]
          apply Nat.eq_of_testBit_eq
          intro i
          rw [Nat.testBit_and]
          cases d : (X ^^^ 2 ^ a).testBit i
          · rfl
          · rw [Nat.testBit_xor, Nat.testBit_two_pow] at d
            by_cases e : a = i
            · subst e; rw [hX] at d; simp at d
            · simp [e] at d
              rw [subS_bit h d]; rfl
        · rintro ⟨h, hs⟩
          rw [subS, decide_eq_true_eq]
          apply Nat.eq_of_testBit_eq
          intro i
          rw [Nat.testBit_and]
          cases d : X.testBit i
          · rfl
          · by_cases e : a = i
            · subst e; rw [hs]; rfl
            · have : (X ^^^ 2 ^ a).testBit i = true := by rw [Nat.testBit_xor, Nat.testBit_two_pow, d]; simp [e]
              rw [subS_bit h this]; rfl
      rw [Bool.and_true, Bool.eq_iff_iff, e1, Bool.and_eq_true]
    rw [Bool.and_true] at hs
    rw [hs]
    cases subS (X ^^^ 2 ^ a) S <;> cases S.testBit a <;> simp
end Go.Proofs.Rnk
end
