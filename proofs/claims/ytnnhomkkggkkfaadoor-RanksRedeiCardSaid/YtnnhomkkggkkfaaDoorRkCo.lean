/- Joined: RkCo, RkCp. -/
import Derived.Test.YtnnhomkkggkkfaaDoorRkCm
set_option linter.unusedSimpArgs false
set_option linter.unusedVariables false
set_option linter.unnecessarySimpa false
section
set_option maxHeartbeats 4000000
set_option maxRecDepth 100000
namespace Go.Proofs.Rnk
theorem xs_and' (f : Nat → Bool) (c : Bool) (n : Nat) : xs (fun i => f i && c) n = (xs f n && c) := by
  rw [Bool.and_comm, ← xs_and]
  exact xs_congr fun i _ => Bool.and_comm _ _
/-- the pairs of a path that ends and one that begins -/
theorem pair_split (D : Nat → Nat → Bool) (p w : Nat → Bool) :
    (xs (fun b => xs (fun a => D a b && p a) 8 && w b) 8).xor (xs (fun a => p a && xs (fun b => (!D a b) && w b) 8) 8) = (xs p 8 && xs w 8) := by
  have h1 : xs (fun b => xs (fun a => D a b && p a) 8 && w b) 8 = xs (fun a => xs (fun b => (D a b && p a) && w b) 8) 8 := by
    rw [xs_congr (g := fun b => xs (fun a => (D a b && p a) && w b) 8) fun b _ => (xs_and' _ _ _).symm]
    exact xs_swap _ _ _
  have h2 : xs (fun a => p a && xs (fun b => (!D a b) && w b) 8) 8 = xs (fun a => xs (fun b => p a && ((!D a b) && w b)) 8) 8 := xs_congr fun a _ => (xs_and _ _ _).symm
  have h3 : (xs p 8 && xs w 8) = xs (fun a => xs (fun b => p a && w b) 8) 8 := by
    rw [xs_congr (g := fun a => p a && xs w 8) fun a _ => xs_and _ _ _, xs_and']
  rw [h1, h2, h3, ← xs_xor]
  refine xs_congr fun a _ => ?_
  rw [← xs_xor]
  refine xs_congr fun b _ => ?_
  cases D a b <;> cases p a <;> cases w b <;> rfl
/-- the complement -/
def cpD (D : Nat → Nat → Bool) (a b : Nat) : Bool := !D a b
theorem cut_two (D : Nat → Nat → Bool) (S i j : Nat) : sS (fun X => subS X S && (hp (flD D) i X && hp (cpD D) j (S ^^^ X))) 8 0 = (Tp D (cpD D) S (i + 1) j).xor (Tp D (cpD D) S i (j + 1)) := by
  rw [← stepA, ← stepB, ← sS_xor]
  refine sS_congr _ _ fun X _ => ?_
  have := pair_split D (fun a => wp (flD D) i X a) (fun b => wp (cpD D) j (S ^^^ X) b)
  rw [hp, hp, ← this]
  cases subS X S <;> rfl
/-- as many paths end as begin -/
theorem turn_two (D : Nat → Nat → Bool) (S i j : Nat) : Tp D D S (i + 1) j = Tp D D S i (j + 1) := by
  rw [← stepA, ← stepB]
  refine sS_congr _ _ fun X _ => ?_
  congr 1
  rw [xs_congr (g := fun b => xs (fun a => (D a b && wp (flD D) i X a) && wp D j (S ^^^ X) b) 8) fun b _ => (xs_and' _ _ _).symm, xs_swap]
  refine xs_congr fun a _ => ?_
  rw [← xs_and]
  refine xs_congr fun b _ => ?_
  cases D a b <;> cases wp (flD D) i X a <;> cases wp D j (S ^^^ X) b <;> rfl
theorem sS_one {f : Nat → Bool} {S : Nat} : ∀ (n X0 : Nat), (∀ X, X ≠ S → f X = false) → (∀ i, n ≤ i → X0.testBit i = S.testBit i) → (∀ i, i < n → X0.testBit i = false) → sS f n X0 = f S
  | 0, X0, _, h1, _ => by
    have : X0 = S := Nat.eq_of_testBit_eq fun i => h1 i (Nat.zero_le _)
    rw [sS, this]
  | n + 1, X0, hf, h1, h2 => by
    rw [sS]
    have none : ∀ Y, Y.testBit n ≠ S.testBit n → sS f n Y = false := fun Y hY => by
      rw [sS_congr (g := fun _ => false) n Y fun X hX => hf X fun e => hY (by rw [← hX n (Nat.le_refl _), e]), sS_false]
    have hor : (X0 ||| 2 ^ n).testBit n = true := by simp
    have horl : ∀ i, i < n → (X0 ||| 2 ^ n).testBit i = false := fun i hi => by
      rw [Nat.testBit_or, Nat.testBit_two_pow, h2 i (by omega)]
      have : ¬ n = i := by omega
      simp [this]
    cases c : S.testBit n
    · rw [none (X0 ||| 2 ^ n) (by rw [hor, c]; simp), sS_one n X0 hf (fun i hi => by
        by_cases e : i = n
        · subst e; rw [h2 i (by omega), c]
        · exact h1 i (by omega)) (fun i hi => h2 i (by omega))]
      simp
    · rw [none X0 (by rw [h2 n (by omega), c]; simp), sS_one n (X0 ||| 2 ^ n) hf (fun i hi => by
        by_cases e : i = n
        · subst e; rw [hor, c]
        · rw [Nat.testBit_or, Nat.testBit_two_pow, h1 i (by omega)]
          have : ¬ n = i := fun q => e q.symm
          simp [this]) horl]
      simp
end Go.Proofs.Rnk
end
section
set_option maxHeartbeats 4000000
set_option maxRecDepth 100000
namespace Go.Proofs.Rnk
theorem hi_bits {S : Nat} (h : S < 256) {i : Nat} (hi : 8 ≤ i) : S.testBit i = false :=
  Nat.testBit_lt_two_pow (Nat.lt_of_lt_of_le h (show 256 ≤ 2 ^ i from by
    have : 2 ^ 8 ≤ 2 ^ i := Nat.pow_le_pow_right (by decide) hi
    exact this))
theorem Tp_begin (D E : Nat → Nat → Bool) (S j : Nat) : Tp D E S 0 j = hp E j S := by
  rw [Tp, hp]
  refine xs_congr fun b hb => ?_
  have h2 : 2 ^ b < 2 ^ 8 := Nat.pow_lt_pow_right (by decide) hb
  rw [sS_one (S := 2 ^ b) 8 0 (fun X hX => by simp [wp, hX]) (fun i hi => by rw [Nat.zero_testBit, hi_bits h2 hi]) (fun i _ => Nat.zero_testBit i)]
  have e1 : (2 ^ b).testBit b = true := by simp
  have e2 : subS 0 S = true := by simp [subS]
  rw [e1, Nat.xor_self, Nat.xor_zero, e2, wp]
  simp
theorem Tp_end (D E : Nat → Nat → Bool) {S : Nat} (hS : S < 256) (i : Nat) : Tp D E S i 0 = hp (flD D) i S := by
  rw [Tp, hp]
  refine xs_congr fun b hb => ?_
  rw [sS_one (S := S) 8 0 (fun X hX => by
    have : ¬ S ^^^ (X ^^^ 2 ^ b) = 2 ^ b := fun e => hX (by
      apply Nat.eq_of_testBit_eq
      intro k
      have := congrArg (fun z => z.testBit k) e
      simp only [Nat.testBit_xor] at this
      revert this
      cases S.testBit k <;> cases X.testBit k <;> cases (2 ^ b).testBit k <;> simp)
    simp [wp, this]) (fun i hi => by rw [Nat.zero_testBit, hi_bits hS hi]) (fun i _ => Nat.zero_testBit i)]
  cases c : wp (flD D) i S b
  · simp
  · have hb2 := wp_in c
    have e1 : S ^^^ (S ^^^ 2 ^ b) = 2 ^ b := by
      apply Nat.eq_of_testBit_eq
      intro k
      simp only [Nat.testBit_xor]
      cases S.testBit k <;> cases (2 ^ b).testBit k <;> rfl
    have e2 : subS (S ^^^ 2 ^ b) S = true := by
      rw [subS, decide_eq_true_eq]
      apply Nat.eq_of_testBit_eq
      intro k
      rw [Nat.testBit_and, Nat.testBit_xor, Nat.testBit_two_pow]
      by_cases e : b = k
      · subst e; rw [hb2]; simp
      · cases S.testBit k <;> simp [e]
    rw [hb2, e2, wp, e1]
    simp
/-- as many paths begin as end -/
theorem hp_turn (D : Nat → Nat → Bool) {S : Nat} (hS : S < 256) (n : Nat) : hp (flD D) n S = hp D n S := by
  have key : ∀ i j, i + j = n → Tp D D S i j = hp D n S := fun i => by
    induction i with
    | zero => intro j hj; rw [Tp_begin, show j = n by omega]
    | succ i ih => intro j hj; rw [turn_two]; exact ih (j + 1) (by omega)
  rw [← key n 0 (by omega), Tp_end D D hS]
/-- the sum over all cuts -/
def cuts (D : Nat → Nat → Bool) (S n : Nat) : Bool := xs (fun i => sS (fun X => subS X S && (hp (flD D) i X && hp (cpD D) (n - 1 - i) (S ^^^ X))) 8 0) n
theorem cuts_ends (D : Nat → Nat → Bool) {S : Nat} (hS : S < 256) (n : Nat) : cuts D S n = (hp (flD D) n S).xor (hp (cpD D) n S) := by
  have key : ∀ m, m ≤ n → xs (fun i => sS (fun X => subS X S && (hp (flD D) i X && hp (cpD D) (n - 1 - i) (S ^^^ X))) 8 0) m = (Tp D (cpD D) S m (n - m)).xor (Tp D (cpD D) S 0 n) := fun m => by
    induction m with
    | zero => intro _; rw [xs, Nat.sub_zero]; simp
    | succ m ih =>
      intro hm
      rw [xs, ih (by omega), cut_two, show n - 1 - m + 1 = n - m by omega, show n - 1 - m = n - (m + 1) by omega]
      cases Tp D (cpD D) S m (n - m) <;> cases Tp D (cpD D) S 0 n <;> cases Tp D (cpD D) S (m + 1) (n - (m + 1)) <;> rfl
  rw [cuts, key n (Nat.le_refl n), Nat.sub_self, Tp_end D (cpD D) hS, Tp_begin]
end Go.Proofs.Rnk
end
