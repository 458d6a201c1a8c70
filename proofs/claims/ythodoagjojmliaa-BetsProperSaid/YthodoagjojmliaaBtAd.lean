/- Layer 9: the average score is greatest at the true chances (P9.12), in whole numbers. -/
import Derived.Test.YthodoagjojmliaaBtS
set_option linter.unusedSimpArgs false
set_option linter.unusedVariables false
set_option linter.unnecessarySimpa false
set_option maxRecDepth 100000
namespace Go.Proofs.Bts
open Go Go.VM

/-- the squares of the differences -/
def sqD (a b : List Int) (p q : Int) (n : Nat) : Int := sI (fun i => (p * ia a i - q * ia b i) * (p * ia a i - q * ia b i)) n
theorem sqD_eq (a b : List Int) (p q : Int) : ∀ n, sqD a b p q n = p * p * pI a a n - 2 * (p * q) * pI a b n + q * q * pI b b n
  | 0 => by simp [sqD, pI, sI]
  | n + 1 => by
    have ih := sqD_eq a b p q n
    have e1 : sqD a b p q (n + 1) = sqD a b p q n + (p * ia a n - q * ia b n) * (p * ia a n - q * ia b n) := rfl
    have e2 : ∀ x y : List Int, pI x y (n + 1) = pI x y n + ia x n * ia y n := fun _ _ => rfl
    rw [e1, e2, e2, e2, ih]
    generalize ia a n = s
    generalize ia b n = t
    grind
theorem sqD_nn (a b : List Int) (p q : Int) : ∀ n, 0 ≤ sqD a b p q n
  | 0 => Int.le_refl 0
  | n + 1 => by
    have ih := sqD_nn a b p q n
    have e1 : sqD a b p q (n + 1) = sqD a b p q n + (p * ia a n - q * ia b n) * (p * ia a n - q * ia b n) := rfl
    have : 0 ≤ (p * ia a n - q * ia b n) * (p * ia a n - q * ia b n) := by
      rcases Int.le_total 0 (p * ia a n - q * ia b n) with h | h
      · exact Int.mul_nonneg h h
      · exact Int.mul_nonneg_of_nonpos_of_nonpos h h
    omega
theorem sqD_0 {a b : List Int} {p q : Int} : ∀ {n : Nat}, sqD a b p q n = 0 → ∀ i, i < n → p * ia a i = q * ia b i
  | 0, _, _, hi => absurd hi (Nat.not_lt_zero _)
  | n + 1, h, i, hi => by
    have ih := sqD_nn a b p q n
    have e1 : sqD a b p q (n + 1) = sqD a b p q n + (p * ia a n - q * ia b n) * (p * ia a n - q * ia b n) := rfl
    have : 0 ≤ (p * ia a n - q * ia b n) * (p * ia a n - q * ia b n) := by
      rcases Int.le_total 0 (p * ia a n - q * ia b n) with h | h
      · exact Int.mul_nonneg h h
      · exact Int.mul_nonneg_of_nonpos_of_nonpos h h
    by_cases e : i = n
    · subst e
      have hz : (p * ia a i - q * ia b i) * (p * ia a i - q * ia b i) = 0 := by omega
      rcases Int.mul_eq_zero.1 hz with h | h <;> omega
    · exact sqD_0 (n := n) (by omega) i (by omega)
termination_by n => n
/-- how far the averages are apart -/
theorem mean_gap {a b : List Int} {D E p q M : Int} {n : Nat} (ha : a.length = n) (hb : b.length = n) (h1 : M = D * p) (h2 : M = E * q) :
    (avN b E b E * avD D E - avN a D b E * avD E E) * (M * M) = sqD a b p q n * (avD D E * avD E E) := by
  have e := sqD_eq a b p q n
  have f1 : avN b E b E = 2 * pI b b n * E - pI b b n * E := by unfold avN; rw [hb]
  have f2 : avN a D b E = 2 * pI a b n * D - pI a a n * E := by unfold avN; rw [ha]
  rw [e, f1, f2]
  unfold avD
  generalize pI a a n = x
  generalize pI a b n = y
  generalize pI b b n = z
  subst h1
  have k1 : D * p * (D * p) = D * p * (E * q) := by rw [← h2]
  have k2 : D * p * (E * q) = E * q * (E * q) := by rw [← h2]
  grind
/-- bounds of the averages -/
theorem mean_b {a b : List Int} {D E : Int} (hl : b.length = a.length) (hD : 1 ≤ D) (hE : 1 ≤ E) (ha : ∀ i, i < a.length → 0 ≤ ia a i ∧ ia a i ≤ D) (hb : ∀ i, i < b.length → 0 ≤ ia b i ∧ ia b i ≤ E) (sa : sI (ia a) a.length = D) (sb : sI (ia b) b.length = E) :
    1 ≤ avD D E ∧ -avD D E ≤ avN a D b E ∧ avN a D b E ≤ avD D E := by
  obtain ⟨a1, a2⟩ := sq_le (f := ia a) (D := D) ha
  obtain ⟨b1, b2⟩ := sq_le (f := ia b) (D := E) hb
  rw [sa] at a2
  rw [sb] at b2
  have ea : pI a a a.length = sI (fun i => ia a i * ia a i) a.length := rfl
  have eb : pI b b b.length = sI (fun i => ia b i * ia b i) b.length := rfl
  rw [← ea] at a1 a2
  rw [← eb, hl] at b1 b2
  have ab := (pI_b (a := a) (b := b) (A := D) (B := E) ha hb (by omega) (j := a.length) (Nat.le_refl _) (by omega)).1
  have hs := sqD_nn a b E D a.length
  rw [sqD_eq] at hs
  have hQ : 1 ≤ avD D E := by
    unfold avD
    have := Int.mul_pos (Int.mul_pos (show 0 < D by omega) (show 0 < D by omega)) (show 0 < E by omega)
    omega
  refine ⟨hQ, ?_, ?_⟩
  · unfold avN avD
    have m1 := Int.mul_le_mul_of_nonneg_right a2 (show 0 ≤ E by omega)
    have m2 : 0 ≤ 2 * pI a b a.length * D := Int.mul_nonneg (by omega) (by omega)
    omega
  · refine Int.le_of_mul_le_mul_right (a := E) ?_ (by omega)
    unfold avN avD
    have m1 := Int.mul_le_mul_of_nonneg_left b2 (Int.mul_nonneg (show 0 ≤ D by omega) (show 0 ≤ D by omega))
    have e1 : (2 * pI a b a.length * D - pI a a a.length * E) * E = 2 * (E * D) * pI a b a.length - E * E * pI a a a.length := by grind
    have e2 : D * D * E * E = D * D * (E * E) := by grind
    rw [e1, e2]
    omega
/-- a quotient in lowest terms divides what it is worth -/
theorem low_eq {u v S W : Int} (hu : 0 ≤ u) (hv : 1 ≤ v) (h : u * W = S * v) (hW : 1 ≤ W) :
    1 ≤ lwD u v ∧ lwD u v ∣ W ∧ W.tdiv (lwD u v) * lwN u v = S := by
  obtain ⟨g1, e1, e2⟩ := lw_mul (N := u) hv
  have eu : abI u = u := by simp only [abI]; split <;> omega
  have hco : Int.gcd (lwD u v) (lwN u v) = 1 := by
    have hg : gcI (abI u) v = ((Nat.gcd u.toNat v.toNat : Nat) : Int) := by rw [eu]
    have q1 : lwN u v = ((u.toNat / Nat.gcd u.toNat v.toNat : Nat) : Int) := by
      unfold lwN; rw [hg]
      conv => lhs; rw [show u = ((u.toNat : Nat) : Int) by omega]
      rw [Int.toNat_natCast, ← Int.ofNat_tdiv]
    have q2 : lwD u v = ((v.toNat / Nat.gcd u.toNat v.toNat : Nat) : Int) := by
      unfold lwD; rw [hg]
      conv => lhs; rw [show v = ((v.toNat : Nat) : Int) by omega]
      rw [Int.toNat_natCast, ← Int.ofNat_tdiv]
    rw [q1, q2, Int.gcd_natCast_natCast, Nat.gcd_comm]
    exact Nat.coprime_div_gcd_div_gcd (Nat.gcd_pos_of_pos_right _ (by omega))
  generalize gcI (abI u) v = g at g1 e1 e2
  generalize lwN u v = x at e1 hco ⊢
  generalize lwD u v = y at e2 hco ⊢
  have hy : 1 ≤ y := by
    rcases Int.lt_or_le 0 y with h | h
    · omega
    · have := Int.mul_le_mul_of_nonneg_right h (show 0 ≤ g by omega); rw [Int.zero_mul] at this; omega
  have h2 : x * W = S * y := by
    have : x * W * g = S * y * g := by
      have : x * g * W = S * (y * g) := by rw [e1, e2]; exact h
      grind
    exact Int.eq_of_mul_eq_mul_right (by omega) this
  have hd : y ∣ W := by
    have d1 : y ∣ x * W := ⟨S, by rw [h2, Int.mul_comm]⟩
    have d2 := Int.natAbs_dvd_natAbs.2 d1
    rw [Int.natAbs_mul] at d2
    exact Int.natAbs_dvd_natAbs.1 (Nat.Coprime.dvd_of_dvd_mul_left hco d2)
  obtain ⟨k, rfl⟩ := hd
  refine ⟨hy, ⟨k, rfl⟩, ?_⟩
  have h3 : k * x = S := by
    refine Int.eq_of_mul_eq_mul_right (show y ≠ 0 by omega) ?_
    grind
  rw [Int.mul_tdiv_cancel_left _ (show y ≠ 0 by omega)]
  exact h3
end Go.Proofs.Bts

