/- Greatest sums as fractions in lowest terms. -/
import Derived.Test.YtlomlnkafakloaaDoorSxG
set_option linter.unusedSimpArgs false
set_option linter.unusedVariables false
set_option linter.unnecessarySimpa false
namespace Go.Proofs.Sur
set_option maxHeartbeats 1000000
variable {n m : Nat} {b : Nat → Nat → Bool}
def low (z s : Int) : Int × Int := (((z.toNat / Nat.gcd z.toNat s.toNat : Nat) : Int), ((s.toNat / Nat.gcd z.toNat s.toNat : Nat) : Int))
theorem low_ok {z s : Int} (hz : 0 ≤ z) (hs : 0 < s) : 0 ≤ (low z s).1 ∧ 0 < (low z s).2 ∧ Nat.gcd (low z s).1.toNat (low z s).2.toNat = 1 ∧ ∃ g : Int, 0 < g ∧ z = (low z s).1 * g ∧ s = (low z s).2 * g := by
  have hg : 0 < Nat.gcd z.toNat s.toNat := Nat.gcd_pos_of_pos_right _ (by omega)
  have h1 : z.toNat / Nat.gcd z.toNat s.toNat * Nat.gcd z.toNat s.toNat = z.toNat := Nat.div_mul_cancel (Nat.gcd_dvd_left _ _)
  have h2 : s.toNat / Nat.gcd z.toNat s.toNat * Nat.gcd z.toNat s.toNat = s.toNat := Nat.div_mul_cancel (Nat.gcd_dvd_right _ _)
  have h3 : Nat.gcd (z.toNat / Nat.gcd z.toNat s.toNat) (s.toNat / Nat.gcd z.toNat s.toNat) = 1 := by
    rw [Nat.gcd_div (Nat.gcd_dvd_left _ _) (Nat.gcd_dvd_right _ _)]
    exact Nat.div_self hg
  simp only [low]
  generalize Nat.gcd z.toNat s.toNat = g at *
  generalize z.toNat / g = p at *
  generalize s.toNat / g = q at *
  refine ⟨by omega, ?_, by rw [Int.toNat_natCast, Int.toNat_natCast]; exact h3, (g : Int), by omega, ?_, ?_⟩
  · rcases Nat.eq_zero_or_pos q with h | h
    · rw [h, Nat.zero_mul] at h2; omega
    · omega
  · rw [← Int.natCast_mul, h1]; omega
  · rw [← Int.natCast_mul, h2]; omega
theorem cop {p q p' q' : Nat} (h : Nat.gcd p q = 1) (h' : Nat.gcd p' q' = 1) (e : p * q' = p' * q) : p = p' ∧ q = q' := by
  have d1 : q ∣ q' := by
    have : q ∣ p * q' := ⟨p', by rw [e, Nat.mul_comm]⟩
    exact Nat.Coprime.dvd_of_dvd_mul_left (by rw [Nat.Coprime, Nat.gcd_comm]; exact h) this
  have d2 : q' ∣ q := by
    have : q' ∣ p' * q := ⟨p, by rw [← e, Nat.mul_comm]⟩
    exact Nat.Coprime.dvd_of_dvd_mul_left (by rw [Nat.Coprime, Nat.gcd_comm]; exact h') this
  have hq : q = q' := Nat.dvd_antisymm d1 d2
  subst hq
  refine ⟨?_, rfl⟩
  rcases Nat.eq_zero_or_pos q with h0 | h0
  · rw [h0] at h h'; simp at h h'; omega
  · exact Nat.eq_of_mul_eq_mul_right h0 e
theorem low_same {z s z' s' : Int} (hz : 0 ≤ z) (hs : 0 < s) (hz' : 0 ≤ z') (hs' : 0 < s') (e : z * s' = z' * s) : low z s = low z' s' := by
  obtain ⟨a1, a2, a3, g, g1, g2, g3⟩ := low_ok hz hs
  obtain ⟨b1, b2, b3, k, k1, k2, k3⟩ := low_ok hz' hs'
  generalize hL : low z s = L at *
  generalize hM : low z' s' = M at *
  obtain ⟨p, q⟩ := L
  obtain ⟨p', q'⟩ := M
  simp only at *
  have e2 : (p * q') * (g * k) = (p' * q) * (g * k) := by
    rw [g2, g3, k2, k3] at e
    have x1 : p * g * (q' * k) = (p * q') * (g * k) := by rw [Int.mul_assoc, Int.mul_assoc, Int.mul_left_comm g]
    have x2 : p' * k * (q * g) = (p' * q) * (g * k) := by rw [Int.mul_assoc, Int.mul_assoc, Int.mul_left_comm k, Int.mul_comm k g]
    rw [x1, x2] at e; exact e
  have e3 : p * q' = p' * q := Int.eq_of_mul_eq_mul_right (by have := Int.mul_pos g1 k1; omega) e2
  obtain ⟨P, rfl⟩ : ∃ P : Nat, p = P := ⟨p.toNat, by omega⟩
  obtain ⟨Q, rfl⟩ : ∃ Q : Nat, q = Q := ⟨q.toNat, by omega⟩
  obtain ⟨P', rfl⟩ : ∃ P : Nat, p' = P := ⟨p'.toNat, by omega⟩
  obtain ⟨Q', rfl⟩ : ∃ Q : Nat, q' = Q := ⟨q'.toNat, by omega⟩
  simp only [Int.toNat_natCast] at a3 b3
  have e4 : P * Q' = P' * Q := by
    have : ((P * Q' : Nat) : Int) = ((P' * Q : Nat) : Int) := by simpa using e3
    omega
  obtain ⟨r1, r2⟩ := cop a3 b3 e4
  rw [r1, r2]
theorem Cert.nn {z s : Int} (h : Cert n m b z s) : 0 ≤ z := by
  obtain ⟨_, ⟨x, x1, _, x3⟩, _⟩ := h
  rw [← x3]; exact sm_nn x1
open Classical in
noncomputable def lpV (n m : Nat) (b : Nat → Nat → Bool) : Int × Int := if h : ∃ p : Int × Int, Cert n m b p.1 p.2 then low h.choose.1 h.choose.2 else (0, 1)
theorem Cert.val {z s : Int} (h : Cert n m b z s) : lpV n m b = low z s := by
  have hx : ∃ p : Int × Int, Cert n m b p.1 p.2 := ⟨(z, s), h⟩
  rw [lpV, dif_pos hx]
  have h2 := hx.choose_spec
  exact low_same h2.nn h2.1 h.nn h.1 (h2.same h)
theorem Cert.lp {z s : Int} (h : Cert n m b z s) : 0 ≤ (lpV n m b).1 ∧ 0 < (lpV n m b).2 ∧ Nat.gcd (lpV n m b).1.toNat (lpV n m b).2.toNat = 1 ∧ (lpV n m b).1 * s = z * (lpV n m b).2 ∧ (lpV n m b).2 ≤ s ∧ (lpV n m b).1 ≤ z := by
  rw [h.val]
  obtain ⟨a1, a2, a3, g, g1, g2, g3⟩ := low_ok h.nn h.1
  refine ⟨a1, a2, a3, ?_, ?_, ?_⟩
  · generalize low z s = L at *
    rw [g2, g3]
    rw [Int.mul_assoc, Int.mul_comm g, ← Int.mul_assoc]
  · have := Int.mul_le_mul_of_nonneg_left (show 1 ≤ g by omega) (show 0 ≤ (low z s).2 by omega)
    rw [Int.mul_one, ← g3] at this; exact this
  · have := Int.mul_le_mul_of_nonneg_left (show 1 ≤ g by omega) a1
    rw [Int.mul_one, ← g2] at this; exact this
theorem Cert.lptop {z s : Int} (h : Cert n m b z s) {x : Nat → Int} {D : Int} (hx : ∀ j, j < n → 0 ≤ x j) (hl : ∀ i, i < m → sm n (fun j => if b i j = true then x j else 0) ≤ D) : sm n x * (lpV n m b).2 ≤ (lpV n m b).1 * D := by
  have h1 := h.top hx hl
  rw [h.val]
  obtain ⟨a1, a2, a3, g, g1, g2, g3⟩ := low_ok h.nn h.1
  generalize low z s = L at *
  rw [g2, g3] at h1
  have e1 : sm n x * (L.2 * g) = sm n x * L.2 * g := by rw [Int.mul_assoc]
  have e2 : L.1 * g * D = L.1 * D * g := by rw [Int.mul_assoc, Int.mul_comm g, Int.mul_assoc]
  rw [e1, e2] at h1
  exact Int.le_of_mul_le_mul_right h1 g1
end Go.Proofs.Sur

