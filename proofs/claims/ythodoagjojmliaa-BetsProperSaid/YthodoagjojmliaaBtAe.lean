/- Layer 9: two forecasts over one common multiple. -/
import Derived.Test.YthodoagjojmliaaBtAd
import Derived.Test.YthodoagjojmliaaBtT
import Derived.Test.YthodoagjojmliaaBtZ
set_option linter.unusedSimpArgs false
set_option linter.unusedVariables false
set_option linter.unnecessarySimpa false
set_option maxRecDepth 100000
namespace Go.Proofs.Bts
open Go Go.VM

theorem lc_congr {d e : Nat → Nat} : ∀ {k : Nat}, (∀ i, i < k → d i = e i) → lc d k = lc e k
  | 0, _ => rfl
  | k + 1, h => by rw [lc, lc, lc_congr fun i hi => h i (by omega), h k (by omega)]
theorem dn_app1 (l m : List Pr) {j : Nat} (hj : j ≤ l.length) : dn (l ++ m) j = dn l j := lc_congr fun i hi => by
  have h : i < l.length := by omega
  simp [List.getD_eq_getElem?_getD, List.getElem?_append_left h]
theorem dn_app (l m : List Pr) : ∀ j, dn (l ++ m) (l.length + j) = Nat.lcm (dn l l.length) (dn m j)
  | 0 => by rw [Nat.add_zero, dn_app1 l m (Nat.le_refl _), dn_0, Nat.lcm_one_right]
  | j + 1 => by
    have e : (l ++ m).getD (l.length + j) pair0 = m.getD j pair0 := by
      simp [List.getD_eq_getElem?_getD, List.getElem?_append_right]
    rw [← Nat.add_assoc, dn_succ, dn_app l m j, e, dn_succ, Nat.lcm_assoc]
/-- the common multiple of two forecasts -/
abbrev cmM (l m : List Pr) : Nat := Nat.lcm (dn l l.length) (dn m m.length)
theorem mul_app {l m : List Pr} (hl : jOK l) (hm : jOK m) (h1 : dn l l.length ≤ 30000) (h2 : dn m m.length ≤ 30000) : mul (l ++ m) = cmM l m ∧ 1 ≤ cmM l m := by
  have p1 := dn_pos hl.1 (j := l.length) (Nat.le_refl _)
  have p2 := dn_pos hm.1 (j := m.length) (Nat.le_refl _)
  have e : dn (l ++ m) (l ++ m).length = cmM l m := by rw [List.length_append, dn_app]
  have hle : cmM l m ≤ 900000000 := by
    have := Nat.le_of_dvd (Nat.mul_pos p1 p2) (Nat.lcm_dvd_mul (dn l l.length) (dn m m.length))
    have := Nat.mul_le_mul h1 h2
    show Nat.lcm _ _ ≤ _
    omega
  have hk : mOK (l ++ m) := by
    refine ⟨fun i hi => ?_, by rw [e]; omega⟩
    by_cases h : i < l.length
    · have e2 : (l ++ m).getD i pair0 = l.getD i pair0 := by simp [List.getD_eq_getElem?_getD, List.getElem?_append_left h]
      rw [e2]; exact (jOK_iff.1 hl).1.1 i h
    · rw [List.length_append] at hi
      have e2 : (l ++ m).getD i pair0 = m.getD (i - l.length) pair0 := by simp [List.getD_eq_getElem?_getD, List.getElem?_append_right (show l.length ≤ i by omega)]
      rw [e2]; exact (jOK_iff.1 hm).1.1 _ (by omega)
  refine ⟨by rw [mul_t hk, e], Nat.lcm_pos p1 p2⟩
/-- a numerator over a multiple -/
theorem nm_mul {l : List Pr} (hl : jOK l) {M p : Int} (hM : M = (dn l l.length : Nat) * p) {i : Nat} (hi : i < l.length) : M.tdiv (l.getD i pair0).2 = p * ((dn l l.length : Nat) : Int).tdiv (l.getD i pair0).2 ∧ M.tdiv (l.getD i pair0).2 * (l.getD i pair0).1 = p * ia (nums l) i := by
  have e2 : ia (nums l) i = nm l i := nmL_get l hi
  obtain ⟨⟨n1, n2, n3⟩, n4, n5⟩ := nm_ok hl.1 hi
  have hd := (hl.1 i hi).1
  have e3 : M.tdiv (l.getD i pair0).2 = p * ((dn l l.length : Nat) : Int).tdiv (l.getD i pair0).2 := by
    have : M = p * ((dn l l.length : Nat) : Int).tdiv (l.getD i pair0).2 * (l.getD i pair0).2 := by rw [Int.mul_assoc, n3, hM, Int.mul_comm]
    rw [this, Int.mul_tdiv_cancel _ (by omega)]
  refine ⟨e3, ?_⟩
  rw [e3, e2, nm, Int.mul_assoc]
/-- where all parts are the same, the fractions are -/
theorem low_uniq {a b c d : Int} (hb : 1 ≤ b) (hd : 1 ≤ d) (ha : 0 ≤ a) (hc : 0 ≤ c) (h1 : gcI a b = 1) (h2 : gcI c d = 1) (h : a * d = c * b) : a = c ∧ b = d := by
  obtain ⟨A, rfl⟩ : ∃ A : Nat, a = A := ⟨a.toNat, by omega⟩
  obtain ⟨B, rfl⟩ : ∃ B : Nat, b = B := ⟨b.toNat, by omega⟩
  obtain ⟨C, rfl⟩ : ∃ C : Nat, c = C := ⟨c.toNat, by omega⟩
  obtain ⟨D, rfl⟩ : ∃ D : Nat, d = D := ⟨d.toNat, by omega⟩
  have g1 : Nat.gcd A B = 1 := by have : ((Nat.gcd A B : Nat) : Int) = 1 := h1; omega
  have g2 : Nat.gcd C D = 1 := by have : ((Nat.gcd C D : Nat) : Int) = 1 := h2; omega
  have hn : A * D = C * B := by exact_mod_cast h
  have d1 : B ∣ D := Nat.Coprime.dvd_of_dvd_mul_left (m := A) (show Nat.Coprime B A by rw [Nat.Coprime, Nat.gcd_comm]; exact g1) ⟨C, by rw [hn, Nat.mul_comm]⟩
  have d2 : D ∣ B := Nat.Coprime.dvd_of_dvd_mul_left (m := C) (show Nat.Coprime D C by rw [Nat.Coprime, Nat.gcd_comm]; exact g2) ⟨A, by rw [← hn, Nat.mul_comm]⟩
  have e := Nat.dvd_antisymm d1 d2
  subst e
  have := Nat.eq_of_mul_eq_mul_right (by omega) hn
  exact ⟨by omega, rfl⟩
/-- all that the law says of the numbers, of two forecasts of as many worlds -/
theorem proper_math {l m : List Pr} (hl : fcB l = true) (hm : fcB m = true) (hn : l.length = m.length) :
    ∃ p q : Int, (cmM l m : Nat) = stD l * p ∧ ((cmM l m : Nat) : Int) = stD m * q ∧ 1 ≤ p ∧ 1 ≤ q ∧ (sqD (nums l) (nums m) p q l.length = 0 ↔ l = m) := by
  obtain ⟨⟨_, h2⟩, h3⟩ := fcB_b hl
  obtain ⟨⟨_, g2⟩, g3⟩ := fcB_b hm
  have hp := (mul_app h2 g2 h3 g3).2
  obtain ⟨p, hp'⟩ := Nat.dvd_lcm_left (dn l l.length) (dn m m.length)
  obtain ⟨q, hq'⟩ := Nat.dvd_lcm_right (dn l l.length) (dn m m.length)
  have hp1 : 1 ≤ p := by
    rcases Nat.eq_zero_or_pos p with h | h
    · subst h
      have h0 : cmM l m = 0 := by show Nat.lcm _ _ = 0; rw [hp']; simp
      omega
    · exact h
  have hq1 : 1 ≤ q := by
    rcases Nat.eq_zero_or_pos q with h | h
    · subst h
      have h0 : cmM l m = 0 := by show Nat.lcm _ _ = 0; rw [hq']; simp
      omega
    · exact h
  have e1 : ((cmM l m : Nat) : Int) = stD l * p := by show ((Nat.lcm _ _ : Nat) : Int) = _; rw [hp', Int.natCast_mul]
  have e2 : ((cmM l m : Nat) : Int) = stD m * q := by show ((Nat.lcm _ _ : Nat) : Int) = _; rw [hq', Int.natCast_mul]
  refine ⟨p, q, e1, e2, by omega, by omega, fun h => ?_, fun h => ?_⟩
  · have ha := sqD_0 h
    refine List.ext_getElem hn fun i i1 i2 => ?_
    have hi := ha i i1
    have m1 := (nm_mul h2 (p := p) e1 i1).2
    have m2 := (nm_mul g2 (p := q) e2 i2).2
    obtain ⟨o1, o2, o3⟩ := h2.1 i i1
    obtain ⟨r1, r2, r3⟩ := g2.1 i i2
    have x1 : l.getD i pair0 = l[i] := by simp [List.getD_eq_getElem?_getD, i1]
    have x2 : m.getD i pair0 = m[i] := by simp [List.getD_eq_getElem?_getD, i2]
    rw [← x1, ← x2]
    have k1 : ((cmM l m : Nat) : Int).tdiv (l.getD i pair0).2 * (l.getD i pair0).2 = (cmM l m : Nat) := by
      refine Int.tdiv_mul_cancel ⟨p * (stD l).tdiv (l.getD i pair0).2, ?_⟩
      have := (nm_ok h2.1 i1).1.2.2
      rw [e1]
      have t : stD l = (stD l).tdiv (l.getD i pair0).2 * (l.getD i pair0).2 := this.symm
      generalize (stD l).tdiv (l.getD i pair0).2 = w at t
      rw [t]; grind
    have k2 : ((cmM l m : Nat) : Int).tdiv (m.getD i pair0).2 * (m.getD i pair0).2 = (cmM l m : Nat) := by
      refine Int.tdiv_mul_cancel ⟨q * (stD m).tdiv (m.getD i pair0).2, ?_⟩
      have := (nm_ok g2.1 i2).1.2.2
      rw [e2]
      have t : stD m = (stD m).tdiv (m.getD i pair0).2 * (m.getD i pair0).2 := this.symm
      generalize (stD m).tdiv (m.getD i pair0).2 = w at t
      rw [t]; grind
    have k3 := m1.trans (hi.trans m2.symm)
    have hM0 : ((cmM l m : Nat) : Int) ≠ 0 := by omega
    generalize ((cmM l m : Nat) : Int).tdiv (l.getD i pair0).2 = s at k1 k3
    generalize ((cmM l m : Nat) : Int).tdiv (m.getD i pair0).2 = t at k2 k3
    generalize ((cmM l m : Nat) : Int) = M at k1 k2 hM0
    have k4 : (l.getD i pair0).1 * (m.getD i pair0).2 = (m.getD i pair0).1 * (l.getD i pair0).2 := by
      refine Int.eq_of_mul_eq_mul_left hM0 ?_
      have a1 : M * ((l.getD i pair0).1 * (m.getD i pair0).2) = s * (l.getD i pair0).1 * ((l.getD i pair0).2 * (m.getD i pair0).2) := by rw [← k1]; grind
      have a2 : M * ((m.getD i pair0).1 * (l.getD i pair0).2) = t * (m.getD i pair0).1 * ((l.getD i pair0).2 * (m.getD i pair0).2) := by rw [← k2]; grind
      rw [a1, a2, k3]
    obtain ⟨z1, z2⟩ := low_uniq o1 r1 o2.1 r2.1 o3 r3 k4
    exact Prod.ext z1 z2
  · subst h
    have hpq : (p : Int) = q := by
      have : stD l * (p : Int) = stD l * q := e1.symm.trans e2
      have hd := dn_pos h2.1 (j := l.length) (Nat.le_refl _)
      exact Int.eq_of_mul_eq_mul_left (show stD l ≠ 0 by show ((dn l l.length : Nat) : Int) ≠ 0; omega) this
    rw [hpq]
    have : ∀ n, sqD (nums l) (nums l) q q n = 0 := fun n => by
      induction n with
      | zero => rfl
      | succ n ih =>
        have e1 : sqD (nums l) (nums l) q q (n + 1) = sqD (nums l) (nums l) q q n + ((q : Int) * ia (nums l) n - q * ia (nums l) n) * ((q : Int) * ia (nums l) n - q * ia (nums l) n) := rfl
        rw [e1, ih]; simp
    exact this _
end Go.Proofs.Bts

