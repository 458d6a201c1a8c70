/- Layer 9: fractions: common multiples of what sums to one. -/
import Derived.Test.YthodoagjojmliaaVm7
set_option linter.unusedSimpArgs false
set_option linter.unusedVariables false
set_option linter.unnecessarySimpa false
set_option maxRecDepth 100000
namespace Go.Proofs.Bts
open Go Go.VM

abbrev gcI (a b : Int) : Int := (Nat.gcd a.toNat b.toNat : Nat)
abbrev nn6 (a : Int) : Prop := 0 ≤ a
def szB (n : Nat) : Bool := decide (2 ≤ n ∧ n ≤ 5)
/-- a fraction from 0 to 1, in lowest terms -/
abbrev okP (p : Pr) : Prop := 1 ≤ p.2 ∧ (0 ≤ p.1 ∧ p.1 ≤ p.2) ∧ gcI p.1 p.2 = 1
open Classical in
noncomputable def okB (p : Pr) : Bool := decide (okP p)
theorem okB_t {p : Pr} (h : okP p) : okB p = true := by simp only [okB, decide_eq_true_eq]; exact h
theorem okB_f {p : Pr} (h : ¬ okP p) : okB p = false := by simp only [okB, decide_eq_false_iff_not]; exact h
/-- the common multiple of the first k -/
def lc (d : Nat → Nat) : Nat → Nat
  | 0 => 1
  | k + 1 => Nat.lcm (lc d k) (d k)
theorem dvd_lc (d : Nat → Nat) : ∀ {k i : Nat}, i < k → d i ∣ lc d k
  | 0, _, h => absurd h (Nat.not_lt_zero _)
  | k + 1, i, h => by
    by_cases e : i = k
    · subst e; exact Nat.dvd_lcm_right _ _
    · exact Nat.dvd_trans (dvd_lc d (by omega)) (Nat.dvd_lcm_left _ _)
theorem lc_dvd {d : Nat → Nat} {m : Nat} : ∀ {k : Nat}, (∀ i, i < k → d i ∣ m) → lc d k ∣ m
  | 0, _ => Nat.one_dvd _
  | k + 1, h => Nat.lcm_dvd (lc_dvd fun i hi => h i (by omega)) (h k (by omega))
theorem lc_pos {d : Nat → Nat} : ∀ {k : Nat}, (∀ i, i < k → 0 < d i) → 0 < lc d k
  | 0, _ => (by decide : 0 < 1)
  | k + 1, h => Nat.lcm_pos (lc_pos fun i hi => h i (by omega)) (h k (by omega))
theorem lc_mono {d : Nat → Nat} : ∀ {j k : Nat}, j ≤ k → lc d j ∣ lc d k := fun {j k} h => lc_dvd fun i hi => dvd_lc d (by omega)
/-- the common multiple of the first k, but for one -/
def lcx (d : Nat → Nat) (i : Nat) : Nat → Nat
  | 0 => 1
  | k + 1 => if k = i then lcx d i k else Nat.lcm (lcx d i k) (d k)
theorem lcx_dvd {d : Nat → Nat} {m i : Nat} : ∀ {k : Nat}, (∀ j, j < k → j ≠ i → d j ∣ m) → lcx d i k ∣ m
  | 0, _ => Nat.one_dvd _
  | k + 1, h => by
    rw [lcx]
    split
    · exact lcx_dvd fun j hj hne => h j (by omega) hne
    · rename_i e; exact Nat.lcm_dvd (lcx_dvd fun j hj hne => h j (by omega) hne) (h k (by omega) e)
/-- the sum of the first k -/
def sm (f : Nat → Nat) : Nat → Nat
  | 0 => 0
  | k + 1 => sm f k + f k
def smx (f : Nat → Nat) (i : Nat) : Nat → Nat
  | 0 => 0
  | k + 1 => if k = i then smx f i k else smx f i k + f k
theorem smx_out {f : Nat → Nat} {i : Nat} : ∀ {k : Nat}, k ≤ i → smx f i k = sm f k
  | 0, _ => rfl
  | k + 1, h => by rw [sm, smx, if_neg (by omega), smx_out (by omega)]
theorem sm_x {f : Nat → Nat} {i : Nat} : ∀ {k : Nat}, i < k → sm f k = smx f i k + f i
  | 0, h => absurd h (Nat.not_lt_zero _)
  | k + 1, h => by
    rw [sm, smx]
    split
    · rename_i e; subst e; rw [smx_out (Nat.le_refl _)]
    · rename_i e; have := sm_x (f := f) (i := i) (k := k) (by omega); omega
theorem smx_dvd {f : Nat → Nat} {i g : Nat} : ∀ {k : Nat}, (∀ j, j < k → j ≠ i → g ∣ f j) → g ∣ smx f i k
  | 0, _ => Nat.dvd_zero _
  | k + 1, h => by
    rw [smx]
    split
    · exact smx_dvd fun j hj hne => h j (by omega) hne
    · rename_i e; exact Nat.dvd_add (smx_dvd fun j hj hne => h j (by omega) hne) (h k (by omega) e)
theorem others {d N : Nat → Nat} {n : Nat} (hd : ∀ i, i < n → 0 < d i) (hg : ∀ i, i < n → Nat.gcd (N i) (d i) = 1) (hs : sm (fun j => lc d n / d j * N j) n = lc d n) : ∀ i, i < n → d i ∣ lcx d i n := by
  intro i hi
  have hm0 : 0 < lc d n := lc_pos hd
  have hM : lcx d i n ∣ lc d n := lcx_dvd fun j hj _ => dvd_lc d hj
  obtain ⟨t, ht⟩ := hM
  have ht0 : 0 < t := by
    refine Nat.pos_of_ne_zero fun e => ?_
    rw [e, Nat.mul_zero] at ht; omega
  have hj : ∀ j, j < n → j ≠ i → d j ∣ lcx d i n := by
    have : ∀ k j, j < k → j ≠ i → d j ∣ lcx d i k := by
      intro k
      induction k with
      | zero => intro j h; omega
      | succ k ih =>
        intro j h hne
        rw [lcx]
        split
        · rename_i e; exact ih j (by omega) hne
        · by_cases e : j = k
          · subst e; exact Nat.dvd_lcm_right _ _
          · exact Nat.dvd_trans (ih j (by omega) hne) (Nat.dvd_lcm_left _ _)
    exact this n
  rw [sm_x hi] at hs
  have h1 : t ∣ smx (fun j => lc d n / d j * N j) i n := smx_dvd fun j hj' hne => by
    obtain ⟨q, hq⟩ := hj j hj' hne
    have e : lc d n / d j = t * q := by
      rw [ht, hq, Nat.mul_assoc, Nat.mul_div_cancel_left _ (hd j hj'), Nat.mul_comm]
    show t ∣ lc d n / d j * N j
    rw [e, Nat.mul_assoc]; exact Nat.dvd_mul_right _ _
  have h2 : t ∣ lc d n / d i * N i := by
    have : t ∣ smx (fun j => lc d n / d j * N j) i n + lc d n / d i * N i := by rw [hs, ht]; exact Nat.dvd_mul_left _ _
    exact (Nat.dvd_add_right h1).1 this
  obtain ⟨s, hs2⟩ := h2
  have h3 : lcx d i n * N i = s * d i := by
    refine Nat.eq_of_mul_eq_mul_left ht0 ?_
    have e1 : lc d n / d i * d i = lc d n := Nat.div_mul_cancel (dvd_lc d hi)
    calc t * (lcx d i n * N i) = lc d n * N i := by rw [ht, ← Nat.mul_assoc, Nat.mul_comm t]
      _ = lc d n / d i * d i * N i := by rw [e1]
      _ = lc d n / d i * N i * d i := by rw [Nat.mul_right_comm]
      _ = t * s * d i := by rw [hs2]
      _ = _ := by rw [Nat.mul_assoc]
  have hc : Nat.Coprime (d i) (N i) := by rw [Nat.Coprime, Nat.gcd_comm]; exact hg i hi
  exact hc.dvd_of_dvd_mul_right (by rw [h3]; exact Nat.dvd_mul_left _ _)
end Go.Proofs.Bts

