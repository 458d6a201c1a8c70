/- Layer 9: fractions: common multiples of what sums to one. -/
import Derived.Test.YthodoagjojmliaaVm7
set_option linter.unusedSimpArgs false
set_option linter.unusedVariables false
set_option linter.unnecessarySimpa false
set_option maxRecDepth 100000
namespace Go.Proofs.Bts
open Go Go.VM

abbrev gcI (a b : Int) : Int := (Nat.gcd a.toNat b.toNat : Nat)
abbrev nn6 (a : Int) : Prop := 0 ≤ a
def szB (n : Nat) : Bool := decide (2 ≤ n ∧ n ≤ 5)
/-- a fraction from 0 to 1, in lowest terms -/
abbrev okP (p : Pr) : Prop := 1 ≤ p.2 ∧ (0 ≤ p.1 ∧ p.1 ≤ p.2) ∧ gcI p.1 p.2 = 1
open Classical in
noncomputable def okB (p : Pr) : Bool := decide (okP p)
theorem okB_t {p : Pr} (h : okP p) : okB p = true := by simp only [okB, decide_eq_true_eq]; exact h
theorem okB_f {p : Pr} (h : ¬ okP p) : okB p = false := by simp only [okB, decide_eq_false_iff_not]; exact h
/-- what divides a common multiple divides that of the common divisors -/
theorem dvd_lcm_gcd {a b c : Nat} (h : a ∣ Nat.lcm b c) : a ∣ Nat.lcm (Nat.gcd a b) (Nat.gcd a c) := by
  rcases Nat.eq_zero_or_pos a with rfl | ha
  · rcases Nat.eq_zero_of_zero_dvd h with h0
    rw [Nat.gcd_zero_left, Nat.gcd_zero_left, h0]; exact Nat.dvd_refl _
  have g0 : 0 < Nat.gcd (Nat.gcd a b) (Nat.gcd a c) := Nat.gcd_pos_of_pos_left _ (Nat.gcd_pos_of_pos_left _ ha)
  have e : Nat.gcd (Nat.gcd a b) (Nat.gcd a c) * Nat.lcm (Nat.gcd a b) (Nat.gcd a c) = Nat.gcd a b * Nat.gcd a c := Nat.gcd_mul_lcm _ _
  refine Nat.dvd_of_mul_dvd_mul_left g0 ?_
  rw [e]
  generalize hg : Nat.gcd (Nat.gcd a b) (Nat.gcd a c) = g
  have ga : g ∣ a := hg ▸ Nat.dvd_trans (Nat.gcd_dvd_left _ _) (Nat.gcd_dvd_left _ _)
  have gb : g ∣ b := hg ▸ Nat.dvd_trans (Nat.gcd_dvd_left _ _) (Nat.gcd_dvd_right _ _)
  have gc : g ∣ c := hg ▸ Nat.dvd_trans (Nat.gcd_dvd_right _ _) (Nat.gcd_dvd_right _ _)
  -- g a divides a a, a c, b a, b c
  have h1 : g * a ∣ a * Nat.gcd a c := by
    rw [← Nat.gcd_mul_left]
    exact Nat.dvd_gcd (Nat.mul_dvd_mul ga (Nat.dvd_refl _)) (by rw [Nat.mul_comm a c]; exact Nat.mul_dvd_mul gc (Nat.dvd_refl _))
  have h2 : g * a ∣ b * Nat.gcd a c := by
    rw [← Nat.gcd_mul_left]
    refine Nat.dvd_gcd (Nat.mul_dvd_mul gb (Nat.dvd_refl _)) ?_
    have := Nat.mul_dvd_mul (Nat.dvd_gcd gb gc) h
    rw [Nat.gcd_mul_lcm] at this
    exact this
  rw [Nat.mul_comm (Nat.gcd a b), ← Nat.gcd_mul_left]
  rw [Nat.mul_comm (Nat.gcd a c) a, Nat.mul_comm (Nat.gcd a c) b]
  exact Nat.dvd_gcd h1 h2
/-- the common multiple of the first k -/
def lc (d : Nat → Nat) : Nat → Nat
  | 0 => 1
  | k + 1 => Nat.lcm (lc d k) (d k)
theorem dvd_lc (d : Nat → Nat) : ∀ {k i : Nat}, i < k → d i ∣ lc d k
  | 0, _, h => absurd h (Nat.not_lt_zero _)
  | k + 1, i, h => by
    by_cases e : i = k
    · subst e; exact Nat.dvd_lcm_right _ _
    · exact Nat.dvd_trans (dvd_lc d (by omega)) (Nat.dvd_lcm_left _ _)
theorem lc_dvd {d : Nat → Nat} {m : Nat} : ∀ {k : Nat}, (∀ i, i < k → d i ∣ m) → lc d k ∣ m
  | 0, _ => Nat.one_dvd _
  | k + 1, h => Nat.lcm_dvd (lc_dvd fun i hi => h i (by omega)) (h k (by omega))
theorem lc_pos {d : Nat → Nat} : ∀ {k : Nat}, (∀ i, i < k → 0 < d i) → 0 < lc d k
  | 0, _ => (by decide : 0 < 1)
  | k + 1, h => Nat.lcm_pos (lc_pos fun i hi => h i (by omega)) (h k (by omega))
theorem lc_mono {d : Nat → Nat} : ∀ {j k : Nat}, j ≤ k → lc d j ∣ lc d k := fun {j k} h => lc_dvd fun i hi => dvd_lc d (by omega)
/-- the common multiple of the first k, but for one -/
def lcx (d : Nat → Nat) (i : Nat) : Nat → Nat
  | 0 => 1
  | k + 1 => if k = i then lcx d i k else Nat.lcm (lcx d i k) (d k)
theorem lcx_dvd {d : Nat → Nat} {m i : Nat} : ∀ {k : Nat}, (∀ j, j < k → j ≠ i → d j ∣ m) → lcx d i k ∣ m
  | 0, _ => Nat.one_dvd _
  | k + 1, h => by
    rw [lcx]
    split
    · exact lcx_dvd fun j hj hne => h j (by omega) hne
    · rename_i e; exact Nat.lcm_dvd (lcx_dvd fun j hj hne => h j (by omega) hne) (h k (by omega) e)
/-- what divides the multiple of the others divides that of what it has in common with them -/
theorem dvd_of_lcx {d : Nat → Nat} {a i s : Nat} : ∀ {k : Nat}, a ∣ lcx d i k → (∀ j, j < k → j ≠ i → Nat.gcd a (d j) ∣ s) → a ∣ s
  | k, h, hs => by
    have : ∀ k b, b ∣ lcx d i k → (∀ j, j < k → j ≠ i → Nat.gcd b (d j) ∣ s) → b ∣ s := by
      intro k
      induction k with
      | zero => intro b hb _; exact Nat.dvd_trans hb (Nat.one_dvd _)
      | succ k ih =>
        intro b hb hj
        rw [lcx] at hb
        split at hb
        · exact ih b hb fun j hj' hne => hj j (by omega) hne
        · rename_i e
          have h1 := dvd_lcm_gcd hb
          refine Nat.dvd_trans h1 (Nat.lcm_dvd ?_ (hj k (by omega) e))
          refine ih _ (Nat.gcd_dvd_right _ _) fun j hj' hne => ?_
          refine Nat.dvd_trans (Nat.dvd_gcd (Nat.dvd_trans (Nat.gcd_dvd_left _ _) (Nat.gcd_dvd_left _ _)) (Nat.gcd_dvd_right _ _)) (hj j (by omega) hne)
    exact this k a h hs
/-- the product, and that of what each has in common with those before -/
def pd (d : Nat → Nat) : Nat → Nat
  | 0 => 1
  | k + 1 => pd d k * d k
def sh (d : Nat → Nat) : Nat → Nat
  | 0 => 1
  | k + 1 => sh d k * Nat.gcd (lc d k) (d k)
theorem pd_eq (d : Nat → Nat) : ∀ k, pd d k = lc d k * sh d k
  | 0 => rfl
  | k + 1 => by
    rw [pd, pd_eq d k, lc, sh]
    have := Nat.gcd_mul_lcm (lc d k) (d k)
    calc lc d k * sh d k * d k = sh d k * (lc d k * d k) := by rw [Nat.mul_comm (lc d k), Nat.mul_assoc]
      _ = sh d k * (Nat.gcd (lc d k) (d k) * Nat.lcm (lc d k) (d k)) := by rw [this]
      _ = _ := by rw [← Nat.mul_assoc, Nat.mul_comm]
theorem sh_has (d : Nat → Nat) : ∀ {n k : Nat}, k < n → Nat.gcd (lc d k) (d k) ∣ sh d n
  | 0, k, h => absurd h (Nat.not_lt_zero _)
  | n + 1, k, h => by
    by_cases e : k = n
    · subst e; exact Nat.dvd_mul_left _ _
    · exact Nat.dvd_trans (sh_has d (by omega)) (Nat.dvd_mul_right _ _)
/-- if each divides the multiple of the others, its square divides the product -/
theorem lc_sq {d : Nat → Nat} {n : Nat} (h : ∀ i, i < n → d i ∣ lcx d i n) : lc d n * lc d n ∣ pd d n := by
  rw [pd_eq]
  refine Nat.mul_dvd_mul (Nat.dvd_refl _) (lc_dvd fun i hi => dvd_of_lcx (h i hi) fun j hj hne => ?_)
  by_cases hlt : j < i
  · refine Nat.dvd_trans ?_ (sh_has d hi)
    exact Nat.dvd_gcd (Nat.dvd_trans (Nat.gcd_dvd_right _ _) (dvd_lc d hlt)) (Nat.gcd_dvd_left _ _)
  · refine Nat.dvd_trans ?_ (sh_has d hj)
    exact Nat.dvd_gcd (Nat.dvd_trans (Nat.gcd_dvd_left _ _) (dvd_lc d (by omega))) (Nat.gcd_dvd_right _ _)
theorem pd_le {d : Nat → Nat} {B : Nat} : ∀ {n : Nat}, (∀ i, i < n → d i ≤ B) → pd d n ≤ B ^ n
  | 0, _ => Nat.le_refl _
  | n + 1, h => by rw [pd, Nat.pow_succ]; exact Nat.mul_le_mul (pd_le fun i hi => h i (by omega)) (h n (by omega))
theorem pd_pos {d : Nat → Nat} : ∀ {n : Nat}, (∀ i, i < n → 0 < d i) → 0 < pd d n
  | 0, _ => (by decide : 0 < 1)
  | n + 1, h => Nat.mul_pos (pd_pos fun i hi => h i (by omega)) (h n (by omega))
/-- the sum of the first k -/
def sm (f : Nat → Nat) : Nat → Nat
  | 0 => 0
  | k + 1 => sm f k + f k
def smx (f : Nat → Nat) (i : Nat) : Nat → Nat
  | 0 => 0
  | k + 1 => if k = i then smx f i k else smx f i k + f k
theorem smx_out {f : Nat → Nat} {i : Nat} : ∀ {k : Nat}, k ≤ i → smx f i k = sm f k
  | 0, _ => rfl
  | k + 1, h => by rw [sm, smx, if_neg (by omega), smx_out (by omega)]
theorem sm_x {f : Nat → Nat} {i : Nat} : ∀ {k : Nat}, i < k → sm f k = smx f i k + f i
  | 0, h => absurd h (Nat.not_lt_zero _)
  | k + 1, h => by
    rw [sm, smx]
    split
    · rename_i e; subst e; rw [smx_out (Nat.le_refl _)]
    · rename_i e; have := sm_x (f := f) (i := i) (k := k) (by omega); omega
theorem smx_dvd {f : Nat → Nat} {i g : Nat} : ∀ {k : Nat}, (∀ j, j < k → j ≠ i → g ∣ f j) → g ∣ smx f i k
  | 0, _ => Nat.dvd_zero _
  | k + 1, h => by
    rw [smx]
    split
    · exact smx_dvd fun j hj hne => h j (by omega) hne
    · rename_i e; exact Nat.dvd_add (smx_dvd fun j hj hne => h j (by omega) hne) (h k (by omega) e)
theorem others {d N : Nat → Nat} {n : Nat} (hd : ∀ i, i < n → 0 < d i) (hg : ∀ i, i < n → Nat.gcd (N i) (d i) = 1) (hs : sm (fun j => lc d n / d j * N j) n = lc d n) : ∀ i, i < n → d i ∣ lcx d i n := by
  intro i hi
  have hm0 : 0 < lc d n := lc_pos hd
  have hM : lcx d i n ∣ lc d n := lcx_dvd fun j hj _ => dvd_lc d hj
  obtain ⟨t, ht⟩ := hM
  have ht0 : 0 < t := by
    refine Nat.pos_of_ne_zero fun e => ?_
    rw [e, Nat.mul_zero] at ht; omega
  have hj : ∀ j, j < n → j ≠ i → d j ∣ lcx d i n := by
    have : ∀ k j, j < k → j ≠ i → d j ∣ lcx d i k := by
      intro k
      induction k with
      | zero => intro j h; omega
      | succ k ih =>
        intro j h hne
        rw [lcx]
        split
        · rename_i e; exact ih j (by omega) hne
        · by_cases e : j = k
          · subst e; exact Nat.dvd_lcm_right _ _
          · exact Nat.dvd_trans (ih j (by omega) hne) (Nat.dvd_lcm_left _ _)
    exact this n
  rw [sm_x hi] at hs
  have h1 : t ∣ smx (fun j => lc d n / d j * N j) i n := smx_dvd fun j hj' hne => by
    obtain ⟨q, hq⟩ := hj j hj' hne
    have e : lc d n / d j = t * q := by
      rw [ht, hq, Nat.mul_assoc, Nat.mul_div_cancel_left _ (hd j hj'), Nat.mul_comm]
    show t ∣ lc d n / d j * N j
    rw [e, Nat.mul_assoc]; exact Nat.dvd_mul_right _ _
  have h2 : t ∣ lc d n / d i * N i := by
    have : t ∣ smx (fun j => lc d n / d j * N j) i n + lc d n / d i * N i := by rw [hs, ht]; exact Nat.dvd_mul_left _ _
    exact (Nat.dvd_add_right h1).1 this
  obtain ⟨s, hs2⟩ := h2
  have h3 : lcx d i n * N i = s * d i := by
    refine Nat.eq_of_mul_eq_mul_left ht0 ?_
    have e1 : lc d n / d i * d i = lc d n := Nat.div_mul_cancel (dvd_lc d hi)
    calc t * (lcx d i n * N i) = lc d n * N i := by rw [ht, ← Nat.mul_assoc, Nat.mul_comm t]
      _ = lc d n / d i * d i * N i := by rw [e1]
      _ = lc d n / d i * N i * d i := by rw [Nat.mul_right_comm]
      _ = t * s * d i := by rw [hs2]
      _ = _ := by rw [Nat.mul_assoc]
  have hc : Nat.Coprime (d i) (N i) := by rw [Nat.Coprime, Nat.gcd_comm]; exact hg i hi
  exact hc.dvd_of_dvd_mul_right (by rw [h3]; exact Nat.dvd_mul_left _ _)
theorem lc_fore {d N : Nat → Nat} {n : Nat} (h5 : n ≤ 5) (hd : ∀ i, i < n → 0 < d i) (h60 : ∀ i, i < n → d i ≤ 60) (hg : ∀ i, i < n → Nat.gcd (N i) (d i) = 1) (hs : sm (fun j => lc d n / d j * N j) n = lc d n) : lc d n ≤ 27885 := by
  have h1 := Nat.le_of_dvd (pd_pos hd) (lc_sq (others hd hg hs))
  have h2 := pd_le h60
  have h3 : 60 ^ n ≤ 60 ^ 5 := Nat.pow_le_pow_right (by decide) h5
  have h4 : lc d n * lc d n ≤ 777600000 := by omega
  refine Classical.byContradiction fun hc => ?_
  have := Nat.mul_le_mul (show 27886 ≤ lc d n by omega) (show 27886 ≤ lc d n by omega)
  omega
end Go.Proofs.Bts

