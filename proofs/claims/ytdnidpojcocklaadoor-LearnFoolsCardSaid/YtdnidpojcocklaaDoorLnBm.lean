/- Layer 4: mathematics of mistakes: the careful learner is as good as the dimension, the halving one makes at most the bits of the number of concepts. -/
import Derived.Test.YtdnidpojcocklaaDoorLnN0
import Derived.Test.YtdnidpojcocklaaDoorLnT1
import Derived.Test.YtdnidpojcocklaaDoorLnS
set_option linter.unusedSimpArgs false
set_option linter.unusedVariables false
set_option linter.unnecessarySimpa false
set_option maxHeartbeats 400000
set_option maxRecDepth 100000
namespace Go.Proofs.Lrn
open Go Go.VM

abbrev sub (c b : BitVec 32) : Prop := ∀ i, i < 32 → c.getLsbD i = true → b.getLsbD i = true
theorem sub_zero {c : BitVec 32} (h : sub c 0#32) : c = 0#32 := by
  apply BitVec.eq_of_getLsbD_eq
  intro i hi
  cases hc : c.getLsbD i
  · simp
  · have := h i hi hc; simp at this
theorem sub_ne {c b : BitVec 32} (h : sub c b) (hc : c ≠ 0#32) : b ≠ 0#32 := fun e => hc (sub_zero (e ▸ h))
theorem pt_sub {c b : BitVec 32} (h : sub c b) {x : Nat} (hx : x < 5) {y : Int} (hy : y = 0 ∨ y = 1) : sub (pt c (x : Int) y) (pt b (x : Int) y) := by
  intro i hi hb
  rw [pt_bit hx hi hy, Bool.and_eq_true] at hb ⊢
  exact ⟨h i hi hb.1, hb.2⟩
theorem pt_subset {b : BitVec 32} {x : Nat} (hx : x < 5) {y : Int} (hy : y = 0 ∨ y = 1) : sub (pt b (x : Int) y) b := by
  intro i hi hb
  rw [pt_bit hx hi hy, Bool.and_eq_true] at hb
  exact hb.1
theorem dfb_sub {c b : BitVec 32} (h : sub c b) {x : Nat} (hx : x < 5) (hd : dfb c (x : Int) = true) : dfb b (x : Int) = true := by
  rw [dfb_iff] at hd ⊢
  exact ⟨sub_ne (pt_sub h hx (.inl rfl)) hd.1, sub_ne (pt_sub h hx (.inr rfl)) hd.2⟩
theorem dmL_mono {f : BitVec 32 → Int} {b c : BitVec 32} (h : sub c b) (hf : ∀ x : Nat, x < 5 → ∀ y : Int, y = 0 ∨ y = 1 → dfb b (x : Int) = true → f (pt c (x : Int) y) ≤ f (pt b (x : Int) y)) : ∀ j, j ≤ 5 → dmL f c j ≤ dmL f b j
  | 0, _ => Int.le_refl 0
  | j + 1, hj => by
    have ih := dmL_mono h hf j (by omega)
    simp only [dmL]
    by_cases hd : dfb c (j : Int) = true
    · have hd2 := dfb_sub h (by omega) hd
      have h0 := hf j (by omega) 0 (.inl rfl) hd2
      have h1 := hf j (by omega) 1 (.inr rfl) hd2
      rw [if_pos hd, if_pos hd2]
      simp only [pick2, if_true, Bool.false_eq_true, if_false]
      split <;> split <;> split <;> split <;> omega
    · rw [if_neg hd]
      split
      · simp only [pick2, if_true]
        split <;> omega
      · exact ih
theorem dim_mono {p : Int} (hp : p5 p) (n : Nat) : ∀ (b c : BitVec 32), pc b < n → sub c b → dimV p c ≤ dimV p b := by
  induction n with
  | zero => intro _ _ h; omega
  | succ n ih =>
    intro b c h hs
    by_cases hc : c = 0#32
    · rw [hc, dimV_0]; exact (dimV_bd p b).1
    · have hb := sub_ne hs hc
      have hp5 : p.toNat ≤ 5 := by obtain ⟨_, _⟩ := hp; omega
      have hf : ∀ x : Nat, x < 5 → ∀ y : Int, y = 0 ∨ y = 1 → dfb b (x : Int) = true → dimV p (pt c (x : Int) y) ≤ dimV p (pt b (x : Int) y) := by
        intro x hx y hy hd
        have hl := pt_lt (y := y) hd
        have hl2 : pc (pt b (x : Int) y) < n := Nat.lt_of_lt_of_le hl (Nat.le_of_lt_succ h)
        exact ih _ _ hl2 (pt_sub hs hx hy)
      have := dmL_mono (f := dimV p) hs hf p.toNat hp5
      rw [← dimV_eq hc, ← dimV_eq hb] at this
      exact this
theorem pc_pos {b : BitVec 32} (h : b ≠ 0#32) : 1 ≤ pc b := by
  have : pc b ≠ 0 := fun e => h (pc_zero e)
  omega
theorem pc_split {b : BitVec 32} {x : Nat} (hx : x < 5) : pc b = pc (pt b (x : Int) 0) + pc (pt b (x : Int) 1) := by
  have e : pc b = cb (fun i => (pt b (x : Int) 0).getLsbD i || (pt b (x : Int) 1).getLsbD i) 32 := cb_congr 32 (fun i hi => by
    rw [pt_bit hx hi (.inl rfl), pt_bit hx hi (.inr rfl)]
    have h2 : i / 2 ^ x % 2 < 2 := Nat.mod_lt _ (by decide)
    by_cases e : i / 2 ^ x % 2 = 0
    · simp [e]
    · have : i / 2 ^ x % 2 = 1 := by omega
      simp [this])
  rw [e, cb_or 32 (fun i hi h => by
    rw [pt_bit hx hi (.inl rfl), pt_bit hx hi (.inr rfl)] at h
    simp only [Bool.and_eq_true, decide_eq_true_eq] at h
    omega)]
  rfl
theorem dmL_att {f : BitVec 32 → Int} {b : BitVec 32} : ∀ j, dmL f b j = 0 ∨ ∃ x, x < j ∧ dfb b (x : Int) = true ∧ dmL f b j = 1 + pick2 false (f (pt b (x : Int) 0)) (f (pt b (x : Int) 1))
  | 0 => .inl rfl
  | j + 1 => by
    have ih := dmL_att (f := f) (b := b) j
    have lift : dmL f b (j + 1) = dmL f b j → dmL f b (j + 1) = 0 ∨ ∃ x, x < j + 1 ∧ dfb b (x : Int) = true ∧ dmL f b (j + 1) = 1 + pick2 false (f (pt b (x : Int) 0)) (f (pt b (x : Int) 1)) := by
      intro e
      rw [e]
      rcases ih with h | ⟨x, h1, h2, h3⟩
      · exact .inl h
      · exact .inr ⟨x, by omega, h2, h3⟩
    by_cases hd : dfb b (j : Int) = true
    · have e : dmL f b (j + 1) = pick2 true (dmL f b j) (1 + pick2 false (f (pt b (j : Int) 0)) (f (pt b (j : Int) 1))) := by simp only [dmL, hd, if_true]
      by_cases hl : dmL f b j < 1 + pick2 false (f (pt b (j : Int) 0)) (f (pt b (j : Int) 1))
      · refine .inr ⟨j, by omega, hd, ?_⟩
        rw [e]
        show (if _ > _ then _ else _) = _
        rw [if_pos hl]
      · apply lift
        rw [e]
        show (if _ > _ then _ else _) = _
        rw [if_neg hl]
    · exact lift (by simp only [dmL, hd, if_false]; rfl)
/-- two to the power of the dimension is at most the number of concepts -/
theorem dim_pow {p : Int} (hp : p5 p) : ∀ (n : Nat) (b : BitVec 32), pc b < n → b ≠ 0#32 → 2 ^ (dimV p b).toNat ≤ pc b
  | 0, _, h, _ => absurd h (Nat.not_lt_zero _)
  | n + 1, b, h, hb => by
    have hpos := pc_pos hb
    rw [dimV_eq hb]
    rcases dmL_att (f := dimV p) (b := b) p.toNat with e | ⟨x, hx, hd, e⟩
    · rw [e]; simpa using hpos
    · have hx5 : x < 5 := by obtain ⟨_, _⟩ := hp; omega
      rw [e]
      have hd2 := dfb_iff.1 hd
      have g0 := dim_pow hp n (pt b (x : Int) 0) (by have := pt_lt (y := 0) hd; omega) hd2.1
      have g1 := dim_pow hp n (pt b (x : Int) 1) (by have := pt_lt (y := 1) hd; omega) hd2.2
      have p0 := dimV_pos (p := p) hd2.1
      have p1 := dimV_pos (p := p) hd2.2
      have hs := pc_split (b := b) hx5
      have hm : pick2 false (dimV p (pt b (x : Int) 0)) (dimV p (pt b (x : Int) 1)) ≤ dimV p (pt b (x : Int) 0) ∧ pick2 false (dimV p (pt b (x : Int) 0)) (dimV p (pt b (x : Int) 1)) ≤ dimV p (pt b (x : Int) 1) ∧ 0 ≤ pick2 false (dimV p (pt b (x : Int) 0)) (dimV p (pt b (x : Int) 1)) := by
        simp only [pick2, Bool.false_eq_true, if_false]
        split <;> omega
      have em : (1 + pick2 false (dimV p (pt b (x : Int) 0)) (dimV p (pt b (x : Int) 1))).toNat = (pick2 false (dimV p (pt b (x : Int) 0)) (dimV p (pt b (x : Int) 1))).toNat + 1 := by omega
      rw [em, Nat.pow_succ]
      have a0 := Nat.pow_le_pow_right (n := 2) (by decide) (Int.toNat_le_toNat hm.1)
      have a1 := Nat.pow_le_pow_right (n := 2) (by decide) (Int.toNat_le_toNat hm.2.1)
      omega
theorem mx_l (a b : Int) : a ≤ pick2 true a b := by simp only [pick2, if_true]; split <;> omega
theorem mx_r (a b : Int) : b ≤ pick2 true a b := by simp only [pick2, if_true]; split <;> omega
theorem mn_or (a b : Int) : (pick2 false a b = a ∧ a ≤ b) ∨ (pick2 false a b = b ∧ b ≤ a) := by simp only [pick2, Bool.false_eq_true, if_false]; split <;> omega
theorem dmL_ge {f : BitVec 32 → Int} {b : BitVec 32} {x : Nat} (hd : dfb b (x : Int) = true) : ∀ j, x < j → 1 + pick2 false (f (pt b (x : Int) 0)) (f (pt b (x : Int) 1)) ≤ dmL f b j
  | 0, h => absurd h (by omega)
  | j + 1, h => by
    simp only [dmL]
    by_cases e : x = j
    · subst e
      rw [if_pos hd]
      exact mx_r _ _
    · have h1 := dmL_ge (f := f) hd j (by omega)
      split
      · exact Int.le_trans h1 (mx_l _ _)
      · exact h1
end Go.Proofs.Lrn

