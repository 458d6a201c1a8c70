/- Joined: RkCu, RkCv. -/
import Derived.Test.YtnnhomkkggkkfaaDoorRkCt
set_option linter.unusedSimpArgs false
set_option linter.unusedVariables false
set_option linter.unnecessarySimpa false
section
set_option maxHeartbeats 4000000
set_option maxRecDepth 100000
namespace Go.Proofs.Rnk
/-- a tournament on a set -/
def tourS (D : Nat → Nat → Bool) (S : Nat) : Prop := ∀ x y, S.testBit x = true → S.testBit y = true → x ≠ y → D x y = !D y x
/-- the arcs between v and those below k leave v -/
def awayD (D : Nat → Nat → Bool) (v k x y : Nat) : Bool := if x = v ∧ y < k then true else if y = v ∧ x < k then false else D x y
def cutD (D : Nat → Nat → Bool) (a b x y : Nat) : Bool := if (x = a ∧ y = b) ∨ (x = b ∧ y = a) then false else D x y
theorem away_tour {D : Nat → Nat → Bool} {S v k : Nat} (h : tourS D S) : tourS (awayD D v k) S := fun x y hx hy hne => by
  have := h x y hx hy hne
  simp only [awayD]
  by_cases c1 : x = v ∧ y < k
  · have c2 : ¬ (y = v ∧ x < k) := fun q => hne (c1.1.trans q.1.symm)
    rw [if_pos c1, if_neg c2, if_pos c1]; rfl
  · by_cases c2 : y = v ∧ x < k
    · rw [if_neg c1, if_pos c2, if_pos c2]; rfl
    · rw [if_neg c1, if_neg c2, if_neg c2, if_neg c1]; exact this
theorem hp_turn1 {D : Nat → Nat → Bool} {S a b n : Nat} (hS : S < 256) (h : tourS D S) (hab : a ≠ b) : hp (addD (cutD D a b) a b) n S = hp (addD (cutD D a b) b a) n S := by
  refine hp_flip hab (by simp [cutD]) (by simp [cutD]) hS fun x y hx hy hne c1 c2 => ?_
  have e1 : ¬ ((x = a ∧ y = b) ∨ (x = b ∧ y = a)) := fun q => q.elim c1 c2
  have e2 : ¬ ((y = a ∧ x = b) ∨ (y = b ∧ x = a)) := fun q => q.elim (fun r => c2 ⟨r.2, r.1⟩) fun r => c1 ⟨r.2, r.1⟩
  simp only [cutD, if_neg e1, if_neg e2]
  rw [h y x hy hx fun e => hne e.symm]
theorem away_step {D : Nat → Nat → Bool} {S v k n : Nat} (hS : S < 256) (h : tourS D S) (hv : S.testBit v = true) : hp (awayD D v (k + 1)) n S = hp (awayD D v k) n S := by
  by_cases hk : S.testBit k = true ∧ k ≠ v ∧ awayD D v k v k = false
  · obtain ⟨h1, h2, h3⟩ := hk
    have ht := away_tour (v := v) (k := k) h
    have h4 : awayD D v k k v = true := by rw [ht k v h1 hv h2, h3]; rfl
    have e1 : hp (awayD D v k) n S = hp (addD (cutD (awayD D v k) k v) k v) n S := hp_congr fun x y hx hy hne => by
      simp only [addD, cutD]
      by_cases c1 : x = k ∧ y = v
      · obtain ⟨rfl, rfl⟩ := c1; simp [h4]
      · by_cases c2 : x = v ∧ y = k
        · obtain ⟨rfl, rfl⟩ := c2
          rw [h3]; simp [h2, Ne.symm h2]
        · rw [if_neg fun q => q.elim c1 c2]
          have : (decide (x = k) && decide (y = v)) = false := by
            rw [← Bool.not_eq_true, Bool.and_eq_true, decide_eq_true_eq, decide_eq_true_eq]; exact c1
          rw [this]; simp
    have e2 : hp (awayD D v (k + 1)) n S = hp (addD (cutD (awayD D v k) k v) v k) n S := hp_congr fun x y hx hy hne => by
      simp only [addD, cutD]
      by_cases c1 : x = k ∧ y = v
      · obtain ⟨rfl, rfl⟩ := c1
        simp [awayD, h2]
      · by_cases c2 : x = v ∧ y = k
        · obtain ⟨rfl, rfl⟩ := c2
          simp [awayD]
        · rw [if_neg fun q => q.elim c1 c2]
          have e : (decide (x = v) && decide (y = k)) = false := by
            rw [← Bool.not_eq_true, Bool.and_eq_true, decide_eq_true_eq, decide_eq_true_eq]; exact c2
          rw [e, Bool.or_false]
          simp only [awayD]
          have q1 : (x = v ∧ y < k + 1) ↔ (x = v ∧ y < k) := ⟨fun q => ⟨q.1, by
            have : y ≠ k := fun r => c2 ⟨q.1, r⟩
            omega⟩, fun q => ⟨q.1, by omega⟩⟩
          have q2 : (y = v ∧ x < k + 1) ↔ (y = v ∧ x < k) := ⟨fun q => ⟨q.1, by
            have : x ≠ k := fun r => c1 ⟨r, q.1⟩
            omega⟩, fun q => ⟨q.1, by omega⟩⟩
          simp only [q1, q2]
    rw [e1, e2, hp_turn1 hS ht h2]
  · refine hp_congr fun x y hx hy hne => ?_
    simp only [awayD]
    by_cases c1 : x = v ∧ y = k
    · obtain ⟨rfl, rfl⟩ := c1
      have : awayD D x y x y = true := by
        cases c : awayD D x y x y
        · exact absurd ⟨hy, fun e => hne e.symm, c⟩ hk
        · rfl
      rw [if_pos ⟨rfl, by omega⟩]
      show true = awayD D x y x y
      exact this.symm
    · by_cases c2 : y = v ∧ x = k
      · obtain ⟨rfl, rfl⟩ := c2
        have ht := away_tour (v := y) (k := x) h
        have h3 : awayD D y x y x = true := by
          cases c : awayD D y x y x
          · exact absurd ⟨hx, hne, c⟩ hk
          · rfl
        have h4 : awayD D y x x y = false := by rw [ht x y hx hy hne, h3]; rfl
        rw [if_neg fun q => hne q.1, if_pos ⟨rfl, by omega⟩]
        show false = awayD D y x x y
        exact h4.symm
      · have q1 : (x = v ∧ y < k + 1) ↔ (x = v ∧ y < k) := ⟨fun q => ⟨q.1, by
          have : y ≠ k := fun r => c1 ⟨q.1, r⟩
          omega⟩, fun q => ⟨q.1, by omega⟩⟩
        have q2 : (y = v ∧ x < k + 1) ↔ (y = v ∧ x < k) := ⟨fun q => ⟨q.1, by
          have : x ≠ k := fun r => c2 ⟨q.1, r⟩
          omega⟩, fun q => ⟨q.1, by omega⟩⟩
        simp only [q1, q2]
end Go.Proofs.Rnk
end
section
set_option maxHeartbeats 4000000
set_option maxRecDepth 100000
namespace Go.Proofs.Rnk
theorem pc_one : ∀ S, S < 256 → pc S = 1 → ∃ v, v < 8 ∧ S = 2 ^ v := by decide +kernel
theorem odd_hp : ∀ (n : Nat) (D : Nat → Nat → Bool) (S : Nat), S < 256 → pc S = n + 1 → tourS D S → hp D n S = true
  | 0, D, S, hS, hp1, _ => by
    obtain ⟨v, hv, rfl⟩ := pc_one S hS hp1
    rw [hp, xs_one (p := v) hv fun i _ hi => ?_]
    · simp [wp]
    · rw [wp, decide_eq_false_iff_not]
      intro e
      have := congrArg (fun z => z.testBit v) e
      simp only [Nat.testBit_two_pow] at this
      simp at this
      exact hi this
  | n + 1, D, S, hS, hp1, ht => by
    obtain ⟨v, hv⟩ : ∃ v, S.testBit v = true := Nat.exists_testBit_of_ne_zero fun e => by
      rw [e] at hp1
      have : pc 0 = 0 := by decide
      omega
    have hv8 := bit_lt8 hS hv
    have e : ∀ k, hp (awayD D v k) (n + 1) S = hp D (n + 1) S := fun k => by
      induction k with
      | zero => exact hp_congr fun x y _ _ _ => by simp [awayD]
      | succ k ih => rw [away_step hS ht hv, ih]
    have ht8 := away_tour (v := v) (k := 8) ht
    have h2 : ∀ y, S.testBit y = true → y ≠ v → awayD D v 8 v y = true := fun y hy _ => by
      have := bit_lt8 hS hy
      simp [awayD, this]
    have h1 : ∀ y, S.testBit y = true → y ≠ v → awayD D v 8 y v = false := fun y hy hne => by
      rw [ht8 y v hy hv hne, h2 y hy hne]; rfl
    rw [← e 8, hp_source hv8 hv h1 h2]
    have hx : S ^^^ 2 ^ v < 256 := Nat.xor_lt_two_pow (n := 8) hS (Nat.pow_lt_pow_right (by decide) hv8)
    have hxm : (S ^^^ 2 ^ v).testBit v = false := by rw [Nat.testBit_xor, Nat.testBit_two_pow, hv]; simp
    have hor : (S ^^^ 2 ^ v) ||| 2 ^ v = S := by
      apply Nat.eq_of_testBit_eq
      intro i
      rw [Nat.testBit_or, Nat.testBit_xor, Nat.testBit_two_pow]
      by_cases c : v = i
      · subst c; rw [hv]; simp
      · simp [c]
    have hpc := pc_add hx hv8 hxm
    rw [hor] at hpc
    exact odd_hp n _ _ hx (by omega) fun x y hx hy hne => ht8 x y (bit_out hx hv).1 (bit_out hy hv).1 hne
end Go.Proofs.Rnk
end
