/- Layer 7: an order without an element, those behind it one less. -/
import Derived.Test.YtmgbglnljnlapaaOrL
set_option linter.unusedSimpArgs false
set_option linter.unusedVariables false
set_option linter.unnecessarySimpa false
namespace Go.Proofs.Ord
open Go Go.VM
open Go.Proofs.Sur (andn andn_bit andn_le)

def up (x i : Nat) : Nat := if i < x then i else i + 1
def dn (x i : Nat) : Nat := if i < x then i else i - 1
theorem up_dn {x i : Nat} (h : i ≠ x) : up x (dn x i) = i := by simp only [up, dn]; split <;> (try split) <;> omega
theorem dn_up (x i : Nat) : dn x (up x i) = i := by simp only [up, dn]; split <;> (try split) <;> omega
theorem up_inj {x i j : Nat} (h : up x i = up x j) : i = j := by rw [← dn_up x i, h, dn_up]
/-- without the bit x -/
def sq (x s : Nat) : Nat := (s &&& (2 ^ x - 1)) ||| (s >>> (x + 1)) * 2 ^ x
theorem sq_bit (x s j : Nat) : (sq x s).testBit j = s.testBit (up x j) := by
  rw [sq, Nat.testBit_or, Nat.testBit_and, Nat.testBit_two_pow_sub_one, ← Nat.shiftLeft_eq, Nat.testBit_shiftLeft, Nat.testBit_shiftRight]
  simp only [up]
  by_cases h : j < x
  · have : ¬ x ≤ j := by omega
    simp [h, this]
  · have h2 : x ≤ j := by omega
    simp [h, h2]
    congr 1; omega
/-- the relation without x -/
def lsR (A : Rel) (x : Nat) : Rel := fun i => sq x (A (up x i))
theorem ls_ab {A : Rel} {x i j : Nat} : ab (lsR A x) i j ↔ ab A (up x i) (up x j) := by
  simp only [ab, lsR, sq_bit]
theorem sq_lt {n x s : Nat} (hx : x < n) (h : s < 2 ^ n) : sq x s < 2 ^ (n - 1) := by
  apply Nat.lt_pow_two_of_testBit
  intro j hj
  rw [sq_bit]
  apply Nat.testBit_lt_two_pow
  refine Nat.lt_of_lt_of_le h (Nat.pow_le_pow_right (by decide) ?_)
  simp only [up]; split <;> omega
theorem ls_od {n : Nat} {A : Rel} (h : Od n A) {x : Nat} (hx : x < n) : Od (n - 1) (lsR A x) := by
  refine ⟨⟨fun i => sq_lt hx (h.rg.1 _), fun i hi => ?_⟩, fun a b c p q => ?_, fun a p => ?_⟩
  · have : n ≤ up x i := by simp only [up]; split <;> omega
    simp only [lsR]
    rw [h.rg.2 _ this]
    simp [sq]
  · rw [ls_ab] at *; exact h.tr _ _ _ p q
  · rw [ls_ab] at p; exact h.irr _ p
/-- a sum without one that is 0 -/
theorem sumN_up {f : Nat → Nat} {x : Nat} (h0 : f x = 0) : ∀ {n : Nat}, x < n → sumN f n = sumN (fun i => f (up x i)) (n - 1)
  | 0, h => by omega
  | n + 1, h => by
    rw [sumN]
    rcases Nat.lt_or_ge x n with q | q
    · rw [sumN_up h0 q]
      obtain ⟨k, rfl⟩ : ∃ k, n = k + 1 := ⟨n - 1, by omega⟩
      show _ = sumN _ (k + 1)
      rw [sumN]
      have : up x k = k + 1 := by simp only [up]; rw [if_neg (by omega)]
      rw [this]; rfl
    · have : x = n := by omega
      subst this
      rw [h0]
      show sumN f x + 0 = sumN (fun i => f (up x i)) x
      exact sumN_ext fun i hi => by simp only [up]; rw [if_pos hi]
theorem sq_0 {x S : Nat} (hx : S.testBit x = false) : sq x S = 0 ↔ S = 0 := by
  constructor
  · intro h
    apply Nat.eq_of_testBit_eq; intro i
    rw [Nat.zero_testBit]
    by_cases q : i = x
    · subst q; exact hx
    · have := sq_bit x S (dn x i)
      rw [h, Nat.zero_testBit, up_dn q] at this
      exact this.symm
  · rintro rfl; simp [sq]
theorem sq_clr {x S i : Nat} (hb : S < big) (hq : sq x S < big) : clr (sq x S) i = sq x (clr S (up x i)) := by
  apply Nat.eq_of_testBit_eq; intro j
  rw [clr_bit hq, sq_bit, sq_bit, clr_bit hb]
  congr 2
  rw [decide_eq_decide]
  exact ⟨fun h => by rw [h], up_inj⟩
theorem ct_sq {A : Rel} {n x : Nat} (hx : x < n) (h6 : n ≤ 62) : ∀ (m S : Nat), S ≤ m → S < 2 ^ n → S.testBit x = false → ct (lsR A x) (n - 1) (sq x S) = ct A n S
  | 0, S, hm, _, _ => by
    have : S = 0 := by omega
    subst this
    have : sq x 0 = 0 := by simp [sq]
    rw [this]; rfl
  | m + 1, S, hm, hn, hs => by
    have p62 : 2 ^ n ≤ 2 ^ 62 := Nat.pow_le_pow_right (by decide) h6
    have hb : S < big := by simp only [big]; omega
    have hq : sq x S < big := by
      have := sq_lt hx hn
      have : 2 ^ (n - 1) ≤ 2 ^ n := Nat.pow_le_pow_right (by decide) (by omega)
      simp only [big]; omega
    by_cases h0 : S = 0
    · subst h0
      have : sq x 0 = 0 := by simp [sq]
      rw [this]; rfl
    · rw [ct_rec hb h0, ct_rec hq (fun k => h0 ((sq_0 hs).1 k)), sumN_up (x := x) (n := n) ?_ hx]
      · refine sumN_ext fun i _ => ?_
        have hm' : mx (lsR A x) (sq x S) i = mx A S (up x i) := by
          rw [Bool.eq_iff_iff, mx_iff, mx_iff, sq_bit]
          refine and_congr_right fun _ => ⟨fun k y p q => ?_, fun k y p q => ?_⟩
          · have hy : y ≠ x := by rintro rfl; rw [hs] at q; cases q
            refine k (dn x y) ?_ ?_
            · rw [ls_ab, up_dn hy]; exact p
            · rw [sq_bit, up_dn hy]; exact q
          · rw [ls_ab] at p; rw [sq_bit] at q
            exact k _ p q
        rw [hm']
        split <;> rename_i k
        · have hlt := clr_lt hb (mx_iff.1 k).1
          rw [sq_clr hb hq]
          refine ct_sq hx h6 m _ (by omega) (clr_lt2 hb hn) ?_
          rw [clr_bit hb, hs]; rfl
        · rfl
      · rw [if_neg]; intro k
        have := (mx_iff.1 k).1
        rw [hs] at this; cases this
abbrev alls (n : Nat) : Nat := 2 ^ n - 1
theorem alls_bit {n i : Nat} : (alls n).testBit i = decide (i < n) := Nat.testBit_two_pow_sub_one n i
theorem sq_alls {n x : Nat} (hx : x < n) (h6 : n ≤ 62) : sq x (clr (alls n) x) = alls (n - 1) := by
  have p62 : 2 ^ n ≤ 2 ^ 62 := Nat.pow_le_pow_right (by decide) h6
  have hb : alls n < big := by simp only [big, alls]; omega
  apply Nat.eq_of_testBit_eq; intro i
  rw [sq_bit, clr_bit hb, alls_bit, alls_bit]
  rw [Bool.eq_iff_iff]
  simp only [up, Bool.and_eq_true, Bool.not_eq_true', decide_eq_true_eq, decide_eq_false_iff_not]
  split <;> simp only [decide_eq_true_eq, decide_eq_false_iff_not] <;> omega
/-- the lines are those without each first element, together -/
theorem ct_less {A : Rel} {n : Nat} (h : Od n A) (h1 : 1 ≤ n) (h6 : n ≤ 62) : ct A n (alls n) = sumN (fun x => if mn A n (alls n) x = true then ct (lsR A x) (n - 1) (alls (n - 1)) else 0) n := by
  have p62 : 2 ^ n ≤ 2 ^ 62 := Nat.pow_le_pow_right (by decide) h6
  have h2 : 2 ^ 1 ≤ 2 ^ n := Nat.pow_le_pow_right (by decide) h1
  have hb : alls n < big := by simp only [big, alls]; omega
  have hn : alls n < 2 ^ n := by simp only [alls]; omega
  rw [ct_min h.irr _ _ (Nat.le_refl _) hb hn (by simp only [alls]; omega)]
  refine sumN_ext fun x hx => ?_
  split
  · rw [← sq_alls hx h6]
    refine (ct_sq hx h6 _ _ (Nat.le_refl _) (clr_lt2 hb hn) ?_).symm
    rw [clr_bit hb]; simp
  · rfl
end Go.Proofs.Ord

