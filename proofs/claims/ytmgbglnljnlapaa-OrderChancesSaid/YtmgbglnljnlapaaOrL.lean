/- Layer 7: how many lines there are, told from the end, from the beginning, and by pairs. -/
import Derived.Test.YtmgbglnljnlapaaOrN
set_option linter.unusedSimpArgs false
set_option linter.unusedVariables false
set_option linter.unnecessarySimpa false
namespace Go.Proofs.Ord
open Go Go.VM
open Go.Proofs.Sur (andn andn_bit andn_le)

def sumN (f : Nat → Nat) : Nat → Nat
  | 0 => 0
  | n + 1 => sumN f n + f n
theorem sumN_ext {f g : Nat → Nat} : ∀ {n : Nat}, (∀ i, i < n → f i = g i) → sumN f n = sumN g n
  | 0, _ => rfl
  | n + 1, h => by rw [sumN, sumN, sumN_ext (fun i hi => h i (by omega)), h n (by omega)]
theorem sumN_zero {f : Nat → Nat} {n : Nat} (h : ∀ i, i < n → f i = 0) : sumN f n = 0 := by
  induction n with
  | zero => rfl
  | succ n ih => rw [sumN, ih (fun i hi => h i (by omega)), h n (by omega)]
theorem sumN_add (f g : Nat → Nat) : ∀ n, sumN (fun i => f i + g i) n = sumN f n + sumN g n
  | 0 => rfl
  | n + 1 => by rw [sumN, sumN, sumN, sumN_add f g n]; omega
theorem sumN_swap (f : Nat → Nat → Nat) (m : Nat) : ∀ n, sumN (fun i => sumN (f i) m) n = sumN (fun j => sumN (fun i => f i j) n) m
  | 0 => (sumN_zero fun _ _ => rfl).symm
  | n + 1 => by
    rw [sumN, sumN_swap f m n, ← sumN_add]
    rfl
theorem sumN_one {f : Nat → Nat} {k : Nat} : ∀ {n : Nat}, k < n → (∀ i, i < n → i ≠ k → f i = 0) → sumN f n = f k
  | 0, h, _ => by omega
  | n + 1, h, h0 => by
    rw [sumN]
    rcases Nat.lt_or_ge k n with q | q
    · rw [sumN_one q (fun i hi => h0 i (by omega)), h0 n (by omega) (by omega)]; rfl
    · have : k = n := by omega
      subst this
      rw [sumN_zero fun i hi => h0 i (by omega) (by omega)]; omega
theorem sumN_pos {f : Nat → Nat} {k n : Nat} (h : k < n) (hk : 0 < f k) : 0 < sumN f n := by
  induction n with
  | zero => omega
  | succ n ih =>
    rw [sumN]
    rcases Nat.lt_or_ge k n with q | q
    · have := ih q; omega
    · have : k = n := by omega
      subst this; omega
/-- without e -/
abbrev clr (S e : Nat) : Nat := andn S (2 ^ e)
abbrev big : Nat := 9223372036854775808
theorem clr_bit {S : Nat} (hS : S < big) (e i : Nat) : (clr S e).testBit i = (S.testBit i && !decide (e = i)) := by
  rw [clr, andn_bit hS, Nat.testBit_two_pow]
theorem clr_lt {S e : Nat} (hS : S < big) (h : S.testBit e = true) : clr S e < S := by
  have h1 := andn_le (b := 2 ^ e) hS
  rcases Nat.lt_or_ge (clr S e) S with q | q
  · exact q
  · have : clr S e = S := Nat.le_antisymm h1 q
    have := clr_bit hS e e
    rw [‹clr S e = S›, h] at this
    simp at this
theorem clr_big {S e : Nat} (hS : S < big) : clr S e < big := Nat.lt_of_le_of_lt (andn_le hS) hS
theorem clr_comm {S : Nat} (hS : S < big) (e x : Nat) : clr (clr S e) x = clr (clr S x) e := by
  apply Nat.eq_of_testBit_eq; intro i
  rw [clr_bit (clr_big hS), clr_bit hS, clr_bit (clr_big hS), clr_bit hS, Bool.and_right_comm]
/-- e is in S, and nothing of S is above it -/
def mx (A : Rel) (S e : Nat) : Bool := S.testBit e && decide (A e &&& S = 0)
theorem and0 {a b : Nat} : a &&& b = 0 ↔ ∀ i, a.testBit i = true → b.testBit i = true → False := by
  constructor
  · intro h i p q
    have : (a &&& b).testBit i = true := by rw [Nat.testBit_and, p, q]; rfl
    rw [h] at this; simp at this
  · intro h
    apply Nat.eq_of_testBit_eq; intro i
    rw [Nat.testBit_and, Nat.zero_testBit]
    cases p : a.testBit i
    · rfl
    · cases q : b.testBit i
      · rfl
      · exact (h i p q).elim
theorem mx_iff {A : Rel} {S e : Nat} : mx A S e = true ↔ S.testBit e = true ∧ ∀ y, ab A e y → S.testBit y = true → False := by
  simp only [mx, Bool.and_eq_true, decide_eq_true_eq, and0]
/-- how many lines there are of a set's elements, with fuel -/
def ctF (A : Rel) (n : Nat) : Nat → Nat → Nat
  | 0, S => if S = 0 then 1 else 0
  | k + 1, S => if S = 0 then 1 else sumN (fun e => if mx A S e = true then ctF A n k (clr S e) else 0) n
theorem ctF_eq {A : Rel} {n : Nat} : ∀ (k l S : Nat), S < big → S ≤ k → S ≤ l → ctF A n k S = ctF A n l S
  | 0, 0, S, _, _, _ => rfl
  | 0, l + 1, S, _, h, _ => by
    have : S = 0 := by omega
    subst this; rfl
  | k + 1, 0, S, _, _, h => by
    have : S = 0 := by omega
    subst this; rfl
  | k + 1, l + 1, S, hb, h1, h2 => by
    simp only [ctF]
    split
    · rfl
    · refine sumN_ext fun e _ => ?_
      split <;> rename_i hm
      · have := clr_lt hb (mx_iff.1 hm).1
        exact ctF_eq k l _ (clr_big hb) (by omega) (by omega)
      · rfl
def ct (A : Rel) (n S : Nat) : Nat := ctF A n S S
theorem ct_rec {A : Rel} {n S : Nat} (hb : S < big) (hS : S ≠ 0) : ct A n S = sumN (fun e => if mx A S e = true then ct A n (clr S e) else 0) n := by
  obtain ⟨k, rfl⟩ : ∃ k, S = k + 1 := ⟨S - 1, by omega⟩
  rw [ct, ctF, if_neg hS]
  refine sumN_ext fun e _ => ?_
  split <;> rename_i hm
  · have := clr_lt hb (mx_iff.1 hm).1
    exact ctF_eq _ _ _ (clr_big hb) (by omega) (by omega)
  · rfl
/-- x is in S, and above nothing of it -/
def mn (A : Rel) (n S x : Nat) : Bool := S.testBit x && decide (∀ y, y < n → S.testBit y = true → (A y).testBit x = false)
theorem mn_iff {A : Rel} {n S x : Nat} (hS : S < 2 ^ n) : mn A n S x = true ↔ S.testBit x = true ∧ ∀ y, S.testBit y = true → ab A y x → False := by
  simp only [mn, Bool.and_eq_true, decide_eq_true_eq]
  refine and_congr_right fun _ => ⟨fun h y hy p => ?_, fun h y _ hy => ?_⟩
  · have : y < n := by
      rcases Nat.lt_or_ge y n with q | q
      · exact q
      · have := Nat.testBit_lt_two_pow (Nat.lt_of_lt_of_le hS (Nat.pow_le_pow_right (by decide) q))
        rw [this] at hy; cases hy
    have := h y this hy
    simp only [ab] at p
    rw [this] at p; cases p
  · cases q : (A y).testBit x
    · rfl
    · exact (h y hy q).elim
theorem clr_lt2 {S n e : Nat} (hb : S < big) (h : S < 2 ^ n) : clr S e < 2 ^ n := Nat.lt_of_le_of_lt (andn_le hb) h
theorem bit_lt {S n e : Nat} (h : S < 2 ^ n) (k : S.testBit e = true) : e < n := by
  rcases Nat.lt_or_ge e n with q | q
  · exact q
  · have := Nat.testBit_lt_two_pow (Nat.lt_of_lt_of_le h (Nat.pow_le_pow_right (by decide) q))
    rw [this] at k; cases k
theorem ct_min {A : Rel} (hi : Irr A) {n : Nat} : ∀ (m S : Nat), S ≤ m → S < big → S < 2 ^ n → S ≠ 0 → ct A n S = sumN (fun x => if mn A n S x = true then ct A n (clr S x) else 0) n
  | 0, S, h, _, _, h0 => by omega
  | m + 1, S, h, hb, hn, h0 => by
    rw [ct_rec hb h0]
    by_cases hs : ∃ e, S.testBit e = true ∧ clr S e = 0
    · obtain ⟨e, he, hc⟩ := hs
      have hen := bit_lt hn he
      have ho : ∀ i, S.testBit i = true → i = e := fun i hi => by
        have := clr_bit hb e i
        rw [hc, hi] at this
        simp at this
        exact this.symm
      have m1 : mx A S e = true := mx_iff.2 ⟨he, fun y p q => hi e (by have := ho y q; subst this; exact p)⟩
      have m2 : mn A n S e = true := (mn_iff hn).2 ⟨he, fun y q p => hi e (by have := ho y q; subst this; exact p)⟩
      rw [sumN_one hen, sumN_one hen, if_pos m1, if_pos m2]
      · intro i _ hne
        rw [if_neg]; intro q; exact hne (ho i ((mn_iff hn).1 q).1)
      · intro i _ hne
        rw [if_neg]; intro q; exact hne (ho i (mx_iff.1 q).1)
    · have hne : ∀ e, S.testBit e = true → clr S e ≠ 0 := fun e he hc => hs ⟨e, he, hc⟩
      have l : sumN (fun e => if mx A S e = true then ct A n (clr S e) else 0) n = sumN (fun e => sumN (fun x => if mx A S e = true ∧ mn A n (clr S e) x = true then ct A n (clr (clr S e) x) else 0) n) n := by
        refine sumN_ext fun e _ => ?_
        split <;> rename_i hm
        · have he := (mx_iff.1 hm).1
          have := clr_lt hb he
          rw [ct_min hi m (clr S e) (by omega) (clr_big hb) (clr_lt2 hb hn) (hne e he)]
          refine sumN_ext fun x _ => ?_
          by_cases q : mn A n (clr S e) x = true
          · rw [if_pos q, if_pos ⟨hm, q⟩]
          · rw [if_neg q, if_neg fun k => q k.2]
        · exact (sumN_zero fun x _ => if_neg fun k => hm k.1).symm
      have r : sumN (fun x => if mn A n S x = true then ct A n (clr S x) else 0) n = sumN (fun x => sumN (fun e => if mn A n S x = true ∧ mx A (clr S x) e = true then ct A n (clr (clr S x) e) else 0) n) n := by
        refine sumN_ext fun x _ => ?_
        split <;> rename_i hm
        · have hx := ((mn_iff hn).1 hm).1
          rw [ct_rec (clr_big hb) (hne x hx)]
          refine sumN_ext fun e _ => ?_
          by_cases q : mx A (clr S x) e = true
          · rw [if_pos q, if_pos ⟨hm, q⟩]
          · rw [if_neg q, if_neg fun k => q k.2]
        · exact (sumN_zero fun x _ => if_neg fun k => hm k.1).symm
      rw [l, r, sumN_swap]
      refine sumN_ext fun x _ => sumN_ext fun e _ => ?_
      have hiff : (mx A S e = true ∧ mn A n (clr S e) x = true) ↔ (mn A n S x = true ∧ mx A (clr S x) e = true) := by
        rw [mx_iff, mn_iff (clr_lt2 hb hn), mn_iff hn, mx_iff, clr_bit hb, clr_bit hb]
        constructor
        · rintro ⟨⟨a1, a2⟩, b1, b2⟩
          simp only [Bool.and_eq_true, Bool.not_eq_true', decide_eq_false_iff_not] at b1
          refine ⟨⟨b1.1, fun y hy p => ?_⟩, ?_, fun y p hy => ?_⟩
          · by_cases q : e = y
            · subst q; exact a2 x p b1.1
            · exact b2 y (by rw [clr_bit hb, hy]; simp [q]) p
          · rw [a1]; simp; exact fun k => b1.2 k.symm
          · rw [clr_bit hb] at hy
            simp only [Bool.and_eq_true] at hy
            exact a2 y p hy.1
        · rintro ⟨⟨a1, a2⟩, b1, b2⟩
          simp only [Bool.and_eq_true, Bool.not_eq_true', decide_eq_false_iff_not] at b1
          refine ⟨⟨b1.1, fun y p hy => ?_⟩, ?_, fun y hy p => ?_⟩
          · by_cases q : x = y
            · subst q; exact a2 e b1.1 p
            · exact b2 y p (by rw [clr_bit hb, hy]; simp [q])
          · rw [a1]; simp; exact fun k => b1.2 k.symm
          · rw [clr_bit hb] at hy
            simp only [Bool.and_eq_true] at hy
            exact a2 y hy.1 p
      by_cases q : mx A S e = true ∧ mn A n (clr S e) x = true
      · rw [if_pos q, if_pos (hiff.1 q), clr_comm hb]
      · rw [if_neg q, if_neg fun k => q (hiff.2 k)]
/-- some element has nothing above it -/
theorem mx_ex {A : Rel} (ht : Tr A) (hi : Irr A) {n S : Nat} (hb : S < big) (hn : S < 2 ^ n) (h0 : S ≠ 0) : ∃ e, e < n ∧ mx A S e = true := by
  have h1 : ∃ e, S.testBit e = true := Nat.exists_testBit_of_ne_zero h0
  have : ∀ m e, S.testBit e = true → (A e &&& S) ≤ m → ∃ e, e < n ∧ mx A S e = true := by
    intro m
    induction m with
    | zero =>
      intro e he hm
      exact ⟨e, bit_lt hn he, by simp only [mx, he, Bool.true_and, decide_eq_true_eq]; omega⟩
    | succ m ih =>
      intro e he hm
      by_cases q : A e &&& S = 0
      · exact ⟨e, bit_lt hn he, by simp only [mx, he, Bool.true_and, decide_eq_true_eq]; exact q⟩
      · obtain ⟨f, hf⟩ := Nat.exists_testBit_of_ne_zero q
        rw [Nat.testBit_and, Bool.and_eq_true] at hf
        refine ih f hf.2 ?_
        have hle : (A f &&& S) = (A f &&& S) &&& (A e &&& S) := by
          apply Nat.eq_of_testBit_eq; intro i
          simp only [Nat.testBit_and]
          cases p : (A f).testBit i
          · simp
          · have : (A e).testBit i = true := ht e f i hf.1 p
            rw [this]; cases S.testBit i <;> rfl
        have h2 : (A f &&& S) ≤ (A e &&& S) := by rw [hle]; exact Nat.and_le_right
        have h3 : (A f &&& S) ≠ (A e &&& S) := fun k => by
          have : (A f &&& S).testBit f = true := by rw [k, Nat.testBit_and, hf.1, hf.2]; rfl
          rw [Nat.testBit_and, Bool.and_eq_true] at this
          exact hi f this.1
        omega
  obtain ⟨e, he⟩ := h1
  exact this _ e he (Nat.le_refl _)
theorem ct_pos {A : Rel} (ht : Tr A) (hi : Irr A) {n : Nat} : ∀ (m S : Nat), S ≤ m → S < big → S < 2 ^ n → 0 < ct A n S
  | 0, S, h, _, _ => by
    have : S = 0 := by omega
    subst this; exact Nat.one_pos
  | m + 1, S, h, hb, hn => by
    by_cases h0 : S = 0
    · subst h0; exact Nat.one_pos
    · obtain ⟨e, he, hm⟩ := mx_ex ht hi hb hn h0
      rw [ct_rec hb h0]
      refine sumN_pos he ?_
      rw [if_pos hm]
      have := clr_lt hb (mx_iff.1 hm).1
      exact ct_pos ht hi m _ (by omega) (clr_big hb) (clr_lt2 hb hn)
/-- relations that are the same within a set -/
theorem ct_same {A B : Rel} {n : Nat} : ∀ (m S : Nat), S ≤ m → S < big → (∀ e y, S.testBit e = true → S.testBit y = true → (ab A e y ↔ ab B e y)) → ct A n S = ct B n S
  | 0, S, h, _, _ => by
    have : S = 0 := by omega
    subst this; rfl
  | m + 1, S, h, hb, hs => by
    by_cases h0 : S = 0
    · subst h0; rfl
    · rw [ct_rec hb h0, ct_rec hb h0]
      refine sumN_ext fun e _ => ?_
      have hm : mx A S e = mx B S e := by
        rw [Bool.eq_iff_iff, mx_iff, mx_iff]
        constructor
        · rintro ⟨a, b⟩; exact ⟨a, fun y p q => b y ((hs e y a q).2 p) q⟩
        · rintro ⟨a, b⟩; exact ⟨a, fun y p q => b y ((hs e y a q).1 p) q⟩
      rw [hm]
      split <;> rename_i k
      · have := clr_lt hb (mx_iff.1 k).1
        refine ct_same m _ (by omega) (clr_big hb) fun a y p q => ?_
        rw [clr_bit hb, Bool.and_eq_true] at p q
        exact hs a y p.1 q.1
      · rfl
end Go.Proofs.Ord

