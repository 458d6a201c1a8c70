/- Layer 2: the orders that go against the fewest pairs, their mathematics. -/
import Derived.Test.YtnnhomkkggkkfaaDoorRkV
set_option linter.unusedSimpArgs false
set_option linter.unusedVariables false
set_option linter.unnecessarySimpa false
set_option maxRecDepth 100000
namespace Go.Proofs.Rnk
open Go Go.VM
open Go.Proofs.Sur (andn andn_bit andn_le)

theorem sm_one (q c : Nat) : ∀ n, sm (fun b => if b = q then c else 0) n = if q < n then c else 0
  | 0 => by simp [sm]
  | n + 1 => by
    rw [sm, sm_one q c n]
    by_cases h1 : q < n
    · rw [if_pos h1, if_neg (by omega), if_pos (by omega)]; rfl
    · rw [if_neg h1]
      by_cases h2 : n = q
      · rw [if_pos h2, if_pos (by omega)]; omega
      · rw [if_neg h2, if_neg (by omega)]
theorem sm_le {f g : Nat → Nat} : ∀ {n : Nat}, (∀ i, i < n → f i ≤ g i) → sm f n ≤ sm g n
  | 0, _ => Nat.le_refl _
  | n + 1, h => by
    have h1 := sm_le (f := f) (g := g) (n := n) fun i hi => h i (by omega)
    have h2 := h n (by omega)
    simp only [sm]; omega
def rem (S p : Nat) : Nat := andn S (2 ^ p)
theorem rem_bit {S p b : Nat} (h : S < 256) : (rem S p).testBit b = (S.testBit b && decide (b ≠ p)) := by
  rw [rem, andn_bit (by omega), Nat.testBit_two_pow]
  by_cases e : b = p
  · subst e; simp
  · simp [e, Ne.symm e]
theorem rem_lt {S p : Nat} (h : S < 256) : rem S p < 256 := Nat.lt_of_le_of_lt (andn_le (by omega)) h
theorem rem_lt_self {S p : Nat} (h : S < 256) (hp : S.testBit p = true) : rem S p < S := by
  have h1 : rem S p ≤ S := andn_le (by omega)
  have h2 : rem S p ≠ S := fun e => by
    have := rem_bit (p := p) (b := p) h
    rw [e, hp] at this
    simp at this
  omega
theorem pc_rem {S p : Nat} (h : S < 256) (hp : S.testBit p = true) : pc S = pc (rem S p) + 1 := by
  have hp8 : p < 8 := bit_lt8 h hp
  rw [pc_sm, pc_sm]
  have e : ∀ b, b < 8 → (S.testBit b).toNat = ((rem S p).testBit b).toNat + (if b = p then 1 else 0) := fun b _ => by
    rw [rem_bit h]
    by_cases c : b = p
    · subst c; simp [hp]
    · simp [c]
  rw [sm_congr e, sm_add (fun b => ((rem S p).testBit b).toNat) (fun b => if b = p then 1 else 0), sm_one, if_pos hp8]
abbrev co (A : Nat → Nat) (S p : Nat) : Nat := pc (andn (rem S p) (A p))
theorem co_sm {A : Nat → Nat} {S p : Nat} (h : S < 256) : co A S p = sm (fun b => ((S.testBit b && decide (b ≠ p)) && !(A p).testBit b).toNat) 8 := by
  rw [co, pc_sm]
  exact sm_congr fun b _ => by rw [andn_bit (Nat.lt_trans (rem_lt h) (by decide)), rem_bit h]
theorem co_le {A : Nat → Nat} {S p : Nat} (h : S < 256) : co A S p ≤ pc (rem S p) := by
  rw [co, pc_sm, pc_sm (rem S p)]
  exact sm_le fun b _ => by rw [andn_bit (Nat.lt_trans (rem_lt h) (by decide))]; cases (rem S p).testBit b <;> cases (A p).testBit b <;> simp
def fb (g : Nat → Nat) (A : Nat → Nat) (S : Nat) : Nat → Nat × Nat
  | 0 => (0, 29)
  | k + 1 => if co A S (el S k) + g (rem S (el S k)) < (fb g A S k).2 then (el S k, co A S (el S k) + g (rem S (el S k))) else fb g A S k
def tb (A : Nat → Nat) : Nat → Nat → Nat × Nat
  | 0, _ => (0, 0)
  | s + 1, x => if x = s + 1 then fb (fun y => (tb A s y).2) A (s + 1) (pc (s + 1)) else tb A s x
theorem tb_le {A : Nat → Nat} {x : Nat} : ∀ {s : Nat}, x ≤ s → tb A s x = tb A x x
  | 0, h => by
    have : x = 0 := by omega
    subst this; rfl
  | s + 1, h => by
    by_cases c : x = s + 1
    · subst c; rfl
    · rw [tb, if_neg c, tb_le (by omega)]
theorem fb_congr {g g' : Nat → Nat} {A : Nat → Nat} {S : Nat} : ∀ {k : Nat}, (∀ j, j < k → g (rem S (el S j)) = g' (rem S (el S j))) → fb g A S k = fb g' A S k
  | 0, _ => rfl
  | k + 1, h => by
    rw [fb, fb, fb_congr (g := g) (g' := g') (k := k) fun j hj => h j (by omega), h k (by omega)]
def bs (A : Nat → Nat) (S : Nat) : Nat × Nat := tb A S S
abbrev ag (A : Nat → Nat) (S : Nat) : Nat := (bs A S).2
abbrev fp (A : Nat → Nat) (S : Nat) : Nat := (bs A S).1
theorem ag_zero (A : Nat → Nat) : ag A 0 = 0 := rfl
theorem bs_fb {A : Nat → Nat} {S : Nat} (h0 : 0 < S) (h : S < 256) : bs A S = fb (ag A) A S (pc S) := by
  obtain ⟨s, rfl⟩ : ∃ s, S = s + 1 := ⟨S - 1, by omega⟩
  rw [bs, tb, if_pos rfl]
  exact fb_congr fun j hj => by
    have h1 := rem_lt_self (p := el (s + 1) j) h (el_mem hj).1
    show (tb A s _).2 = (tb A _ _).2
    rw [tb_le (by omega)]
theorem fb_spec {g : Nat → Nat} {A : Nat → Nat} {S : Nat} : ∀ {k : Nat},
    ((∀ j, j < k → (fb g A S k).2 ≤ co A S (el S j) + g (rem S (el S j))) ∧ (fb g A S k).2 ≤ 29) ∧
    ((∃ j, j < k ∧ (fb g A S k).1 = el S j ∧ (fb g A S k).2 = co A S (el S j) + g (rem S (el S j)) ∧ ∀ i, i < j → (fb g A S k).2 < co A S (el S i) + g (rem S (el S i))) ∨ (fb g A S k = (0, 29) ∧ ∀ j, j < k → 29 ≤ co A S (el S j) + g (rem S (el S j))))
  | 0 => ⟨⟨fun j hj => by omega, Nat.le_refl _⟩, .inr ⟨rfl, fun j hj => by omega⟩⟩
  | k + 1 => by
    obtain ⟨⟨h1, h2⟩, h3⟩ := fb_spec (g := g) (A := A) (S := S) (k := k)
    rw [fb]
    by_cases c : co A S (el S k) + g (rem S (el S k)) < (fb g A S k).2
    · rw [if_pos c]
      refine ⟨⟨fun j hj => ?_, by show _ ≤ 29; omega⟩, .inl ⟨k, by omega, rfl, rfl, fun i hi => ?_⟩⟩
      · show co A S (el S k) + g (rem S (el S k)) ≤ _
        rcases Nat.lt_or_ge j k with q | q
        · have := h1 j q; omega
        · have : j = k := by omega
          subst this; exact Nat.le_refl _
      · show co A S (el S k) + g (rem S (el S k)) < _
        have := h1 i hi; omega
    · rw [if_neg c]
      refine ⟨⟨fun j hj => ?_, h2⟩, ?_⟩
      · rcases Nat.lt_or_ge j k with q | q
        · exact h1 j q
        · have : j = k := by omega
          subst this; omega
      · rcases h3 with ⟨j, a, b, c', d⟩ | ⟨a, b⟩
        · exact .inl ⟨j, by omega, b, c', d⟩
        · refine .inr ⟨a, fun j hj => ?_⟩
          rcases Nat.lt_or_ge j k with q | q
          · exact b j q
          · have : j = k := by omega
            subst this
            rw [a] at c; simp only at c; omega
theorem c2_eq (n : Nat) : c2 (n + 1) = c2 n + n := rfl
theorem c2_mono : ∀ {a b : Nat}, a ≤ b → c2 a ≤ c2 b
  | a, 0, h => by have : a = 0 := by omega
                  subst this; exact Nat.le_refl _
  | a, b + 1, h => by
    by_cases c : a = b + 1
    · subst c; exact Nat.le_refl _
    · have := c2_mono (a := a) (b := b) (by omega)
      rw [c2_eq]; omega
theorem pc_pos_of {S : Nat} (h0 : 0 < S) (h : S < 256) : 0 < pc S := by
  apply Nat.pos_of_ne_zero
  intro e
  have := drop1_end h
  rw [e] at this
  simp only [drop1] at this
  omega
theorem ag_spec {A : Nat → Nat} : ∀ {S : Nat}, S < 256 → ag A S ≤ c2 (pc S) ∧ (0 < S → (S.testBit (fp A S) = true ∧ ag A S = co A S (fp A S) + ag A (rem S (fp A S))) ∧ ∀ p, S.testBit p = true → ag A S ≤ co A S p + ag A (rem S p)) := by
  intro S
  induction S using Nat.strongRecOn with
  | _ S ih =>
    intro h
    by_cases h0 : 0 < S
    · have hb := bs_fb (A := A) h0 h
      have hpos := pc_pos_of h0 h
      obtain ⟨⟨h1, h2⟩, h3⟩ := fb_spec (g := ag A) (A := A) (S := S) (k := pc S)
      rw [← hb] at h1 h2 h3
      have hbound : ∀ p, S.testBit p = true → co A S p + ag A (rem S p) ≤ c2 (pc S) := fun p hp => by
        have := (ih _ (rem_lt_self h hp) (rem_lt h)).1
        have h4 := co_le (A := A) (p := p) h
        have h5 := pc_rem h hp
        rw [h5, c2_eq]
        omega
      have h28 : c2 (pc S) ≤ 28 := by
        have := c2_mono (pc_le S)
        have e : c2 8 = 28 := rfl
        omega
      have hel0 := el_mem hpos
      rcases h3 with ⟨j, hj, e1, e2, _⟩ | ⟨_, q⟩
      · have hm := (el_mem hj).1
        refine ⟨?_, fun _ => ⟨⟨?_, ?_⟩, fun p hp => ?_⟩⟩
        · show (bs A S).2 ≤ _
          rw [e2]; exact hbound _ hm
        · show S.testBit (bs A S).1 = true
          rw [e1]; exact hm
        · show (bs A S).2 = co A S (bs A S).1 + ag A (rem S (bs A S).1)
          rw [e1]; exact e2
        · obtain ⟨k, hk, e⟩ := el_of (s := S) (bit_lt8 h hp) hp
          have := h1 k hk
          rw [e] at this; exact this
      · have := q 0 hpos
        have := hbound _ hel0.1
        omega
    · have : S = 0 := by omega
      subst this
      exact ⟨Nat.zero_le _, fun q => absurd q (by omega)⟩
theorem els_mono {S j k : Nat} (h : j ≤ k) (hk : k < pc S) : el S j ≤ el S k := by
  have hp : (els S).Pairwise (· < ·) := List.Pairwise.filter _ List.pairwise_lt_range
  have hk' : k < (els S).length := hk
  rcases Nat.lt_or_ge j k with q | q
  · have := List.pairwise_iff_getElem.1 hp j k (by omega) hk' q
    simp only [el, List.getD_eq_getElem?_getD, List.getElem?_eq_getElem hk', List.getElem?_eq_getElem (show j < (els S).length by omega), Option.getD_some]
    omega
  · have : j = k := by omega
    subst this; exact Nat.le_refl _
/-! ### orders -/
def rs (S : Nat) (o : Nat → Nat) : Nat → Nat
  | 0 => S
  | k + 1 => rem (rs S o k) (o k)
def gs (A : Nat → Nat) (S : Nat) (o : Nat → Nat) : Nat → Nat
  | 0 => 0
  | k + 1 => gs A S o k + co A (rs S o k) (o k)
theorem rs_lt {S : Nat} {o : Nat → Nat} (h : S < 256) : ∀ k, rs S o k < 256
  | 0 => h
  | k + 1 => rem_lt (rs_lt h k)
theorem rs_bit {S : Nat} {o : Nat → Nat} (h : S < 256) {b : Nat} : ∀ k, (rs S o k).testBit b = true ↔ S.testBit b = true ∧ ∀ j, j < k → o j ≠ b
  | 0 => by simp [rs]
  | k + 1 => by
    rw [rs, rem_bit (rs_lt h k), Bool.and_eq_true, rs_bit h k, decide_eq_true_eq]
    constructor
    · rintro ⟨⟨h1, h2⟩, h3⟩
      exact ⟨h1, fun j hj => by
        rcases Nat.lt_or_ge j k with q | q
        · exact h2 j q
        · have : j = k := by omega
          subst this; exact Ne.symm h3⟩
    · rintro ⟨h1, h2⟩
      exact ⟨⟨h1, fun j hj => h2 j (by omega)⟩, Ne.symm (h2 k (by omega))⟩
abbrev way (S : Nat) (o : Nat → Nat) (m : Nat) : Prop := ∀ k, k < m → (rs S o k).testBit (o k) = true
theorem rs_pc {S : Nat} {o : Nat → Nat} (h : S < 256) {m : Nat} (hw : way S o m) : ∀ k, k ≤ m → pc (rs S o k) + k = pc S
  | 0, _ => rfl
  | k + 1, hk => by
    have h1 := rs_pc h hw k (by omega)
    have h2 := pc_rem (rs_lt (o := o) h k) (hw k (by omega))
    rw [rs]; omega
theorem pc_zero {S : Nat} (h : S < 256) (e : pc S = 0) : S = 0 := by
  have := drop1_end h
  rw [e] at this
  exact this
theorem gs_min {A : Nat → Nat} {S : Nat} {o : Nat → Nat} (h : S < 256) {m : Nat} (hw : way S o m) : ∀ k, k ≤ m → ag A S ≤ gs A S o k + ag A (rs S o k)
  | 0, _ => by simp [gs, rs]
  | k + 1, hk => by
    have h1 := gs_min (A := A) h hw k (by omega)
    have hb := hw k (by omega)
    have h0 : 0 < rs S o k := Nat.pos_of_ne_zero fun e => by rw [e] at hb; simp at hb
    have h2 := ((ag_spec (A := A) (rs_lt (o := o) h k)).2 h0).2 _ hb
    simp only [gs, rs]; omega
def ro (A : Nat → Nat) (S : Nat) : Nat → Nat
  | 0 => S
  | k + 1 => rem (ro A S k) (fp A (ro A S k))
abbrev oo (A : Nat → Nat) (S k : Nat) : Nat := fp A (ro A S k)
theorem ro_rs {A : Nat → Nat} {S : Nat} : ∀ k, ro A S k = rs S (oo A S) k
  | 0 => rfl
  | k + 1 => by simp only [ro, rs]; rw [← ro_rs k]
theorem oo_way {A : Nat → Nat} {S : Nat} (h : S < 256) : way S (oo A S) (pc S) := by
  have : ∀ k, k ≤ pc S → ∀ j, j < k → (rs S (oo A S) j).testBit (oo A S j) = true := by
    intro k
    induction k with
    | zero => intro _ j hj; omega
    | succ k ih =>
      intro hk j hj
      rcases Nat.lt_or_ge j k with q | q
      · exact ih (by omega) j q
      · have : j = k := by omega
        subst this
        have hp := rs_pc h (ih (by omega)) j (Nat.le_refl _)
        have h0 : 0 < rs S (oo A S) j := Nat.pos_of_ne_zero fun e => by
          rw [e] at hp
          have : pc 0 = 0 := by decide
          omega
        have := (((ag_spec (A := A) (rs_lt (o := oo A S) h j)).2 h0).1).1
        simp only [oo]
        rw [← ro_rs j] at this ⊢
        exact this
  exact this _ (Nat.le_refl _)
theorem gs_best {A : Nat → Nat} {S : Nat} (h : S < 256) : ∀ k, k ≤ pc S → ag A S = gs A S (oo A S) k + ag A (rs S (oo A S) k)
  | 0, _ => by simp [gs, rs]
  | k + 1, hk => by
    have h1 := gs_best (A := A) h k (by omega)
    have hb := oo_way (A := A) h k (by omega)
    have h0 : 0 < rs S (oo A S) k := Nat.pos_of_ne_zero fun e => by rw [e] at hb; simp at hb
    have h2 := (((ag_spec (A := A) (rs_lt (o := oo A S) h k)).2 h0).1).2
    simp only [gs, rs]
    rw [h1]
    have e : fp A (rs S (oo A S) k) = oo A S k := by simp only [oo]; rw [ro_rs]
    rw [e] at h2
    omega
theorem ro_zero {A : Nat → Nat} {S : Nat} (h : S < 256) : ro A S (pc S) = 0 := by
  have := rs_pc h (oo_way (A := A) h) (pc S) (Nat.le_refl _)
  rw [ro_rs]
  exact pc_zero (rs_lt h _) (by omega)
theorem gs_all {A : Nat → Nat} {S : Nat} (h : S < 256) : gs A S (oo A S) (pc S) = ag A S := by
  have := gs_best (A := A) h (pc S) (Nat.le_refl _)
  rw [← ro_rs, ro_zero h, ag_zero] at this
  omega
theorem gs_least {A : Nat → Nat} {S : Nat} {o : Nat → Nat} (h : S < 256) (hw : way S o (pc S)) : ag A S ≤ gs A S o (pc S) := by
  have := gs_min (A := A) h hw (pc S) (Nat.le_refl _)
  have h2 := rs_pc h hw (pc S) (Nat.le_refl _)
  rw [pc_zero (rs_lt h _) (show pc (rs S o (pc S)) = 0 by omega), ag_zero] at this
  omega
theorem alls_lt {n : Nat} (h : n ≤ 8) : alls n < 256 := by have := pow8 h; simp only [alls]; have := Nat.two_pow_pos n; omega
end Go.Proofs.Rnk

