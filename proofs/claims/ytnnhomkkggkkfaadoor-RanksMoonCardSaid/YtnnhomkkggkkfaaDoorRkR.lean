/- Layer 2: sets of players without a cycle, their mathematics. -/
import Derived.Test.YtnnhomkkggkkfaaDoorRkT
import Derived.Test.YtnnhomkkggkkfaaDoorRkJ
set_option linter.unusedSimpArgs false
set_option linter.unusedVariables false
set_option linter.unnecessarySimpa false
set_option maxRecDepth 100000
namespace Go.Proofs.Rnk
open Go Go.VM
open Go.Proofs.Sur (andn andn_bit andn_le)

/-! ### what cycles there are -/
theorem cc3_mem {t : List Int} (h : Tn t) {a b : Nat} {acc : List Tri} {x : Tri} : ∀ k, k ≤ pc (s1 t a b) → (x ∈ cc3 t a b acc k ↔ x ∈ acc ∨ ∃ j, j < k ∧ bt t (el (s1 t a b) j) a = true ∧ x = tri a b (el (s1 t a b) j))
  | 0, _ => by simp [cc3]
  | k + 1, hk => by
    have ih := cc3_mem h (a := a) (b := b) (acc := acc) (x := x) k (by omega)
    simp only [cc3]
    split
    · rename_i c
      rw [List.mem_append, ih, List.mem_singleton]
      constructor
      · rintro ((q | ⟨j, q1, q2⟩) | q)
        · exact .inl q
        · exact .inr ⟨j, by omega, q2⟩
        · exact .inr ⟨k, by omega, c, q⟩
      · rintro (q | ⟨j, q1, q2, q3⟩)
        · exact .inl (.inl q)
        · rcases Nat.lt_or_ge j k with w | w
          · exact .inl (.inr ⟨j, w, q2, q3⟩)
          · have : j = k := by omega
            subst this; exact .inr q3
    · rename_i c
      rw [ih]
      constructor
      · rintro (q | ⟨j, q1, q2⟩)
        · exact .inl q
        · exact .inr ⟨j, by omega, q2⟩
      · rintro (q | ⟨j, q1, q2, q3⟩)
        · exact .inl q
        · rcases Nat.lt_or_ge j k with w | w
          · exact .inr ⟨j, w, q2, q3⟩
          · have : j = k := by omega
            subst this; exact absurd q2 c
theorem cc3_all {t : List Int} (h : Tn t) {a b : Nat} {acc : List Tri} {x : Tri} : x ∈ cc3 t a b acc (pc (s1 t a b)) ↔ x ∈ acc ∨ ∃ c, a < c ∧ bt t b c = true ∧ bt t c a = true ∧ x = tri a b c := by
  rw [cc3_mem h _ (Nat.le_refl _)]
  constructor
  · rintro (q | ⟨j, q1, q2, q3⟩)
    · exact .inl q
    · have := (s1_bit h).1 (el_mem q1).1
      exact .inr ⟨_, this.2, this.1, q2, q3⟩
  · rintro (q | ⟨c, q1, q2, q3, q4⟩)
    · exact .inl q
    · obtain ⟨j, hj, rfl⟩ := el_of (s := s1 t a b) (e := c) (by have := (h.lt q2).2; have := h.s.2; omega) ((s1_bit h).2 ⟨q2, q1⟩)
      exact .inr ⟨j, hj, q3, q4⟩
theorem cc2_mem {t : List Int} (h : Tn t) {a : Nat} {acc : List Tri} {x : Tri} : ∀ k, k ≤ pc (s1 t a a) → (x ∈ cc2 t a acc k ↔ x ∈ acc ∨ ∃ j, j < k ∧ ∃ c, a < c ∧ bt t (el (s1 t a a) j) c = true ∧ bt t c a = true ∧ x = tri a (el (s1 t a a) j) c)
  | 0, _ => by simp [cc2]
  | k + 1, hk => by
    have ih := cc2_mem h (a := a) (acc := acc) (x := x) k (by omega)
    simp only [cc2]
    rw [cc3_all h, ih]
    constructor
    · rintro ((q | ⟨j, q1, q2⟩) | q)
      · exact .inl q
      · exact .inr ⟨j, by omega, q2⟩
      · exact .inr ⟨k, by omega, q⟩
    · rintro (q | ⟨j, q1, q2⟩)
      · exact .inl (.inl q)
      · rcases Nat.lt_or_ge j k with w | w
        · exact .inl (.inr ⟨j, w, q2⟩)
        · have : j = k := by omega
          subst this; exact .inr q2
theorem cc1_mem {t : List Int} (h : Tn t) {x : Tri} : ∀ n, (x ∈ cc1 t n ↔ ∃ a b c, a < n ∧ a < b ∧ a < c ∧ bt t a b = true ∧ bt t b c = true ∧ bt t c a = true ∧ x = tri a b c)
  | 0 => by simp [cc1]
  | n + 1 => by
    simp only [cc1]
    rw [cc2_mem h _ (Nat.le_refl _), cc1_mem h n]
    constructor
    · rintro (⟨a, b, c, q1, q2⟩ | ⟨j, q1, c, q2, q3, q4, q5⟩)
      · exact ⟨a, b, c, by omega, q2⟩
      · have := (s1_bit h).1 (el_mem q1).1
        exact ⟨n, _, c, by omega, this.2, q2, this.1, q3, q4, q5⟩
    · rintro ⟨a, b, c, q1, q2, q3, q4, q5, q6, q7⟩
      rcases Nat.lt_or_ge a n with w | w
      · exact .inl ⟨a, b, c, w, q2, q3, q4, q5, q6, q7⟩
      · have : a = n := by omega
        subst this
        obtain ⟨j, hj, rfl⟩ := el_of (s := s1 t a a) (e := b) (by have := (h.lt q4).2; have := h.s.2; omega) ((s1_bit h).2 ⟨q4, q2⟩)
        exact .inr ⟨j, hj, c, q3, q5, q6, q7⟩
theorem cyc_mem {t : List Int} (h : Tn t) {x : Tri} : x ∈ cyc t ↔ ∃ a b c, a < b ∧ a < c ∧ bt t a b = true ∧ bt t b c = true ∧ bt t c a = true ∧ x = tri a b c := by
  rw [cyc, cc1_mem h]
  constructor
  · rintro ⟨a, b, c, _, q⟩; exact ⟨a, b, c, q⟩
  · rintro ⟨a, b, c, q1, q2, q3, q⟩; exact ⟨a, b, c, (h.lt q3).1, q1, q2, q3, q⟩
def cy (t : List Int) (s : Nat) : Prop := ∃ a b c, bt t a b = true ∧ bt t b c = true ∧ bt t c a = true ∧ s.testBit a = true ∧ s.testBit b = true ∧ s.testBit c = true
theorem ins_iff {a b c s : Nat} (ha : a < 8) (hb : b < 8) (hc : c < 8) : ins (tri a b c) (s : Int) = true ↔ s.testBit a = true ∧ s.testBit b = true ∧ s.testBit c = true := by
  have hm : memN (tri a b c) < 256 := memN_lt ⟨⟨by simp only [tri]; omega, by simp only [tri]; omega⟩, ⟨by simp only [tri]; omega, by simp only [tri]; omega⟩, by simp only [tri]; omega, by simp only [tri]; omega⟩
  have hbit : ∀ i, (memN (tri a b c)).testBit i = (decide (a = i) || decide (b = i) || decide (c = i)) := fun i => by
    simp only [memN, tri, Int.toNat_natCast, Nat.testBit_or, Nat.testBit_two_pow]
  simp only [ins, Int.toNat_natCast, decide_eq_true_eq]
  constructor
  · intro e
    have : ∀ i, (memN (tri a b c)).testBit i = true → s.testBit i = true := fun i hi => by
      have q := congrArg (fun n => n.testBit i) e
      simp only [Nat.zero_testBit] at q
      rw [andn_bit (by omega), hi] at q
      simpa using q
    exact ⟨this a (by rw [hbit]; simp), this b (by rw [hbit]; simp), this c (by rw [hbit]; simp)⟩
  · rintro ⟨q1, q2, q3⟩
    apply Nat.eq_of_testBit_eq; intro i
    rw [andn_bit (by omega), hbit, Nat.zero_testBit]
    by_cases e1 : a = i
    · subst e1; rw [q1]; simp
    by_cases e2 : b = i
    · subst e2; rw [q2]; simp
    by_cases e3 : c = i
    · subst e3; rw [q3]; simp
    · simp [e1, e2, e3]
theorem anyV_iff {l : List Tri} {s : Int} : anyV l s = true ↔ ∃ x ∈ l, ins x s = true := by
  constructor
  · intro h
    apply Classical.byContradiction
    intro hn
    have : ixV l s = -1 := ixV_none fun k hk => by
      cases c : ins (l.getD k tri0) s
      · rfl
      · refine absurd ⟨l.getD k tri0, ?_, c⟩ hn
        rw [List.getD_eq_getElem?_getD, List.getElem?_eq_getElem hk]; exact List.getElem_mem hk
    simp only [anyV, this, decide_eq_true_eq] at h
    omega
  · rintro ⟨x, hx, hi⟩
    obtain ⟨k, hk, rfl⟩ := List.getElem_of_mem hx
    refine decide_eq_true ?_
    unfold ixV
    cases hq : (List.range l.length).find? (fun i => ins (l.getD i tri0) s) with
    | some i => exact Int.natCast_nonneg i
    | none =>
      rw [List.find?_eq_none] at hq
      have := hq k (List.mem_range.2 hk)
      rw [List.getD_eq_getElem?_getD, List.getElem?_eq_getElem hk] at this
      exact absurd hi this
theorem any_cy {t : List Int} (h : Tn t) {s : Nat} : anyV (cyc t) (s : Int) = true ↔ cy t s := by
  have h8 := h.s.2
  rw [anyV_iff]
  constructor
  · rintro ⟨x, hx, hi⟩
    obtain ⟨a, b, c, _, _, q3, q4, q5, rfl⟩ := (cyc_mem h).1 hx
    have l1 := h.lt q3
    have l2 := h.lt q4
    have := (ins_iff (show a < 8 by omega) (show b < 8 by omega) (show c < 8 by omega)).1 hi
    exact ⟨a, b, c, q3, q4, q5, this⟩
  · have key : ∀ a b c, a < b → a < c → bt t a b = true → bt t b c = true → bt t c a = true → s.testBit a = true → s.testBit b = true → s.testBit c = true → ∃ x ∈ cyc t, ins x (s : Int) = true := fun a b c q1 q2 q3 q4 q5 r1 r2 r3 => by
      have l1 := h.lt q3
      have l2 := h.lt q4
      exact ⟨tri a b c, (cyc_mem h).2 ⟨a, b, c, q1, q2, q3, q4, q5, rfl⟩, (ins_iff (by omega) (by omega) (by omega)).2 ⟨r1, r2, r3⟩⟩
    rintro ⟨a, b, c, q3, q4, q5, r1, r2, r3⟩
    have n1 : a ≠ b := by rintro rfl; rw [h.irr] at q3; cases q3
    have n2 : b ≠ c := by rintro rfl; rw [h.irr] at q4; cases q4
    have n3 : c ≠ a := by rintro rfl; rw [h.irr] at q5; cases q5
    rcases Nat.lt_or_ge a b with w | w
    · rcases Nat.lt_or_ge a c with v | v
      · exact key a b c w v q3 q4 q5 r1 r2 r3
      · exact key c a b (by omega) (by omega) q5 q3 q4 r3 r1 r2
    · rcases Nat.lt_or_ge b c with v | v
      · exact key b c a v (by omega) q4 q5 q3 r2 r3 r1
      · exact key c a b (by omega) (by omega) q5 q3 q4 r3 r1 r2
/-! ### how many there are -/
theorem pc_alls : ∀ n, n < 9 → pc (alls n) = n := by decide +kernel
theorem pc_pos {s : Nat} (h : 0 < pc s) : ∃ v, v < 8 ∧ s.testBit v = true := by
  apply Classical.byContradiction
  intro hn
  have : pc s = 0 := by
    unfold pc
    rw [List.length_eq_zero_iff, List.filter_eq_nil_iff]
    intro i hi c
    exact hn ⟨i, List.mem_range.1 hi, c⟩
  omega
theorem lt_of_bits {s n : Nat} (h : ∀ i, s.testBit i = true → i < n) : s < 2 ^ n := by
  apply Nat.lt_of_not_le
  intro hle
  obtain ⟨i, h1, h2⟩ := Nat.exists_ge_and_testBit_of_ge_two_pow hle
  have := h i h2
  omega
/-! ### with one player less -/
def less (t : List Int) (k : Nat) : Nat → List Int
  | 0 => []
  | j + 1 => less t k j ++ [((sn t j &&& alls k : Nat) : Int)]
end Go.Proofs.Rnk

