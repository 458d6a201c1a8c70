/- Layer 2: sets of players without a cycle, their mathematics. -/
import Derived.Test.YtnnhomkkggkkfaaDoorRkQ
import Derived.Test.YtnnhomkkggkkfaaDoorRkJ
set_option linter.unusedSimpArgs false
set_option linter.unusedVariables false
set_option linter.unnecessarySimpa false
set_option maxRecDepth 100000
namespace Go.Proofs.Rnk
open Go Go.VM
open Go.Proofs.Sur (andn andn_bit andn_le)

/-! ### what cycles there are -/
theorem cc3_mem {t : List Int} (h : Tn t) {a b : Nat} {acc : List Tri} {x : Tri} : ∀ k, k ≤ pc (s1 t a b) → (x ∈ cc3 t a b acc k ↔ x ∈ acc ∨ ∃ j, j < k ∧ bt t (el (s1 t a b) j) a = true ∧ x = tri a b (el (s1 t a b) j))
  | 0, _ => by simp [cc3]
  | k + 1, hk => by
    have ih := cc3_mem h (a := a) (b := b) (acc := acc) (x := x) k (by omega)
    simp only [cc3]
    split
    · rename_i c
      rw [List.mem_append, ih, List.mem_singleton]
      constructor
      · rintro ((q | ⟨j, q1, q2⟩) | q)
        · exact .inl q
        · exact .inr ⟨j, by omega, q2⟩
        · exact .inr ⟨k, by omega, c, q⟩
      · rintro (q | ⟨j, q1, q2, q3⟩)
        · exact .inl (.inl q)
        · rcases Nat.lt_or_ge j k with w | w
          · exact .inl (.inr ⟨j, w, q2, q3⟩)
          · have : j = k := by omega
            subst this; exact .inr q3
    · rename_i c
      rw [ih]
      constructor
      · rintro (q | ⟨j, q1, q2⟩)
        · exact .inl q
        · exact .inr ⟨j, by omega, q2⟩
      · rintro (q | ⟨j, q1, q2, q3⟩)
        · exact .inl q
        · rcases Nat.lt_or_ge j k with w | w
          · exact .inr ⟨j, w, q2, q3⟩
          · have : j = k := by omega
            subst this; exact absurd q2 c
theorem cc3_all {t : List Int} (h : Tn t) {a b : Nat} {acc : List Tri} {x : Tri} : x ∈ cc3 t a b acc (pc (s1 t a b)) ↔ x ∈ acc ∨ ∃ c, a < c ∧ bt t b c = true ∧ bt t c a = true ∧ x = tri a b c := by
  rw [cc3_mem h _ (Nat.le_refl _)]
  constructor
  · rintro (q | ⟨j, q1, q2, q3⟩)
    · exact .inl q
    · have := (s1_bit h).1 (el_mem q1).1
      exact .inr ⟨_, this.2, this.1, q2, q3⟩
  · rintro (q | ⟨c, q1, q2, q3, q4⟩)
    · exact .inl q
    · obtain ⟨j, hj, rfl⟩ := el_of (s := s1 t a b) (e := c) (by have := (h.lt q2).2; have := h.s.2; omega) ((s1_bit h).2 ⟨q2, q1⟩)
      exact .inr ⟨j, hj, q3, q4⟩
theorem cc2_mem {t : List Int} (h : Tn t) {a : Nat} {acc : List Tri} {x : Tri} : ∀ k, k ≤ pc (s1 t a a) → (x ∈ cc2 t a acc k ↔ x ∈ acc ∨ ∃ j, j < k ∧ ∃ c, a < c ∧ bt t (el (s1 t a a) j) c = true ∧ bt t c a = true ∧ x = tri a (el (s1 t a a) j) c)
  | 0, _ => by simp [cc2]
  | k + 1, hk => by
    have ih := cc2_mem h (a := a) (acc := acc) (x := x) k (by omega)
    simp only [cc2]
    rw [cc3_all h, ih]
    constructor
    · rintro ((q | ⟨j, q1, q2⟩) | q)
      · exact .inl q
      · exact .inr ⟨j, by omega, q2⟩
      · exact .inr ⟨k, by omega, q⟩
    · rintro (q | ⟨j, q1, q2⟩)
      · exact .inl (.inl q)
      · rcases Nat.lt_or_ge j k with w | w
        · exact .inl (.inr ⟨j, w, q2⟩)
        · have : j = k := by omega
          subst this; exact .inr q2
theorem cc1_mem {t : List Int} (h : Tn t) {x : Tri} : ∀ n, (x ∈ cc1 t n ↔ ∃ a b c, a < n ∧ a < b ∧ a < c ∧ bt t a b = true ∧ bt t b c = true ∧ bt t c a = true ∧ x = tri a b c)
  | 0 => by simp [cc1]
  | n + 1 => by
    simp only [cc1]
    rw [cc2_mem h _ (Nat.le_refl _), cc1_mem h n]
    constructor
    · rintro (⟨a, b, c, q1, q2⟩ | ⟨j, q1, c, q2, q3, q4, q5⟩)
      · exact ⟨a, b, c, by omega, q2⟩
      · have := (s1_bit h).1 (el_mem q1).1
        exact ⟨n, _, c, by omega, this.2, q2, this.1, q3, q4, q5⟩
    · rintro ⟨a, b, c, q1, q2, q3, q4, q5, q6, q7⟩
      rcases Nat.lt_or_ge a n with w | w
      · exact .inl ⟨a, b, c, w, q2, q3, q4, q5, q6, q7⟩
      · have : a = n := by omega
        subst this
        obtain ⟨j, hj, rfl⟩ := el_of (s := s1 t a a) (e := b) (by have := (h.lt q4).2; have := h.s.2; omega) ((s1_bit h).2 ⟨q4, q2⟩)
        exact .inr ⟨j, hj, c, q3, q5, q6, q7⟩
theorem cyc_mem {t : List Int} (h : Tn t) {x : Tri} : x ∈ cyc t ↔ ∃ a b c, a < b ∧ a < c ∧ bt t a b = true ∧ bt t b c = true ∧ bt t c a = true ∧ x = tri a b c := by
  rw [cyc, cc1_mem h]
  constructor
  · rintro ⟨a, b, c, _, q⟩; exact ⟨a, b, c, q⟩
  · rintro ⟨a, b, c, q1, q2, q3, q⟩; exact ⟨a, b, c, (h.lt q3).1, q1, q2, q3, q⟩
theorem cyc_al8 {t : List Int} (h : Tn t) : al8 (cyc t) := fun i hi => by
  have hm : (cyc t).getD i tri0 ∈ cyc t := by
    rw [List.getD_eq_getElem?_getD, List.getElem?_eq_getElem hi]; exact List.getElem_mem hi
  obtain ⟨a, b, c, _, _, q3, q4, _, e⟩ := (cyc_mem h).1 hm
  have h8 := h.s.2
  have l1 := h.lt q3
  have l2 := h.lt q4
  rw [e]
  refine ⟨⟨?_, ?_⟩, ⟨?_, ?_⟩, ?_, ?_⟩ <;> (simp only [tri]; omega)
theorem cyc_rok (t : List Int) : rok (cyc t) (cR t) := fun hne => by
  show (rmz 3 (cyc t)).wk ≠ .nil
  cases hq : cyc t with
  | nil => exact absurd hq hne
  | cons x l => intro e; cases e
/-- there is a cycle within a set -/
def cy (t : List Int) (s : Nat) : Prop := ∃ a b c, bt t a b = true ∧ bt t b c = true ∧ bt t c a = true ∧ s.testBit a = true ∧ s.testBit b = true ∧ s.testBit c = true
theorem ins_iff {a b c s : Nat} (ha : a < 8) (hb : b < 8) (hc : c < 8) : ins (tri a b c) (s : Int) = true ↔ s.testBit a = true ∧ s.testBit b = true ∧ s.testBit c = true := by
  have hm : memN (tri a b c) < 256 := memN_lt ⟨⟨by simp only [tri]; omega, by simp only [tri]; omega⟩, ⟨by simp only [tri]; omega, by simp only [tri]; omega⟩, by simp only [tri]; omega, by simp only [tri]; omega⟩
  have hbit : ∀ i, (memN (tri a b c)).testBit i = (decide (a = i) || decide (b = i) || decide (c = i)) := fun i => by
    simp only [memN, tri, Int.toNat_natCast, Nat.testBit_or, Nat.testBit_two_pow]
  simp only [ins, Int.toNat_natCast, decide_eq_true_eq]
  constructor
  · intro e
    have : ∀ i, (memN (tri a b c)).testBit i = true → s.testBit i = true := fun i hi => by
      have q := congrArg (fun n => n.testBit i) e
      simp only [Nat.zero_testBit] at q
      rw [andn_bit (by omega), hi] at q
      simpa using q
    exact ⟨this a (by rw [hbit]; simp), this b (by rw [hbit]; simp), this c (by rw [hbit]; simp)⟩
  · rintro ⟨q1, q2, q3⟩
    apply Nat.eq_of_testBit_eq; intro i
    rw [andn_bit (by omega), hbit, Nat.zero_testBit]
    by_cases e1 : a = i
    · subst e1; rw [q1]; simp
    by_cases e2 : b = i
    · subst e2; rw [q2]; simp
    by_cases e3 : c = i
    · subst e3; rw [q3]; simp
    · simp [e1, e2, e3]
theorem anyV_iff {l : List Tri} {s : Int} : anyV l s = true ↔ ∃ x ∈ l, ins x s = true := by
  constructor
  · intro h
    apply Classical.byContradiction
    intro hn
    have : ixV l s = -1 := ixV_none fun k hk => by
      cases c : ins (l.getD k tri0) s
      · rfl
      · refine absurd ⟨l.getD k tri0, ?_, c⟩ hn
        rw [List.getD_eq_getElem?_getD, List.getElem?_eq_getElem hk]; exact List.getElem_mem hk
    simp only [anyV, this, decide_eq_true_eq] at h
    omega
  · rintro ⟨x, hx, hi⟩
    obtain ⟨k, hk, rfl⟩ := List.getElem_of_mem hx
    refine decide_eq_true ?_
    unfold ixV
    cases hq : (List.range l.length).find? (fun i => ins (l.getD i tri0) s) with
    | some i => exact Int.natCast_nonneg i
    | none =>
      rw [List.find?_eq_none] at hq
      have := hq k (List.mem_range.2 hk)
      rw [List.getD_eq_getElem?_getD, List.getElem?_eq_getElem hk] at this
      exact absurd hi this
theorem any_cy {t : List Int} (h : Tn t) {s : Nat} : anyV (cyc t) (s : Int) = true ↔ cy t s := by
  have h8 := h.s.2
  rw [anyV_iff]
  constructor
  · rintro ⟨x, hx, hi⟩
    obtain ⟨a, b, c, _, _, q3, q4, q5, rfl⟩ := (cyc_mem h).1 hx
    have l1 := h.lt q3
    have l2 := h.lt q4
    have := (ins_iff (show a < 8 by omega) (show b < 8 by omega) (show c < 8 by omega)).1 hi
    exact ⟨a, b, c, q3, q4, q5, this⟩
  · have key : ∀ a b c, a < b → a < c → bt t a b = true → bt t b c = true → bt t c a = true → s.testBit a = true → s.testBit b = true → s.testBit c = true → ∃ x ∈ cyc t, ins x (s : Int) = true := fun a b c q1 q2 q3 q4 q5 r1 r2 r3 => by
      have l1 := h.lt q3
      have l2 := h.lt q4
      exact ⟨tri a b c, (cyc_mem h).2 ⟨a, b, c, q1, q2, q3, q4, q5, rfl⟩, (ins_iff (by omega) (by omega) (by omega)).2 ⟨r1, r2, r3⟩⟩
    rintro ⟨a, b, c, q3, q4, q5, r1, r2, r3⟩
    have n1 : a ≠ b := by rintro rfl; rw [h.irr] at q3; cases q3
    have n2 : b ≠ c := by rintro rfl; rw [h.irr] at q4; cases q4
    have n3 : c ≠ a := by rintro rfl; rw [h.irr] at q5; cases q5
    rcases Nat.lt_or_ge a b with w | w
    · rcases Nat.lt_or_ge a c with v | v
      · exact key a b c w v q3 q4 q5 r1 r2 r3
      · exact key c a b (by omega) (by omega) q5 q3 q4 r3 r1 r2
    · rcases Nat.lt_or_ge b c with v | v
      · exact key b c a v (by omega) q4 q5 q3 r2 r3 r1
      · exact key c a b (by omega) (by omega) q5 q3 q4 r3 r1 r2
theorem mst_ub {t : List Int} (h : Tn t) : ∀ j s, s < j → ¬ cy t s → pc s ≤ mstV t j
  | 0, s, hs, _ => by omega
  | j + 1, s, hs, hn => by
    have ih := mst_ub h j s
    simp only [mstV]
    split
    · rename_i c
      rcases Nat.lt_or_ge s j with w | w
      · exact ih w hn
      · have : s = j := by omega
        subst this; exact absurd ((any_cy h).1 c) hn
    · rcases Nat.lt_or_ge s j with w | w
      · have := ih w hn; omega
      · have : s = j := by omega
        subst this; omega
theorem mst_at {t : List Int} (h : Tn t) : ∀ j, 0 < j → ∃ s, s < j ∧ ¬ cy t s ∧ pc s = mstV t j
  | 0, h0 => by omega
  | j + 1, _ => by
    have n0 : ¬ cy t 0 := by rintro ⟨a, b, c, _, _, _, q, _⟩; simp at q
    have p0 : pc 0 = 0 := by decide
    by_cases hj : j = 0
    · subst hj
      refine ⟨0, by omega, n0, ?_⟩
      simp only [mstV]
      split
      · exact p0
      · rw [p0]; rfl
    obtain ⟨s, q1, q2, q3⟩ := mst_at h j (by omega)
    simp only [mstV]
    split
    · exact ⟨s, by omega, q2, q3⟩
    · rename_i c
      rcases Nat.lt_or_ge (mstV t j) (pc j) with w | w
      · exact ⟨j, by omega, fun k => c ((any_cy h).2 k), by omega⟩
      · exact ⟨s, by omega, q2, by omega⟩
theorem clr_ub {t : List Int} (h : Tn t) {s : Nat} (hs : s < 2 ^ t.length) (hn : ¬ cy t s) : pc s ≤ clr t := mst_ub h _ s hs hn
theorem clr_at {t : List Int} (h : Tn t) : ∃ s, s < 2 ^ t.length ∧ ¬ cy t s ∧ pc s = clr t := mst_at h _ (Nat.two_pow_pos _)
/-! ### how many there are -/
theorem pc_or (a b : Nat) : pc (a ||| b) ≤ pc a + pc b := by
  have : ∀ l : List Nat, (l.filter fun i => (a ||| b).testBit i).length ≤ (l.filter fun i => a.testBit i).length + (l.filter fun i => b.testBit i).length := by
    intro l
    induction l with
    | nil => simp
    | cons x l ih =>
      simp only [List.filter_cons, Nat.testBit_or]
      simp only [Nat.testBit_or] at ih
      cases a.testBit x <;> cases b.testBit x <;> simp <;> omega
  exact this _
theorem pc_pow {v : Nat} (h : v < 8) : pc (2 ^ v) = 1 := by
  have : v = 0 ∨ v = 1 ∨ v = 2 ∨ v = 3 ∨ v = 4 ∨ v = 5 ∨ v = 6 ∨ v = 7 := by omega
  rcases this with rfl | rfl | rfl | rfl | rfl | rfl | rfl | rfl <;> decide
theorem pc_alls : ∀ n, n < 9 → pc (alls n) = n := by decide +kernel
theorem pc_pos {s : Nat} (h : 0 < pc s) : ∃ v, v < 8 ∧ s.testBit v = true := by
  apply Classical.byContradiction
  intro hn
  have : pc s = 0 := by
    unfold pc
    rw [List.length_eq_zero_iff, List.filter_eq_nil_iff]
    intro i hi c
    exact hn ⟨i, List.mem_range.1 hi, c⟩
  omega
theorem lt_of_bits {s n : Nat} (h : ∀ i, s.testBit i = true → i < n) : s < 2 ^ n := by
  apply Nat.lt_of_not_le
  intro hle
  obtain ⟨i, h1, h2⟩ := Nat.exists_ge_and_testBit_of_ge_two_pow hle
  have := h i h2
  omega
/-- among enough players some have no cycle -/
theorem tame {t : List Int} (h : Tn t) : ∀ m S, (∀ i, S.testBit i = true → i < t.length) → 2 ^ m ≤ pc S → ∃ A, (∀ i, A.testBit i = true → S.testBit i = true) ∧ ¬ cy t A ∧ m + 1 ≤ pc A
  | 0, S, hS, hp => by
    obtain ⟨v, hv, hb⟩ := pc_pos (s := S) (by simp at hp; omega)
    refine ⟨2 ^ v, fun i hi => ?_, ?_, by rw [pc_pow hv]; omega⟩
    · rw [Nat.testBit_two_pow, decide_eq_true_eq] at hi
      subst hi; exact hb
    · rintro ⟨a, b, c, q1, _, _, r1, r2, _⟩
      rw [Nat.testBit_two_pow, decide_eq_true_eq] at r1 r2
      subst r1; subst r2
      rw [h.irr] at q1; cases q1
  | m + 1, S, hS, hp => by
    have h8 := h.s.2
    have hm := Nat.two_pow_pos m
    rw [Nat.pow_succ] at hp
    obtain ⟨v, hv, hb⟩ := pc_pos (s := S) (by omega)
    have hvn := hS v hb
    have hsplit : pc S ≤ 1 + (pc (S &&& sn t v) + pc (S &&& over t v t.length)) := by
      have e1 : pc S ≤ pc (2 ^ v ||| (S &&& sn t v ||| S &&& over t v t.length)) := pc_mono fun i _ hi => by
        rw [Nat.testBit_or, Nat.testBit_or, Nat.testBit_and, Nat.testBit_and, hi, Nat.testBit_two_pow]
        by_cases e : v = i
        · simp [e]
        · have hin := hS i hi
          cases c : (sn t v).testBit i
          · have : bt t i v = true := by rw [h.tot hin hvn (Ne.symm e)]; rw [show bt t v i = false from c]; rfl
            have := (over_bit (t := t) (v := v) (b := i) t.length).2 ⟨hin, this⟩
            rw [this]; simp
          · simp
      have e2 := pc_or (2 ^ v) (S &&& sn t v ||| S &&& over t v t.length)
      have e3 := pc_or (S &&& sn t v) (S &&& over t v t.length)
      have e4 := pc_pow hv
      omega
    -- with v above all, or below all
    have fin : ∀ (A : Nat), (∀ i, A.testBit i = true → S.testBit i = true ∧ i ≠ v) → ((∀ i, A.testBit i = true → bt t v i = true) ∨ (∀ i, A.testBit i = true → bt t i v = true)) → ¬ cy t A → m + 1 ≤ pc A →
        ∃ B, (∀ i, B.testBit i = true → S.testBit i = true) ∧ ¬ cy t B ∧ m + 1 + 1 ≤ pc B := fun A hA hd hc hpA => by
      have hB : ∀ i, (A ||| 2 ^ v).testBit i = true ↔ A.testBit i = true ∨ i = v := fun i => by
        rw [Nat.testBit_or, Nat.testBit_two_pow, Bool.or_eq_true, decide_eq_true_eq]
        exact or_congr Iff.rfl eq_comm
      refine ⟨A ||| 2 ^ v, fun i hi => ?_, ?_, ?_⟩
      · rcases (hB i).1 hi with q | rfl
        · exact (hA i q).1
        · exact hb
      · rintro ⟨a, b, c, q1, q2, q3, r1, r2, r3⟩
        have anti : ∀ x y, bt t x y = true → bt t y x = true → False := fun x y p q => by
          have l := h.lt p
          have hne : x ≠ y := by rintro rfl; rw [h.irr] at p; cases p
          rw [h.tot l.1 l.2 hne, q] at p; cases p
        -- whoever beats v, and whom v beats, are both there
        have key : ∀ x y, (A ||| 2 ^ v).testBit x = true → (A ||| 2 ^ v).testBit y = true → bt t x v = true → bt t v y = true → False := fun x y hx hy p q => by
          have hxv : x ≠ v := by rintro rfl; rw [h.irr] at p; cases p
          have hyv : y ≠ v := by rintro rfl; rw [h.irr] at q; cases q
          rcases hd with hd | hd
          · exact anti x v p (hd x (((hB x).1 hx).resolve_right hxv))
          · exact anti v y q (hd y (((hB y).1 hy).resolve_right hyv))
        rcases (hB a).1 r1 with w1 | rfl
        · rcases (hB b).1 r2 with w2 | rfl
          · rcases (hB c).1 r3 with w3 | rfl
            · exact hc ⟨a, b, c, q1, q2, q3, w1, w2, w3⟩
            · exact key b a r2 r1 q2 q3
          · exact key a c r1 r3 q1 q2
        · exact key c b r3 r2 q3 q1
      · have : pc A < pc (A ||| 2 ^ v) := pc_lt (fun i _ hi => (hB i).2 (.inl hi)) ⟨v, hv, by
          cases c : A.testBit v
          · rfl
          · exact absurd rfl (hA v c).2, (hB v).2 (.inr rfl)⟩
        omega
    by_cases c : 2 ^ m ≤ pc (S &&& sn t v)
    · obtain ⟨A, a1, a2, a3⟩ := tame h m (S &&& sn t v) (fun i hi => by rw [Nat.testBit_and, Bool.and_eq_true] at hi; exact hS i hi.1) c
      refine fin A (fun i hi => ?_) (.inl fun i hi => ?_) a2 a3
      · have := a1 i hi
        rw [Nat.testBit_and, Bool.and_eq_true] at this
        refine ⟨this.1, ?_⟩
        rintro rfl
        have q : bt t i i = true := this.2
        rw [h.irr] at q; cases q
      · have := a1 i hi
        rw [Nat.testBit_and, Bool.and_eq_true] at this
        exact this.2
    · obtain ⟨A, a1, a2, a3⟩ := tame h m (S &&& over t v t.length) (fun i hi => by rw [Nat.testBit_and, Bool.and_eq_true] at hi; exact hS i hi.1) (by omega)
      refine fin A (fun i hi => ?_) (.inr fun i hi => ?_) a2 a3
      · have := a1 i hi
        rw [Nat.testBit_and, Bool.and_eq_true] at this
        refine ⟨this.1, ?_⟩
        rintro rfl
        have q := ((over_bit _).1 this.2).2
        rw [h.irr] at q; cases q
      · have := a1 i hi
        rw [Nat.testBit_and, Bool.and_eq_true] at this
        exact ((over_bit _).1 this.2).2
theorem clr_tame {t : List Int} (h : Tn t) {m : Nat} (hm : 2 ^ m ≤ t.length) : m + 1 ≤ clr t := by
  obtain ⟨A, a1, a2, a3⟩ := tame h m (alls t.length) (fun i hi => by rw [alls_bit] at hi; simpa using hi) (by rw [pc_alls _ (by have := h.s.2; omega)]; exact hm)
  exact Nat.le_trans a3 (clr_ub h (lt_of_bits fun i hi => by have := a1 i hi; rw [alls_bit] at this; simpa using this) a2)
theorem clr_le {t : List Int} (h : Tn t) : clr t ≤ t.length := by
  have h8 := h.s.2
  obtain ⟨s, q1, _, q3⟩ := clr_at h
  rw [← q3, ← pc_alls t.length (by omega)]
  refine pc_mono fun i _ hi => ?_
  rw [alls_bit, decide_eq_true_eq]
  rcases Nat.lt_or_ge i t.length with w | w
  · exact w
  · rw [Nat.testBit_lt_two_pow (Nat.lt_of_lt_of_le q1 (Nat.pow_le_pow_right (by decide) w))] at hi; cases hi
theorem clr_all {t : List Int} (h : Tn t) : clr t = t.length ↔ cyc t = [] := by
  have h8 := h.s.2
  have hpa := pc_alls t.length (by omega)
  constructor
  · intro e
    obtain ⟨s, q1, q2, q3⟩ := clr_at h
    have hs : ∀ i, i < t.length → s.testBit i = true := fun i hi => by
      cases c : s.testBit i
      · have : pc s < pc (alls t.length) := pc_lt (fun j _ hj => by
          rw [alls_bit, decide_eq_true_eq]
          rcases Nat.lt_or_ge j t.length with w | w
          · exact w
          · rw [Nat.testBit_lt_two_pow (Nat.lt_of_lt_of_le q1 (Nat.pow_le_pow_right (by decide) w))] at hj; cases hj) ⟨i, by omega, c, by rw [alls_bit]; simpa using hi⟩
        omega
      · rfl
    rw [List.eq_nil_iff_forall_not_mem]
    intro x hx
    obtain ⟨a, b, c, _, _, r3, r4, r5, _⟩ := (cyc_mem h).1 hx
    exact q2 ⟨a, b, c, r3, r4, r5, hs a (h.lt r3).1, hs b (h.lt r4).1, hs c (h.lt r5).1⟩
  · intro e
    have hn : ¬ cy t (alls t.length) := fun k => by
      have := (any_cy h).2 k
      rw [e] at this
      rw [anyV_iff] at this
      obtain ⟨x, hx, _⟩ := this
      cases hx
    have h1 := clr_ub h (s := alls t.length) (by have := Nat.two_pow_pos t.length; simp only [alls]; omega) hn
    have h2 := clr_le h
    omega
/-! ### with one player less -/
def less (t : List Int) (k : Nat) : Nat → List Int
  | 0 => []
  | j + 1 => less t k j ++ [((sn t j &&& alls k : Nat) : Int)]
theorem less_len (t : List Int) (k : Nat) : ∀ j, (less t k j).length = j
  | 0 => rfl
  | j + 1 => by simp [less, less_len t k j]
theorem less_get (t : List Int) (k : Nat) : ∀ j i, i < j → ia (less t k j) i = ((sn t i &&& alls k : Nat) : Int)
  | 0, i, h => by omega
  | j + 1, i, h => by
    have hl := less_len t k j
    simp only [ia, less, List.getD_eq_getElem?_getD]
    rcases Nat.lt_or_ge i j with w | w
    · rw [List.getElem?_append_left (by omega)]
      have := less_get t k j i w
      simpa [ia, List.getD_eq_getElem?_getD] using this
    · have : i = j := by omega
      subst this
      rw [List.getElem?_append_right (by omega), hl]
      simp
theorem less_bt {t : List Int} {k i j : Nat} (hi : i < k) : bt (less t k k) i j = (bt t i j && decide (j < k)) := by
  show (ia (less t k k) i).toNat.testBit j = _
  rw [less_get t k k i hi, Int.toNat_natCast, Nat.testBit_and, alls_bit]
theorem less_tn {t : List Int} (h : Tn t) {k : Nat} (hk : 1 ≤ k) (hkn : k < t.length) : Tn (less t k k) := by
  have h8 := h.s.2
  have hl := less_len t k k
  refine ⟨⟨by omega, by omega⟩, fun i hi => ?_⟩
  rw [hl] at hi
  have hg := less_get t k k i hi
  refine ⟨⟨⟨by rw [hg]; omega, ?_⟩, ?_⟩, fun j hj => ?_⟩
  · rw [hg, hl]
    have h1 : sn t i &&& alls k ≤ alls k := Nat.and_le_right
    have h2 := Nat.two_pow_pos k
    have h3 : alls k = 2 ^ k - 1 := rfl
    omega
  · show bt (less t k k) i i = false
    rw [less_bt hi, h.irr]; rfl
  · show bt (less t k k) i j ≠ bt (less t k k) j i
    rw [less_bt hi, less_bt (show j < k by omega), h.tot (show i < t.length by omega) (show j < t.length by omega) (by omega)]
    simp only [hi, show j < k by omega, decide_true, Bool.and_true]
    cases bt t j i <;> simp
theorem less_cy {t : List Int} (h : Tn t) {k : Nat} (hkn : k < t.length) {s : Nat} (hs : s < 2 ^ k) : cy (less t k k) s ↔ cy t s := by
  have hlt : ∀ i, s.testBit i = true → i < k := fun i hi => by
    rcases Nat.lt_or_ge i k with w | w
    · exact w
    · rw [Nat.testBit_lt_two_pow (Nat.lt_of_lt_of_le hs (Nat.pow_le_pow_right (by decide) w))] at hi; cases hi
  constructor
  · rintro ⟨a, b, c, q1, q2, q3, r1, r2, r3⟩
    rw [less_bt (hlt a r1), Bool.and_eq_true] at q1
    rw [less_bt (hlt b r2), Bool.and_eq_true] at q2
    rw [less_bt (hlt c r3), Bool.and_eq_true] at q3
    exact ⟨a, b, c, q1.1, q2.1, q3.1, r1, r2, r3⟩
  · rintro ⟨a, b, c, q1, q2, q3, r1, r2, r3⟩
    refine ⟨a, b, c, ?_, ?_, ?_, r1, r2, r3⟩
    · rw [less_bt (hlt a r1), q1]; simpa using hlt b r2
    · rw [less_bt (hlt b r2), q2]; simpa using hlt c r3
    · rw [less_bt (hlt c r3), q3]; simpa using hlt a r1
theorem less_clr {t : List Int} (h : Tn t) (h2 : 2 ≤ t.length) : clr (less t (t.length - 1) (t.length - 1)) = clr t ∨ clr (less t (t.length - 1) (t.length - 1)) = clr t - 1 := by
  obtain ⟨k, hk⟩ : ∃ k, t.length = k + 1 := ⟨t.length - 1, by omega⟩
  have h8 := h.s.2
  have e : t.length - 1 = k := by omega
  rw [e]
  have hT := less_tn h (k := k) (by omega) (by omega)
  have hl := less_len t k k
  -- not more
  obtain ⟨s, q1, q2, q3⟩ := clr_at hT
  rw [hl] at q1
  have hA : clr (less t k k) ≤ clr t := by
    rw [← q3]
    refine clr_ub h ?_ (fun c => q2 ((less_cy h (by omega) q1).2 c))
    rw [hk, Nat.pow_succ]; omega
  obtain ⟨u, r1, r2, r3⟩ := clr_at h
  have hu : u &&& alls k < 2 ^ k := by
    have h1 : u &&& alls k ≤ alls k := Nat.and_le_right
    have h2 := Nat.two_pow_pos k
    have h3 : alls k = 2 ^ k - 1 := rfl
    omega
  have hn : ¬ cy t (u &&& alls k) := by
    rintro ⟨a, b, c, w1, w2, w3, v1, v2, v3⟩
    rw [Nat.testBit_and, Bool.and_eq_true] at v1 v2 v3
    exact r2 ⟨a, b, c, w1, w2, w3, v1.1, v2.1, v3.1⟩
  have hB := clr_ub hT (s := u &&& alls k) (by rw [hl]; exact hu) (fun c => hn ((less_cy h (by omega) hu).1 c))
  have hC : pc u ≤ pc (u &&& alls k) + 1 := by
    have e1 : pc u ≤ pc (u &&& alls k ||| 2 ^ k) := pc_mono fun i _ hi => by
      have : i < k + 1 := by
        rcases Nat.lt_or_ge i (k + 1) with w | w
        · exact w
        · rw [hk] at r1
          rw [Nat.testBit_lt_two_pow (Nat.lt_of_lt_of_le r1 (Nat.pow_le_pow_right (by decide) w))] at hi; cases hi
      rw [Nat.testBit_or, Nat.testBit_and, alls_bit, Nat.testBit_two_pow, hi]
      by_cases w : i < k
      · simp [w]
      · have : k = i := by omega
        simp [this]
    have e2 := pc_or (u &&& alls k) (2 ^ k)
    have e3 := pc_pow (v := k) (by omega)
    omega
  omega
end Go.Proofs.Rnk

