/- Layer 2: kings, their mathematics. -/
import Derived.Test.YtnnhomkkggkkfaaDoorRkI
set_option linter.unusedSimpArgs false
set_option linter.unusedVariables false
set_option linter.unnecessarySimpa false
set_option maxRecDepth 100000
namespace Go.Proofs.Rnk
open Go Go.VM

/-! ### how many -/
theorem filter_lt {α : Type} {f g : α → Bool} : ∀ (l : List α), (∀ a ∈ l, f a = true → g a = true) → (∃ a ∈ l, f a = false ∧ g a = true) → (l.filter f).length < (l.filter g).length
  | [], _, h => by obtain ⟨_, h, _⟩ := h; cases h
  | x :: l, h1, h2 => by
    have hle : (l.filter f).length ≤ (l.filter g).length := by
      have : ∀ (l : List α), (∀ a ∈ l, f a = true → g a = true) → (l.filter f).length ≤ (l.filter g).length := by
        intro l
        induction l with
        | nil => intro _; exact Nat.le_refl _
        | cons y l ih =>
          intro h
          have i := ih (fun a ha => h a (List.mem_cons_of_mem _ ha))
          have hy := h y (List.mem_cons_self ..)
          cases hf : f y
          · rw [List.filter_cons_of_neg (by simp [hf])]
            cases hg : g y
            · rw [List.filter_cons_of_neg (by simp [hg])]; exact i
            · rw [List.filter_cons_of_pos hg]; simp only [List.length_cons]; omega
          · rw [List.filter_cons_of_pos hf, List.filter_cons_of_pos (hy hf)]; simp only [List.length_cons]; omega
      exact this l (fun a ha => h1 a (List.mem_cons_of_mem _ ha))
    have hx := h1 x (List.mem_cons_self ..)
    cases hf : f x
    · rw [List.filter_cons_of_neg (by simp [hf])]
      cases hg : g x
      · rw [List.filter_cons_of_neg (by simp [hg])]
        refine filter_lt l (fun a ha => h1 a (List.mem_cons_of_mem _ ha)) ?_
        obtain ⟨a, ha, q1, q2⟩ := h2
        rcases List.mem_cons.1 ha with rfl | ha
        · rw [hg] at q2; cases q2
        · exact ⟨a, ha, q1, q2⟩
      · rw [List.filter_cons_of_pos hg]; simp only [List.length_cons]; omega
    · rw [List.filter_cons_of_pos hf, List.filter_cons_of_pos (hx hf)]
      simp only [List.length_cons]
      have := filter_lt l (fun a ha => h1 a (List.mem_cons_of_mem _ ha)) (by
        obtain ⟨a, ha, q1, q2⟩ := h2
        rcases List.mem_cons.1 ha with rfl | ha
        · rw [hf] at q1; cases q1
        · exact ⟨a, ha, q1, q2⟩)
      omega
theorem pc_lt {a b : Nat} (h : ∀ i, i < 8 → a.testBit i = true → b.testBit i = true) (h2 : ∃ i, i < 8 ∧ a.testBit i = false ∧ b.testBit i = true) : pc a < pc b := by
  obtain ⟨i, hi, q⟩ := h2
  exact filter_lt _ (fun j hj => h j (List.mem_range.1 hj)) ⟨i, List.mem_range.2 hi, q⟩
theorem pc_mono {a b : Nat} (h : ∀ i, i < 8 → a.testBit i = true → b.testBit i = true) : pc a ≤ pc b := by
  by_cases c : ∃ i, i < 8 ∧ a.testBit i = false ∧ b.testBit i = true
  · exact Nat.le_of_lt (pc_lt h c)
  · refine Nat.le_of_eq ?_
    unfold pc
    congr 1
    refine List.filter_congr fun i hi => ?_
    have hi := List.mem_range.1 hi
    cases ha : a.testBit i
    · cases hb : b.testBit i
      · rfl
      · exact absurd ⟨i, hi, ha, hb⟩ c
    · exact (h i hi ha).symm
theorem bit_lt8 {a i : Nat} (h : a < 256) (hb : a.testBit i = true) : i < 8 := by
  rcases Nat.lt_or_ge i 8 with q | q
  · exact q
  · rw [Nat.testBit_lt_two_pow (Nat.lt_of_lt_of_le h (Nat.pow_le_pow_right (by decide) q : 2 ^ 8 ≤ 2 ^ i))] at hb; cases hb
theorem pc_three {K a b c : Nat} (hK : K < 256) (ha : K.testBit a = true) (hb : K.testBit b = true) (hc : K.testBit c = true) (h1 : a ≠ b) (h2 : a ≠ c) (h3 : b ≠ c) : 3 ≤ pc K := by
  have la := bit_lt8 hK ha
  have lb := bit_lt8 hK hb
  have lc := bit_lt8 hK hc
  have e0 : pc 0 = 0 := by decide
  have e1 : pc 0 < pc (2 ^ a) := pc_lt (fun i _ h => by simp at h) ⟨a, la, by simp, by simp⟩
  have e2 : pc (2 ^ a) < pc (2 ^ a ||| 2 ^ b) := pc_lt (fun i _ h => by rw [Nat.testBit_or, h, Bool.true_or]) ⟨b, lb, by rw [Nat.testBit_two_pow_of_ne h1], by rw [Nat.testBit_or]; simp⟩
  have e3 : pc (2 ^ a ||| 2 ^ b) < pc (2 ^ a ||| 2 ^ b ||| 2 ^ c) := pc_lt (fun i _ h => by rw [Nat.testBit_or, h, Bool.true_or]) ⟨c, lc, by rw [Nat.testBit_or, Nat.testBit_two_pow_of_ne h2, Nat.testBit_two_pow_of_ne h3]; rfl, by rw [Nat.testBit_or]; simp⟩
  have e4 : pc (2 ^ a ||| 2 ^ b ||| 2 ^ c) ≤ pc K := pc_mono fun i _ h => by
    rw [Nat.testBit_or, Nat.testBit_or, Nat.testBit_two_pow, Nat.testBit_two_pow, Nat.testBit_two_pow] at h
    simp only [Bool.or_eq_true, decide_eq_true_eq] at h
    rcases h with (rfl | rfl) | rfl <;> assumption
  omega
/-! ### who is reached by two -/
/-- b is p, or p beats b, or one whom p beats does -/
def nk (t : List Int) (p b : Nat) : Prop := b = p ∨ bt t p b = true ∨ ∃ e, bt t p e = true ∧ bt t e b = true
theorem mem_els {s e : Nat} : e ∈ els s ↔ e < 8 ∧ s.testBit e = true := by
  simp only [els, List.mem_filter, List.mem_range]
theorem el_of {s e : Nat} (h : e < 8) (hb : s.testBit e = true) : ∃ k, k < pc s ∧ el s k = e := by
  obtain ⟨k, hk, hv⟩ := List.getElem_of_mem (mem_els.2 ⟨h, hb⟩)
  exact ⟨k, hk, by rw [el, List.getD_eq_getElem?_getD, List.getElem?_eq_getElem hk]; exact hv⟩
theorem nrV_bit {t : List Int} {p b : Nat} : ∀ k, (nrV t p k).testBit b = true ↔ b = p ∨ bt t p b = true ∨ ∃ j, j < k ∧ bt t (el (sn t p) j) b = true
  | 0 => by
    simp only [nrV, Nat.testBit_or, Nat.testBit_two_pow, Bool.or_eq_true, decide_eq_true_eq]
    constructor
    · rintro (h | h)
      · exact .inl h.symm
      · exact .inr (.inl h)
    · rintro (h | h | ⟨j, hj, _⟩)
      · exact .inl h.symm
      · exact .inr h
      · omega
  | k + 1 => by
    rw [nrV, Nat.testBit_or, Bool.or_eq_true, nrV_bit k]
    constructor
    · rintro ((h | h | ⟨j, hj, h⟩) | h)
      · exact .inl h
      · exact .inr (.inl h)
      · exact .inr (.inr ⟨j, by omega, h⟩)
      · exact .inr (.inr ⟨k, by omega, h⟩)
    · rintro (h | h | ⟨j, hj, h⟩)
      · exact .inl (.inl h)
      · exact .inl (.inr (.inl h))
      · rcases Nat.lt_or_ge j k with q | q
        · exact .inl (.inr (.inr ⟨j, q, h⟩))
        · have : j = k := by omega
          subst this
          exact .inr h
theorem nrE_bit {t : List Int} (h : Tn t) {p b : Nat} : (nrE t p).testBit b = true ↔ nk t p b := by
  rw [nrE, nrV_bit]
  constructor
  · rintro (q | q | ⟨j, hj, q⟩)
    · exact .inl q
    · exact .inr (.inl q)
    · exact .inr (.inr ⟨_, (el_mem hj).1, q⟩)
  · rintro (q | q | ⟨e, q1, q2⟩)
    · exact .inl q
    · exact .inr (.inl q)
    · obtain ⟨k, hk, rfl⟩ := el_of (bit_lt8 (h.sn p).1 q1) q1
      exact .inr (.inr ⟨k, hk, q2⟩)
/-- p is a king -/
def king (t : List Int) (p : Nat) : Prop := ∀ b, b < t.length → nk t p b
theorem nk_lt {t : List Int} (h : Tn t) {p b : Nat} (hp : p < t.length) (k : nk t p b) : b < t.length := by
  rcases k with rfl | q | ⟨e, _, q⟩
  · exact hp
  · exact (h.lt q).2
  · exact (h.lt q).2
theorem nrE_king {t : List Int} (h : Tn t) {p : Nat} (hp : p < t.length) : nrE t p = alls t.length ↔ king t p := by
  constructor
  · intro e b hb
    rw [← nrE_bit h, e, alls_bit]; simpa using hb
  · intro k
    apply Nat.eq_of_testBit_eq; intro b
    rw [alls_bit]
    by_cases q : b < t.length
    · rw [(nrE_bit h).2 (k b q)]; simp [q]
    · simp only [q, decide_false]
      cases c : (nrE t p).testBit b
      · rfl
      · exact absurd (nk_lt h hp ((nrE_bit h).1 c)) q
theorem kgV_bit {t : List Int} (h : Tn t) {b : Nat} : ∀ j, j ≤ t.length → ((kgV t j).testBit b = true ↔ b < j ∧ king t b)
  | 0, _ => by simp [kgV]
  | j + 1, hj => by
    have ih := kgV_bit h (b := b) j (by omega)
    simp only [kgV]
    split
    · rename_i c
      have hk := (nrE_king h (show j < t.length by omega)).1 c
      rw [Nat.testBit_or, Bool.or_eq_true, ih, Nat.testBit_two_pow, decide_eq_true_eq]
      constructor
      · rintro (⟨q1, q2⟩ | rfl)
        · exact ⟨by omega, q2⟩
        · exact ⟨by omega, hk⟩
      · rintro ⟨q1, q2⟩
        by_cases e : b = j
        · exact .inr e.symm
        · exact .inl ⟨by omega, q2⟩
    · rename_i c
      rw [ih]
      constructor
      · rintro ⟨q1, q2⟩; exact ⟨by omega, q2⟩
      · rintro ⟨q1, q2⟩
        refine ⟨?_, q2⟩
        by_cases e : b = j
        · subst e; exact absurd ((nrE_king h (by omega)).2 q2) c
        · omega
/-! ### the greatest score within a set -/
theorem ex_max (f : Nat → Nat) (S : Nat → Prop) : ∀ n, (∃ i, i < n ∧ S i) → ∃ i, (i < n ∧ S i) ∧ ∀ j, j < n → S j → f j ≤ f i
  | 0, h => by obtain ⟨i, h, _⟩ := h; omega
  | n + 1, h => by
    by_cases c : ∃ i, i < n ∧ S i
    · obtain ⟨i, ⟨h1, h2⟩, h3⟩ := ex_max f S n c
      by_cases d : S n ∧ f i < f n
      · refine ⟨n, ⟨by omega, d.1⟩, fun j hj hS => ?_⟩
        rcases Nat.lt_or_ge j n with q | q
        · have := h3 j q hS; omega
        · have : j = n := by omega
          subst this; exact Nat.le_refl _
      · refine ⟨i, ⟨by omega, h2⟩, fun j hj hS => ?_⟩
        rcases Nat.lt_or_ge j n with q | q
        · exact h3 j q hS
        · have : j = n := by omega
          subst this
          have : ¬ f i < f j := fun e => d ⟨hS, e⟩
          omega
    · obtain ⟨i, h1, h2⟩ := h
      have : i = n := by
        rcases Nat.lt_or_ge i n with q | q
        · exact absurd ⟨i, q, h2⟩ c
        · omega
      subst this
      refine ⟨i, ⟨h1, h2⟩, fun j hj hS => ?_⟩
      rcases Nat.lt_or_ge j i with q | q
      · exact absurd ⟨j, q, hS⟩ c
      · have : j = i := by omega
        subst this; exact Nat.le_refl _
/-- whoever has the greatest score within S reaches all of S by two -/
theorem max_nk {t : List Int} (h : Tn t) {S u : Nat} (hu : S.testBit u = true) (hun : u < t.length) (hS : ∀ j, S.testBit j = true → j < t.length)
    (hmax : ∀ j, j < t.length → S.testBit j = true → pc (sn t j &&& S) ≤ pc (sn t u &&& S)) {w : Nat} (hw : S.testBit w = true) : w = u ∨ bt t u w = true ∨ ∃ e, S.testBit e = true ∧ bt t u e = true ∧ bt t e w = true := by
  apply Classical.byContradiction
  intro hn
  have hne : w ≠ u := fun e => hn (.inl e)
  have h1 : bt t u w = false := by
    cases c : bt t u w
    · rfl
    · exact absurd (.inr (.inl c)) hn
  have hwn := hS w hw
  have hwu : bt t w u = true := by rw [h.tot hwn hun hne, h1]; rfl
  have h2 : ∀ e, S.testBit e = true → bt t u e = true → bt t w e = true := fun e he hb => by
    have hen := hS e he
    have c1 : e ≠ w := by rintro rfl; rw [h1] at hb; cases hb
    have c2 : bt t e w = false := by
      cases c : bt t e w
      · rfl
      · exact absurd (.inr (.inr ⟨e, he, hb, c⟩)) hn
    rw [h.tot hwn hen (Ne.symm c1), c2]; rfl
  have hlt : pc (sn t u &&& S) < pc (sn t w &&& S) := by
    refine pc_lt (fun i _ q => ?_) ⟨u, by have := h.s.2; omega, ?_, ?_⟩
    · rw [Nat.testBit_and, Bool.and_eq_true] at q ⊢
      exact ⟨h2 i q.2 q.1, q.2⟩
    · rw [Nat.testBit_and, show (sn t u).testBit u = false from h.irr u]; rfl
    · rw [Nat.testBit_and, show (sn t w).testBit u = true from hwu, hu]; rfl
  have := hmax w hwn hw
  omega
theorem and_alls {t : List Int} (h : Tn t) (j : Nat) : sn t j &&& alls t.length = sn t j := by
  apply Nat.eq_of_testBit_eq; intro b
  rw [Nat.testBit_and, alls_bit]
  cases c : (sn t j).testBit b
  · rfl
  · have := (h.lt (i := j) (j := b) c).2
    simp [this]
theorem max_king {t : List Int} (h : Tn t) {u : Nat} (hu : u < t.length) (hmax : ∀ j, j < t.length → pc (sn t j) ≤ pc (sn t u)) : king t u := fun b hb => by
  have := max_nk h (S := alls t.length) (u := u) (by rw [alls_bit]; simpa using hu) hu (fun j hj => by rw [alls_bit] at hj; simpa using hj)
    (fun j hj _ => by rw [and_alls h, and_alls h]; exact hmax j hj) (w := b) (by rw [alls_bit]; simpa using hb)
  rcases this with q | q | ⟨e, _, q⟩
  · exact .inl q
  · exact .inr (.inl q)
  · exact .inr (.inr ⟨e, q⟩)
theorem ex_king {t : List Int} (h : Tn t) : ∃ u, u < t.length ∧ king t u := by
  obtain ⟨u, ⟨h1, _⟩, h2⟩ := ex_max (fun j => pc (sn t j)) (fun _ => True) t.length ⟨0, h.s.1, trivial⟩
  exact ⟨u, h1, max_king h h1 fun j hj => h2 j hj trivial⟩
/-- the players who beat v -/
def over (t : List Int) (v : Nat) : Nat → Nat
  | 0 => 0
  | j + 1 => if bt t j v then over t v j ||| 2 ^ j else over t v j
theorem over_bit {t : List Int} {v b : Nat} : ∀ j, (over t v j).testBit b = true ↔ b < j ∧ bt t b v = true
  | 0 => by simp [over]
  | j + 1 => by
    have ih := @over_bit t v b j
    simp only [over]
    split
    · rename_i c
      rw [Nat.testBit_or, Bool.or_eq_true, ih, Nat.testBit_two_pow, decide_eq_true_eq]
      constructor
      · rintro (⟨q1, q2⟩ | rfl)
        · exact ⟨by omega, q2⟩
        · exact ⟨by omega, c⟩
      · rintro ⟨q1, q2⟩
        by_cases e : b = j
        · exact .inr e.symm
        · exact .inl ⟨by omega, q2⟩
    · rename_i c
      rw [ih]
      constructor
      · rintro ⟨q1, q2⟩; exact ⟨by omega, q2⟩
      · rintro ⟨q1, q2⟩
        refine ⟨?_, q2⟩
        by_cases e : b = j
        · subst e; exact absurd q2 c
        · omega
/-- who is beaten is beaten by a king -/
theorem king_over {t : List Int} (h : Tn t) {v x : Nat} (hv : v < t.length) (hx : bt t x v = true) : ∃ u, u < t.length ∧ king t u ∧ bt t u v = true := by
  have hS : ∀ j, (over t v t.length).testBit j = true → j < t.length := fun j hj => ((over_bit _).1 hj).1
  obtain ⟨u, ⟨h1, h2⟩, h3⟩ := ex_max (fun j => pc (sn t j &&& over t v t.length)) (fun j => (over t v t.length).testBit j = true) t.length ⟨x, (h.lt hx).1, (over_bit _).2 ⟨(h.lt hx).1, hx⟩⟩
  have huv := ((over_bit _).1 h2).2
  refine ⟨u, h1, fun b hb => ?_, huv⟩
  by_cases c : bt t b v = true
  · rcases max_nk h h2 h1 hS h3 (w := b) ((over_bit _).2 ⟨hb, c⟩) with q | q | ⟨e, _, q⟩
    · exact .inl q
    · exact .inr (.inl q)
    · exact .inr (.inr ⟨e, q⟩)
  · by_cases e : b = v
    · subst e; exact .inr (.inl huv)
    · refine .inr (.inr ⟨v, huv, ?_⟩)
      rw [h.tot hv hb (Ne.symm e)]
      simpa using c
/-- a player beats all others -/
def allb (t : List Int) (i : Nat) : Prop := ∀ j, j < t.length → j ≠ i → bt t i j = true
abbrev kgs (t : List Int) : Nat := kgV t t.length
theorem kgs_lt {t : List Int} (h : Tn t) : kgs t < 256 := kgV_lt h.s.2
theorem kgs_bit {t : List Int} (h : Tn t) {b : Nat} : (kgs t).testBit b = true ↔ b < t.length ∧ king t b := kgV_bit h t.length (Nat.le_refl _)
theorem kgs_pow {t : List Int} (h : Tn t) : kgs t < 2 ^ t.length := by
  apply Nat.lt_of_not_le
  intro hle
  obtain ⟨i, h1, h2⟩ := Nat.exists_ge_and_testBit_of_ge_two_pow hle
  have := ((kgs_bit h).1 h2).1
  omega
theorem kgs_pos {t : List Int} (h : Tn t) : 0 < kgs t := by
  obtain ⟨u, h1, h2⟩ := ex_king h
  rcases Nat.eq_zero_or_pos (kgs t) with q | q
  · have := (kgs_bit h).2 ⟨h1, h2⟩
    rw [q] at this; simp at this
  · exact q
theorem kgs_one {t : List Int} (h : Tn t) {i : Nat} (hi : i < t.length) (ha : allb t i) : pc (kgs t) = 1 := by
  have e : kgs t = 2 ^ i := by
    apply Nat.eq_of_testBit_eq; intro b
    rw [Nat.testBit_two_pow]
    by_cases q : i = b
    · subst q
      simp only [decide_true]
      refine (kgs_bit h).2 ⟨hi, fun b hb => ?_⟩
      by_cases e : b = i
      · exact .inl e
      · exact .inr (.inl (ha b hb e))
    · simp only [q, decide_false]
      cases c : (kgs t).testBit b
      · rfl
      · exfalso
        obtain ⟨hb, hk⟩ := (kgs_bit h).1 c
        have hbi : ∀ e, e ≠ i → e < t.length → bt t e i = false := fun e he hl => by
          rw [h.tot hl hi he, ha e hl he]; rfl
        rcases hk i hi with r | r | ⟨e, r1, r2⟩
        · exact q r
        · rw [hbi b (Ne.symm q) hb] at r; cases r
        · have hel := (h.lt r2).1
          by_cases w : e = i
          · subst w; rw [hbi b (Ne.symm q) hb] at r1; cases r1
          · rw [hbi e w hel] at r2; cases r2
  rw [e]
  have := h.s.2
  have : i = 0 ∨ i = 1 ∨ i = 2 ∨ i = 3 ∨ i = 4 ∨ i = 5 ∨ i = 6 ∨ i = 7 := by omega
  rcases this with rfl | rfl | rfl | rfl | rfl | rfl | rfl | rfl <;> decide
theorem not_allb {t : List Int} (h : Tn t) {i : Nat} (hi : i < t.length) (ha : ¬ allb t i) : ∃ x, bt t x i = true := by
  apply Classical.byContradiction
  intro hn
  refine ha fun j hj hne => ?_
  rw [h.tot hi hj (Ne.symm hne)]
  cases c : bt t j i
  · rfl
  · exact absurd ⟨j, c⟩ hn
theorem kgs_three {t : List Int} (h : Tn t) (hn : ∀ i, i < t.length → ¬ allb t i) : 3 ≤ pc (kgs t) := by
  obtain ⟨a, ha, ka⟩ := ex_king h
  obtain ⟨x, hx⟩ := not_allb h ha (hn a ha)
  obtain ⟨b, hb, kb, hba⟩ := king_over h ha hx
  obtain ⟨y, hy⟩ := not_allb h hb (hn b hb)
  obtain ⟨c, hc, kc, hcb⟩ := king_over h hb hy
  have n1 : a ≠ b := by rintro rfl; rw [h.irr] at hba; cases hba
  have n3 : b ≠ c := by rintro rfl; rw [h.irr] at hcb; cases hcb
  have n2 : a ≠ c := by
    rintro rfl
    rw [h.tot ha hb n1, hba] at hcb; cases hcb
  exact pc_three (kgs_lt h) ((kgs_bit h).2 ⟨ha, ka⟩) ((kgs_bit h).2 ⟨hb, kb⟩) ((kgs_bit h).2 ⟨hc, kc⟩) n1 n2 n3
/-- all players but one -/
theorem pc_others : ∀ n, n < 9 → ∀ i, i < n → pc ((alls n) ^^^ 2 ^ i) = n - 1 := by decide +kernel
theorem score_all {t : List Int} (h : Tn t) {i : Nat} (hi : i < t.length) : pc (sn t i) = t.length - 1 ↔ allb t i := by
  have h8 := h.s.2
  have ho := pc_others t.length (by omega) i hi
  have hbit : ∀ b, (alls t.length ^^^ 2 ^ i).testBit b = (decide (b < t.length) && decide (b ≠ i)) := fun b => by
    rw [Nat.testBit_xor, alls_bit, Nat.testBit_two_pow]
    by_cases q : b = i
    · subst q; simp [hi]
    · have : ¬ i = b := fun e => q e.symm
      simp [q, this]
  constructor
  · intro e j hj hne
    apply Classical.byContradiction
    intro hb
    have hb : bt t i j = false := by simpa using hb
    have : pc (sn t i) < pc (alls t.length ^^^ 2 ^ i) := by
      refine pc_lt (fun b _ q => ?_) ⟨j, by omega, hb, by rw [hbit]; simp [hj, hne]⟩
      rw [hbit]
      have := (h.lt (i := i) (j := b) q).2
      have hne : b ≠ i := by rintro rfl; rw [show (sn t b).testBit b = false from h.irr b] at q; cases q
      simp [this, hne]
    omega
  · intro ha
    rw [← ho]
    congr 1
    apply Nat.eq_of_testBit_eq; intro b
    rw [hbit]
    by_cases q : b < t.length ∧ b ≠ i
    · rw [show (sn t i).testBit b = true from ha b q.1 q.2]; simp [q]
    · cases c : (sn t i).testBit b
      · simp only [Bool.false_eq, Bool.and_eq_false_iff, decide_eq_false_iff_not]
        by_cases q1 : b < t.length
        · exact .inr fun e => q ⟨q1, e⟩
        · exact .inl q1
      · have := (h.lt (i := i) (j := b) c).2
        have hne : b ≠ i := by rintro rfl; rw [show (sn t b).testBit b = false from h.irr b] at c; cases c
        exact absurd ⟨this, hne⟩ q
end Go.Proofs.Rnk

