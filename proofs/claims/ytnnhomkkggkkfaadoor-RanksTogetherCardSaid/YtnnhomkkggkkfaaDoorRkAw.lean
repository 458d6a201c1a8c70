/- Layer 2: in the best order parts stand together, the mathematics. -/
import Derived.Test.YtnnhomkkggkkfaaDoorRkAv
import Derived.Test.YtnnhomkkggkkfaaDoorRkAd
set_option linter.unusedSimpArgs false
set_option linter.unusedVariables false
set_option linter.unnecessarySimpa false
set_option maxRecDepth 100000
namespace Go.Proofs.Rnk
open Go Go.VM
open Go.Proofs.Sur (andn andn_bit andn_le)

/-- the set of some of an order -/
def sO (o : Nat → Nat) (a : Nat) : Nat → Nat
  | 0 => 0
  | j + 1 => sO o a j ||| 2 ^ o (a + j)
theorem sO_bit {o : Nat → Nat} {a b : Nat} : ∀ j, (sO o a j).testBit b = true ↔ ∃ i, i < j ∧ o (a + i) = b
  | 0 => by simp [sO]
  | j + 1 => by
    rw [sO, Nat.testBit_or, Bool.or_eq_true, sO_bit j, Nat.testBit_two_pow, decide_eq_true_eq]
    constructor
    · rintro (⟨i, h1, h2⟩ | h)
      · exact ⟨i, by omega, h2⟩
      · exact ⟨j, by omega, h⟩
    · rintro ⟨i, h1, h2⟩
      rcases Nat.lt_or_ge i j with q | q
      · exact .inl ⟨i, q, h2⟩
      · have : i = j := by omega
        subst this; exact .inr h2
theorem sO_lt {o : Nat → Nat} {a j : Nat} (h : ∀ i, i < j → o (a + i) < 8) : sO o a j < 256 := by
  apply lt_of_bits (n := 8)
  intro i hi
  obtain ⟨k, h1, h2⟩ := (sO_bit j).1 hi
  have := h k h1
  omega
abbrev bo (t : List Int) (k : Nat) : Nat := oo (sn t) (alls t.length) k
abbrev br (t : List Int) (k : Nat) : Nat := ro (sn t) (alls t.length) k
theorem br_bit {t : List Int} (h : Tn t) (k b : Nat) : (br t k).testBit b = true ↔ b < t.length ∧ ∀ j, j < k → bo t j ≠ b := by
  show (ro _ _ k).testBit b = true ↔ _
  rw [ro_rs, rs_bit (alls_lt h.s.2) k, alls_bit, decide_eq_true_eq]
theorem br_pc {t : List Int} (h : Tn t) {k : Nat} (hk : k ≤ t.length) : pc (br t k) + k = t.length := by
  have hA := alls_lt h.s.2
  have hp := pc_alls t.length (by have := h.s.2; omega)
  have := rs_pc hA (oo_way (A := sn t) hA) k (by omega)
  show pc (ro _ _ k) + k = _
  rw [ro_rs, this, hp]
theorem br_at {t : List Int} (h : Tn t) {k : Nat} (hk : k < t.length) : (br t k).testBit (bo t k) = true := by
  have hA := alls_lt h.s.2
  have hp := pc_alls t.length (by have := h.s.2; omega)
  have := oo_way (A := sn t) hA k (by omega)
  show (ro _ _ k).testBit _ = true
  rw [ro_rs]; exact this
theorem bo_lt {t : List Int} (h : Tn t) {k : Nat} (hk : k < t.length) : bo t k < t.length := fp_in h hk
/-- each beats the next one -/
theorem bo_next {t : List Int} (h : Tn t) {k : Nat} (hk : k + 1 < t.length) : bt t (bo t k) (bo t (k + 1)) = true := by
  have hA := alls_lt h.s.2
  have hp := pc_alls t.length (by have := h.s.2; omega)
  have h1 := ro_pos (A := sn t) hA (k := k) (by omega)
  have h2 := ro_pos (A := sn t) hA (k := k + 1) (by omega)
  have hb := next_beat (A := sn t) (ro_lt hA k) (p := bo t k) (q := bo t (k + 1)) rfl rfl h1 h2
  have hne : bo t (k + 1) ≠ bo t k := fun e => by
    have := ((br_bit h (k + 1) (bo t (k + 1))).1 (br_at h hk)).2 k (by omega)
    exact this e.symm
  cases c : bt t (bo t k) (bo t (k + 1))
  · exfalso; apply hb
    refine ⟨?_, c⟩
    show bt t (bo t (k + 1)) (bo t k) = true
    rw [h.tot (bo_lt h hk) (bo_lt h (by omega)) hne, c]; rfl
  · rfl
theorem br_mem {t : List Int} (h : Tn t) {k b : Nat} (hb : (br t k).testBit b = true) : ∃ j, k ≤ j ∧ j < t.length ∧ bo t j = b := by
  have h1 := (br_bit h k b).1 hb
  have h0 : br t t.length = 0 := by
    have hA := alls_lt h.s.2
    have hp := pc_alls t.length (by have := h.s.2; omega)
    have := ro_zero (A := sn t) hA
    rw [hp] at this; exact this
  have h2 : ¬ (br t t.length).testBit b = true := by rw [h0]; simp
  rw [br_bit h] at h2
  have : ∃ j, j < t.length ∧ bo t j = b := by
    apply Classical.byContradiction
    intro hn
    exact h2 ⟨h1.1, fun j hj e => hn ⟨j, hj, e⟩⟩
  obtain ⟨j, h3, h4⟩ := this
  exact ⟨j, Nat.le_of_not_lt fun q => h1.2 j q h4, h3, h4⟩
/-- a player reaches those that stand behind it -/
theorem bo_reach {t : List Int} (h : Tn t) : ∀ {d k : Nat}, k + d < t.length → (rch t (bo t k)).testBit (bo t (k + d)) = true
  | 0, k, _ => rch_self t _
  | d + 1, k, hk => by
    have h1 := bo_reach h (d := d) (k := k) (by omega)
    have h2 := bo_next h (k := k + d) (by omega)
    exact rch_trans h (bo_lt h (by omega)) h1 _ (rch_bt h h2)
theorem pc_disj {P R S : Nat} (hP : ∀ b, P.testBit b = true → S.testBit b = true) (hR : ∀ b, R.testBit b = true → S.testBit b = true) (hd : ∀ b, P.testBit b = true → R.testBit b = true → False) : pc P + pc R ≤ pc S := by
  rw [pc_sm, pc_sm R, pc_sm S, ← sm_add]
  apply sm_le
  intro b _
  have h1 := hP b; have h2 := hR b; have h3 := hd b
  revert h1 h2 h3
  cases P.testBit b <;> cases R.testBit b <;> cases S.testBit b <;> simp
theorem pc_eq {A B : Nat} (hA : A < 256) (hB : B < 256) (h : ∀ b, A.testBit b = true → B.testBit b = true) (e : pc B ≤ pc A) : A = B := by
  apply Nat.eq_of_testBit_eq
  intro i
  cases c : A.testBit i
  · cases d : B.testBit i
    · rfl
    · exfalso
      have := pc_lt (a := A) (b := B) (fun i _ => h i) ⟨i, bit_lt8 hB d, c, d⟩
      omega
  · rw [h i c]
/-- where the parts begin -/
def pa (t : List Int) : Nat → Nat
  | 0 => 0
  | k + 1 => pa t k + pc (pp t (rst t k))
theorem pp_sub {t : List Int} {S b : Nat} (hb : (pp t S).testBit b = true) : S.testBit b = true := ((pA_bit t.length).1 hb).2.1
theorem pp_mem {t : List Int} {S b : Nat} : (pp t S).testBit b = true ↔ b < t.length ∧ inp t S b := pA_bit t.length
/-- in the best order the first part of who is left stands first -/
theorem seg {t : List Int} (h : Tn t) {k a : Nat} (e : br t a = rst t k) : ∀ j, j < pc (pp t (rst t k)) → a + j < t.length ∧ (pp t (rst t k)).testBit (bo t (a + j)) = true := by
  have hin := rst_in h k
  have hS8 := rst_lt h k
  have hP8 := pA_lt (t := t) (j := t.length) hS8
  -- who stands before one of the part is of the part
  have down : ∀ i j, a ≤ i → i ≤ j → j < t.length → (pp t (rst t k)).testBit (bo t j) = true → (pp t (rst t k)).testBit (bo t i) = true := fun i j hi hij hj hb => by
    have hiS : (rst t k).testBit (bo t i) = true := by
      rw [← e, br_bit h]
      have := (br_bit h i (bo t i)).1 (br_at h (by omega))
      exact ⟨this.1, fun m hm => this.2 m (by omega)⟩
    refine pp_mem.2 ⟨bo_lt h (by omega), hiS, and_sub.2 fun b hb' => ?_⟩
    have h1 := and_sub.1 (pp_mem.1 hb).2.2 b hb'
    obtain ⟨d, rfl⟩ : ∃ d, j = i + d := ⟨j - i, by omega⟩
    exact rch_trans h (bo_lt h (by omega)) (bo_reach h hj) b h1
  intro j hj
  have ha : a ≤ t.length := by
    apply Nat.le_of_not_lt
    intro hn
    have : rst t k = 0 := by
      rw [← e]
      apply Nat.eq_of_testBit_eq
      intro i
      cases c : (br t a).testBit i
      · simp
      · exfalso
        obtain ⟨m, h1, h2, _⟩ := br_mem h c
        omega
    rw [this] at hj
    have h0 : pp t 0 = 0 := by
      apply Nat.eq_of_testBit_eq
      intro i
      cases c : (pp t 0).testBit i
      · simp
      · have := pp_sub c; simp at this
    rw [h0] at hj
    have : pc 0 = 0 := by decide
    omega
  have hpa := br_pc h ha
  have hle : pc (pp t (rst t k)) ≤ pc (rst t k) := pc_mono fun i _ hi => pp_sub hi
  rw [← e] at hle
  have haj : a + j < t.length := by rw [e] at hle; rw [e] at hpa; omega
  refine ⟨haj, ?_⟩
  cases c : (pp t (rst t k)).testBit (bo t (a + j))
  · exfalso
    have hpj := br_pc h (k := a + j) (by omega)
    have hd := pc_disj (P := pp t (rst t k)) (R := br t (a + j)) (S := rst t k) (fun b hb => pp_sub hb) (fun b hb => by
      rw [← e]; rw [br_bit h] at hb ⊢; exact ⟨hb.1, fun m hm => hb.2 m (by omega)⟩) (fun b hb hr => by
      obtain ⟨m, h1, h2, h3⟩ := br_mem h hr
      have := down (a + j) m (by omega) h1 h2 (by rw [h3]; exact hb)
      rw [c] at this; cases this)
    rw [← e] at hd
    rw [e] at hd hpa
    omega
  · rfl
theorem pp_pos {t : List Int} (h : Tn t) {k : Nat} (h0 : rst t k ≠ 0) : 0 < pc (pp t (rst t k)) := by
  obtain ⟨i, hi, hin⟩ := ex_in h h0
  have hb : (pp t (rst t k)).testBit i = true := pp_mem.2 ⟨hi, hin⟩
  exact pc_pos_of (Nat.pos_of_ne_zero fun q => by rw [q] at hb; simp at hb) (pA_lt (rst_lt h k))
theorem seg_next {t : List Int} (h : Tn t) {k a : Nat} (h0 : rst t k ≠ 0) (e : br t a = rst t k) : a + pc (pp t (rst t k)) ≤ t.length ∧ br t (a + pc (pp t (rst t k))) = rst t (k + 1) ∧ sO (bo t) a (pc (pp t (rst t k))) = pp t (rst t k) := by
  have hs := seg h e
  have hS8 := rst_lt h k
  have hP8 := pA_lt (t := t) (j := t.length) hS8
  have hpos := pp_pos h h0
  have hal : a + pc (pp t (rst t k)) ≤ t.length := by
    have := (hs (pc (pp t (rst t k)) - 1) (by omega)).1
    omega
  have e2 : rst t (k + 1) = br t (a + pc (pp t (rst t k))) := by
    refine pc_eq (rst_lt h _) (ro_lt (alls_lt h.s.2) _) (fun b hb => ?_) ?_
    · obtain ⟨h1, h2⟩ := (rst_bit h k b).1 hb
      rw [← e, br_bit h] at h1
      refine (br_bit h _ b).2 ⟨h1.1, fun j hj ej => ?_⟩
      rcases Nat.lt_or_ge j a with q | q
      · exact h1.2 j q ej
      · obtain ⟨d, rfl⟩ : ∃ d, j = a + d := ⟨j - a, by omega⟩
        have := (hs d (by omega)).2
        rw [ej] at this; exact h2 this
    · have h1 := br_pc h (k := a) (by omega)
      have h2 := br_pc h hal
      have h3 : pc (rst t k) ≤ pc (pp t (rst t k) ||| rst t (k + 1)) := pc_mono fun i _ hi => by
        rw [Nat.testBit_or, Bool.or_eq_true]
        cases c : (pp t (rst t k)).testBit i
        · exact .inr ((rst_bit h k i).2 ⟨hi, by rw [c]; simp⟩)
        · exact .inl rfl
      have h4 := pc_or (pp t (rst t k)) (rst t (k + 1))
      rw [e] at h1
      omega
  refine ⟨hal, e2.symm, ?_⟩
  apply Nat.eq_of_testBit_eq
  intro b
  have key : (sO (bo t) a (pc (pp t (rst t k)))).testBit b = true ↔ (pp t (rst t k)).testBit b = true := by
    rw [sO_bit]
    constructor
    · rintro ⟨i, h1, h2⟩
      rw [← h2]; exact (hs i h1).2
    · intro hb
      have h1 : ¬ (rst t (k + 1)).testBit b = true := fun q => ((rst_bit h k b).1 q).2 hb
      have h2 := pp_sub hb
      rw [← e, br_bit h] at h2
      rw [e2, br_bit h] at h1
      have : ∃ j, j < a + pc (pp t (rst t k)) ∧ bo t j = b := by
        apply Classical.byContradiction
        intro hn
        exact h1 ⟨h2.1, fun j hj ej => hn ⟨j, hj, ej⟩⟩
      obtain ⟨j, h3, h4⟩ := this
      have hja : a ≤ j := Nat.le_of_not_lt fun q => h2.2 j q h4
      exact ⟨j - a, by omega, by rw [show a + (j - a) = j by omega]; exact h4⟩
  cases c : (pp t (rst t k)).testBit b
  · cases d : (sO (bo t) a (pc (pp t (rst t k)))).testBit b
    · rfl
    · rw [key.1 d] at c; cases c
  · exact key.2 c
/-- those of a part beat all who are left behind it -/
theorem pp_beats {t : List Int} (h : Tn t) {k i b : Nat} (hi : (pp t (rst t k)).testBit i = true) (hb : (rst t (k + 1)).testBit b = true) : bt t i b = true := by
  obtain ⟨h1, h2⟩ := (rst_bit h k b).1 hb
  obtain ⟨hil, hiS, hir⟩ := pp_mem.1 hi
  have hbl := rst_in h k b h1
  have hne : i ≠ b := fun e => h2 (e ▸ hi)
  cases c : bt t i b
  · exfalso; apply h2
    have hbi : bt t b i = true := by rw [h.tot hbl hil (Ne.symm hne), c]; rfl
    exact pp_mem.2 ⟨hbl, h1, and_sub.2 fun d hd => rch_trans h hbl (rch_bt h hbi) d (and_sub.1 hir d hd)⟩
  · rfl
theorem pa_br {t : List Int} (h : Tn t) : ∀ k, k ≤ mP t → br t (pa t k) = rst t k ∧ pa t k ≤ t.length
  | 0, _ => ⟨rfl, Nat.zero_le _⟩
  | k + 1, hk => by
    have ih := pa_br h k (by omega)
    have := seg_next h ((mP_spec h).2.2 k (by omega)) ih.1
    exact ⟨this.2.1, this.1⟩
theorem pa_end {t : List Int} (h : Tn t) : pa t (mP t) = t.length := by
  obtain ⟨h1, h2⟩ := pa_br h (mP t) (Nat.le_refl _)
  have := br_pc h h2
  rw [h1, (mP_spec h).2.1] at this
  have h0 : pc 0 = 0 := by decide
  omega
/-- who was met -/
def mtv (t : List Int) : Nat → Nat
  | 0 => 0
  | k + 1 => mtv t k ||| pp t (rst t k)
theorem mtv_bit {t : List Int} (h : Tn t) : ∀ k b, (mtv t k).testBit b = true ↔ b < t.length ∧ ¬ (rst t k).testBit b = true
  | 0, b => by
    rw [mtv, rst, alls_bit]; simp
  | k + 1, b => by
    rw [mtv, Nat.testBit_or, Bool.or_eq_true, mtv_bit h k b, rst_bit h k b]
    constructor
    · rintro (⟨h1, h2⟩ | h1)
      · exact ⟨h1, fun q => h2 q.1⟩
      · exact ⟨(pp_mem.1 h1).1, fun q => q.2 h1⟩
    · rintro ⟨h1, h2⟩
      cases c : (rst t k).testBit b
      · exact .inl ⟨h1, by simp⟩
      · right
        apply Classical.byContradiction
        intro hn; exact h2 ⟨c, hn⟩
theorem mtv_lt {t : List Int} (h : Tn t) (k : Nat) : mtv t k < 256 := by
  have := lt_of_bits (n := t.length) (s := mtv t k) fun i hi => ((mtv_bit h k i).1 hi).1
  have := pow8 h.s.2
  omega
theorem pp_mtv {t : List Int} (h : Tn t) (k : Nat) : pp t (rst t k) &&& mtv t k = 0 := by
  apply Nat.eq_of_testBit_eq
  intro b
  rw [Nat.testBit_and, Nat.zero_testBit]
  cases c : (pp t (rst t k)).testBit b
  · rfl
  · cases d : (mtv t k).testBit b
    · rfl
    · exact absurd (pp_sub c) ((mtv_bit h k b).1 d).2
theorem alls_mtv {t : List Int} (h : Tn t) (k : Nat) : andn (alls t.length) (mtv t k) = rst t k := by
  apply Nat.eq_of_testBit_eq
  intro b
  rw [andn_bit (by have := alls_lt h.s.2; omega), alls_bit]
  cases c : (rst t k).testBit b
  · cases d : (mtv t k).testBit b
    · by_cases q : b < t.length
      · have := (mtv_bit h k b).2 ⟨q, by rw [c]; simp⟩
        rw [d] at this; cases this
      · simp [q]
    · simp
  · have h1 := rst_in h k b c
    cases d : (mtv t k).testBit b
    · simp [h1]
    · exact absurd c ((mtv_bit h k b).1 d).2
theorem beat_mtv {t : List Int} (h : Tn t) {k i : Nat} (hi : (pp t (rst t k)).testBit i = true) : andn (sn t i) (mtv t (k + 1)) = rst t (k + 1) := by
  apply Nat.eq_of_testBit_eq
  intro b
  rw [andn_bit (by have := (h.sn i).1; omega)]
  cases c : (rst t (k + 1)).testBit b
  · cases d : (mtv t (k + 1)).testBit b
    · cases e : (sn t i).testBit b
      · rfl
      · have hbl := (h.lt (i := i) (j := b) e).2
        have := (mtv_bit h (k + 1) b).2 ⟨hbl, by rw [c]; simp⟩
        rw [d] at this; cases this
    · simp
  · have h1 : (sn t i).testBit b = true := pp_beats h hi c
    cases d : (mtv t (k + 1)).testBit b
    · rw [h1]; rfl
    · exact absurd c ((mtv_bit h (k + 1) b).1 d).2
end Go.Proofs.Rnk

