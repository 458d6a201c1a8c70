/- Layer 4: parts of classes. -/
import Derived.Test.YtdnidpojcocklaaDoorLoE
import Derived.Test.YtdnidpojcocklaaDoorLnY
set_option linter.unusedSimpArgs false
set_option linter.unusedVariables false
set_option linter.unnecessarySimpa false
set_option maxHeartbeats 200000
set_option maxRecDepth 100000
namespace Go.Proofs.Lrn
open Go Go.VM

abbrev sub (c b : BitVec 32) : Prop := ∀ i, i < 32 → c.getLsbD i = true → b.getLsbD i = true
theorem sub_pc {c b : BitVec 32} (h : sub c b) (hne : c ≠ b) : pc c < pc b := by
  have e : c = b &&& c := by
    apply BitVec.eq_of_getLsbD_eq
    intro i hi
    rw [BitVec.getLsbD_and]
    cases hc : c.getLsbD i
    · simp
    · simp [h i hi hc]
  rw [e]
  apply pc_and_lt
  rw [← e]; exact hne
theorem sub_zero {c : BitVec 32} (h : sub c 0#32) : c = 0#32 := by
  apply BitVec.eq_of_getLsbD_eq
  intro i hi
  cases hc : c.getLsbD i
  · simp
  · have := h i hi hc; simp at this
theorem sub_ne {c b : BitVec 32} (h : sub c b) (hc : c ≠ 0#32) : b ≠ 0#32 := fun e => hc (sub_zero (e ▸ h))
theorem pt_sub {c b : BitVec 32} (h : sub c b) {x : Nat} (hx : x < 5) {y : Int} (hy : y = 0 ∨ y = 1) : sub (pt c (x : Int) y) (pt b (x : Int) y) := by
  intro i hi hb
  rw [pt_bit hx hi hy, Bool.and_eq_true] at hb ⊢
  exact ⟨h i hi hb.1, hb.2⟩
theorem pt_subset {b : BitVec 32} {x : Nat} (hx : x < 5) {y : Int} (hy : y = 0 ∨ y = 1) : sub (pt b (x : Int) y) b := by
  intro i hi hb
  rw [pt_bit hx hi hy, Bool.and_eq_true] at hb
  exact hb.1
theorem dfb_sub {c b : BitVec 32} (h : sub c b) {x : Nat} (hx : x < 5) (hd : dfb c (x : Int) = true) : dfb b (x : Int) = true := by
  rw [dfb_iff] at hd ⊢
  exact ⟨sub_ne (pt_sub h hx (.inl rfl)) hd.1, sub_ne (pt_sub h hx (.inr rfl)) hd.2⟩
/-- all on one side -/
theorem one_side {c : BitVec 32} {x : Nat} (hx : x < 5) (hd : dfb c (x : Int) = false) : c = pt c (x : Int) 0 ∨ c = pt c (x : Int) 1 := by
  have h := (not_congr (dfb_iff (b := c) (x := (x : Int)))).1 (by rw [hd]; decide)
  have key : ∀ i, i < 32 → c.getLsbD i = true → (pt c (x : Int) 0).getLsbD i = true ∨ (pt c (x : Int) 1).getLsbD i = true := by
    intro i hi hc
    rw [pt_bit hx hi (.inl rfl), pt_bit hx hi (.inr rfl), hc]
    have h2 : i / 2 ^ x % 2 < 2 := Nat.mod_lt _ (by decide)
    by_cases e : i / 2 ^ x % 2 = 0
    · left; simp [e]
    · right
      have : i / 2 ^ x % 2 = 1 := by omega
      simp [this]
  have hz : ∀ i, i < 32 → (0#32).getLsbD i = false := fun i _ => by simp
  by_cases h0 : pt c (x : Int) 0 = 0#32
  · right
    apply BitVec.eq_of_getLsbD_eq
    intro i hi
    rw [Bool.eq_iff_iff]
    constructor
    · intro hc
      rcases key i hi hc with h1 | h1
      · rw [h0, hz i hi] at h1; cases h1
      · exact h1
    · exact pt_subset hx (.inr rfl) i hi
  · left
    have h1 : pt c (x : Int) 1 = 0#32 := by
      refine Classical.byContradiction fun hc => h ⟨h0, hc⟩
    apply BitVec.eq_of_getLsbD_eq
    intro i hi
    rw [Bool.eq_iff_iff]
    constructor
    · intro hc
      rcases key i hi hc with h2 | h2
      · exact h2
      · rw [h1, hz i hi] at h2; cases h2
    · exact pt_subset hx (.inl rfl) i hi
theorem dmL_mono {f : BitVec 32 → Int} {b c : BitVec 32} (h : sub c b) (hf : ∀ x : Nat, x < 5 → ∀ y : Int, y = 0 ∨ y = 1 → dfb b (x : Int) = true → f (pt c (x : Int) y) ≤ f (pt b (x : Int) y)) : ∀ j, j ≤ 5 → dmL f c j ≤ dmL f b j
  | 0, _ => Int.le_refl 0
  | j + 1, hj => by
    have ih := dmL_mono h hf j (by omega)
    simp only [dmL]
    by_cases hd : dfb c (j : Int) = true
    · have hd2 := dfb_sub h (by omega) hd
      have h0 := hf j (by omega) 0 (.inl rfl) hd2
      have h1 := hf j (by omega) 1 (.inr rfl) hd2
      rw [if_pos hd, if_pos hd2]
      simp only [pick2, if_true, Bool.false_eq_true, if_false]
      split <;> split <;> split <;> split <;> omega
    · rw [if_neg hd]
      split
      · simp only [pick2, if_true]
        split <;> omega
      · exact ih
theorem dim_mono {p : Int} (hp : p5 p) (n : Nat) : ∀ (b c : BitVec 32), pc b < n → sub c b → dimV p c ≤ dimV p b := by
  induction n with
  | zero => intro _ _ h; omega
  | succ n ih =>
    intro b c h hs
    by_cases hc : c = 0#32
    · rw [hc, dimV_0]; exact (dimV_bd p b).1
    · have hb := sub_ne hs hc
      have hp5 : p.toNat ≤ 5 := by obtain ⟨_, _⟩ := hp; omega
      have hf : ∀ x : Nat, x < 5 → ∀ y : Int, y = 0 ∨ y = 1 → dfb b (x : Int) = true → dimV p (pt c (x : Int) y) ≤ dimV p (pt b (x : Int) y) := by
        intro x hx y hy hd
        have hl := pt_lt (y := y) hd
        have hl2 : pc (pt b (x : Int) y) < n := Nat.lt_of_lt_of_le hl (Nat.le_of_lt_succ h)
        exact ih _ _ hl2 (pt_sub hs hx hy)
      have := dmL_mono (f := dimV p) hs hf p.toNat hp5
      rw [← dimV_eq hc, ← dimV_eq hb] at this
      exact this
theorem pmin_l (a b : Int) : pick2 false a b ≤ a := by simp only [pick2, Bool.false_eq_true, if_false]; split <;> omega
theorem pmin_r (a b : Int) : pick2 false a b ≤ b := by simp only [pick2, Bool.false_eq_true, if_false]; split <;> omega
theorem quL_le {f : BitVec 32 → Int} {b : BitVec 32} {p : Int} {x : Nat} (hd : dfb b (x : Int) = true) : ∀ j, x < j → quL f b p j ≤ 1 + pick2 true (f (pt b (x : Int) 0)) (f (pt b (x : Int) 1))
  | 0, h => by omega
  | j + 1, h => by
    simp only [quL]
    by_cases e : x = j
    · subst e
      rw [if_pos hd]
      exact pmin_r _ _
    · have ih := quL_le (f := f) (p := p) hd j (by omega)
      split
      · exact Int.le_trans (pmin_l _ _) ih
      · exact ih
theorem quL_att {f : BitVec 32 → Int} {b : BitVec 32} {p : Int} : ∀ j, quL f b p j = p ∨ ∃ x, x < j ∧ dfb b (x : Int) = true ∧ quL f b p j = 1 + pick2 true (f (pt b (x : Int) 0)) (f (pt b (x : Int) 1))
  | 0 => .inl rfl
  | j + 1 => by
    have ih := quL_att (f := f) (b := b) (p := p) j
    have lift : quL f b p (j + 1) = quL f b p j → quL f b p (j + 1) = p ∨ ∃ x, x < j + 1 ∧ dfb b (x : Int) = true ∧ quL f b p (j + 1) = 1 + pick2 true (f (pt b (x : Int) 0)) (f (pt b (x : Int) 1)) := by
      intro e
      rw [e]
      rcases ih with h | ⟨x, h1, h2, h3⟩
      · exact .inl h
      · exact .inr ⟨x, by omega, h2, h3⟩
    by_cases hd : dfb b (j : Int) = true
    · have e : quL f b p (j + 1) = pick2 false (quL f b p j) (1 + pick2 true (f (pt b (j : Int) 0)) (f (pt b (j : Int) 1))) := by simp only [quL, hd, if_true]
      by_cases hl : 1 + pick2 true (f (pt b (j : Int) 0)) (f (pt b (j : Int) 1)) < quL f b p j
      · refine .inr ⟨j, by omega, hd, ?_⟩
        rw [e]; simp only [pick2, Bool.false_eq_true, if_false] at hl ⊢
        rw [if_pos hl]
      · apply lift
        rw [e]; simp only [pick2, Bool.false_eq_true, if_false] at hl ⊢
        rw [if_neg hl]
    · exact lift (by simp only [quL, hd, if_false]; rfl)
theorem pc_pos {b : BitVec 32} (h : b ≠ 0#32) : 1 ≤ pc b := by
  have : pc b ≠ 0 := fun e => h (pc_zero e)
  omega
theorem qu_mono {p : Int} (hp : p5 p) : ∀ (n : Nat) (b c : BitVec 32), pc b < n → sub c b → c ≠ 0#32 → quV p c ≤ quV p b
  | 0, _, _, h, _, _ => absurd h (Nat.not_lt_zero _)
  | n + 1, b, c, h, hs, hc => by
    have hp5 : p.toNat ≤ 5 := by obtain ⟨_, _⟩ := hp; omega
    have hp0 : 0 ≤ p := by obtain ⟨_, _⟩ := hp; omega
    by_cases e1 : c = b
    · rw [e1]; exact Int.le_refl _
    · have hlt := sub_pc hs e1
      have hpos := pc_pos hc
      rw [quV_eq (b := b) (by omega)]
      rcases quL_att (f := quV p) (b := b) (p := p) p.toNat with h1 | ⟨x, hx, hd, h1⟩
      · rw [h1]; exact (quV_bd hp0 c).2
      · rw [h1]
        have hx5 : x < 5 := by omega
        have l0 := pt_lt (y := 0) hd
        have l1 := pt_lt (y := 1) hd
        have big : ∀ y : Int, (y = 0 ∨ y = 1) → quV p (pt b (x : Int) y) ≤ pick2 true (quV p (pt b (x : Int) 0)) (quV p (pt b (x : Int) 1)) := by
          intro y hy
          simp only [pick2, if_true]
          rcases hy with rfl | rfl <;> split <;> omega
        cases hdc : dfb c (x : Int)
        · rcases one_side hx5 hdc with e | e
          · have hs2 : sub c (pt b (x : Int) 0) := by rw [e]; exact pt_sub hs hx5 (.inl rfl)
            have := qu_mono hp n _ _ (by omega) hs2 hc
            have := big 0 (.inl rfl)
            omega
          · have hs2 : sub c (pt b (x : Int) 1) := by rw [e]; exact pt_sub hs hx5 (.inr rfl)
            have := qu_mono hp n _ _ (by omega) hs2 hc
            have := big 1 (.inr rfl)
            omega
        · have hd2 := dfb_iff.1 hdc
          have g0 := qu_mono hp n (pt b (x : Int) 0) (pt c (x : Int) 0) (by omega) (pt_sub hs hx5 (.inl rfl)) hd2.1
          have g1 := qu_mono hp n (pt b (x : Int) 1) (pt c (x : Int) 1) (by omega) (pt_sub hs hx5 (.inr rfl)) hd2.2
          have b0 := big 0 (.inl rfl)
          have b1 := big 1 (.inr rfl)
          have hc1 : pc c ≠ 1 := fun e => by
            have := pt_lt (y := 0) hdc
            have := pc_pos hd2.1
            omega
          rw [quV_eq (b := c) hc1]
          have := quL_le (f := quV p) (p := p) hdc p.toNat hx
          have hm : pick2 true (quV p (pt c (x : Int) 0)) (quV p (pt c (x : Int) 1)) ≤ pick2 true (quV p (pt b (x : Int) 0)) (quV p (pt b (x : Int) 1)) := by
            have : pick2 true (quV p (pt c (x : Int) 0)) (quV p (pt c (x : Int) 1)) = quV p (pt c (x : Int) 0) ∨ pick2 true (quV p (pt c (x : Int) 0)) (quV p (pt c (x : Int) 1)) = quV p (pt c (x : Int) 1) := by
              simp only [pick2, if_true]; split <;> simp
            rcases this with e | e <;> rw [e] <;> omega
          omega
theorem kf_bit2 {b : BitVec 32} {s k : Nat} {c : Nat} (hc : c < 32) : ∀ j, j ≤ 5 → ((kf b s k j).getLsbD c = true ↔ b.getLsbD c = true ∧ ∀ x, x < j → s / 2 ^ x % 2 = 1 → c / 2 ^ x % 2 = k / 2 ^ x % 2)
  | 0, _ => by simp [kf]
  | j + 1, hj => by
    have ih := kf_bit2 (b := b) (s := s) (k := k) hc j (by omega)
    have hk2 : k / 2 ^ j % 2 < 2 := Nat.mod_lt _ (by decide)
    simp only [kf]
    split
    · rename_i hs
      rw [pt_bit (by omega) hc (by omega), Bool.and_eq_true, ih, decide_eq_true_eq]
      constructor
      · rintro ⟨⟨h1, h2⟩, h3⟩
        refine ⟨h1, fun x hx hsx => ?_⟩
        rcases Nat.lt_or_ge x j with h | h
        · exact h2 x h hsx
        · have : x = j := by omega
          subst this; omega
      · rintro ⟨h1, h2⟩
        exact ⟨⟨h1, fun x hx hsx => h2 x (by omega) hsx⟩, by have := h2 j (by omega) hs; omega⟩
    · rename_i hs
      rw [ih]
      constructor
      · rintro ⟨h1, h2⟩
        refine ⟨h1, fun x hx hsx => ?_⟩
        rcases Nat.lt_or_ge x j with h | h
        · exact h2 x h hsx
        · have : x = j := by omega
          subst this; exact absurd hsx hs
      · rintro ⟨h1, h2⟩
        exact ⟨h1, fun x hx hsx => h2 x (by omega) hsx⟩
theorem pc_one2 {b : BitVec 32} {k : Nat} (hk : k < 32) (hb : b.getLsbD k = true) : pc b = 1 ↔ ∀ i, i < 32 → b.getLsbD i = true → i = k := by
  constructor
  · intro h i hi hbi
    refine Classical.byContradiction fun hne => ?_
    have := cb_lt (f := fun i => decide (i = k)) (g := fun i => b.getLsbD i) 32 (fun j _ hj => by simp at hj; subst hj; exact hb) ⟨i, hi, hbi, by simp [hne]⟩
    rw [cb_one, if_pos hk] at this
    have e : cb (fun i => b.getLsbD i) 32 = 1 := h
    omega
  · intro h
    have : cb (fun i => b.getLsbD i) 32 = cb (fun i => decide (i = k)) 32 := cb_congr 32 (fun i hi => by
      by_cases e : i = k
      · subst e; simp [hb]
      · cases hq : b.getLsbD i
        · simp [e]
        · exact absurd (h i hi hq) e)
    show cb (fun i => b.getLsbD i) 32 = 1
    rw [this, cb_one, if_pos hk]
theorem tw_bit2 {p : Int} (hp : p5 p) {s x : Nat} (hs : (s : Int) < tw p) (hx : p.toNat ≤ x) : s / 2 ^ x % 2 = 0 := by
  have e : tw p = ((2 ^ p.toNat : Nat) : Int) := by
    have : p = 1 ∨ p = 2 ∨ p = 3 ∨ p = 4 ∨ p = 5 := by obtain ⟨_, _⟩ := hp; omega
    rcases this with rfl | rfl | rfl | rfl | rfl <;> rfl
  rw [e] at hs
  have : 2 ^ p.toNat ≤ 2 ^ x := Nat.pow_le_pow_right (by decide) hx
  rw [Nat.div_eq_of_lt (by omega)]
theorem pk_all2 : ((List.range 5).all fun q => (List.range 32).all fun b => decide ((b : Int) < tw ((q : Int) + 1)) == false || decide (pk (b : Int) ≤ pk (tw ((q : Int) + 1) - 1))) = true := by kernel_rfl
theorem pk_top2 {p : Int} (hp : p5 p) {b : Int} (hb : inC p b) : pk b ≤ pk (tw p - 1) := by
  have ht := tw_bd (p := p)
  obtain ⟨g1, g2⟩ := hp
  obtain ⟨b0, b1⟩ := hb
  obtain ⟨q, rfl⟩ : ∃ q : Nat, p = (q : Int) + 1 := ⟨(p - 1).toNat, by omega⟩
  obtain ⟨n, rfl⟩ : ∃ n : Nat, b = n := ⟨b.toNat, by omega⟩
  have := List.all_eq_true.1 (List.all_eq_true.1 pk_all2 q (List.mem_range.2 (by omega))) n (List.mem_range.2 (by omega))
  simpa [b1] using this
/-- all below 2 to the power of the points -/
abbrev inP (p : Int) (b : BitVec 32) : Prop := ∀ i, i < 32 → b.getLsbD i = true → (i : Int) < tw p
theorem isk_iff {p : Int} (hp : p5 p) {b : BitVec 32} {s k : Nat} (hk : k < 32) (hb : b.getLsbD k = true) : isk p b (s : Int) (k : Int) = true ↔ ∀ i, i < 32 → b.getLsbD i = true → (∀ x, x < p.toNat → s / 2 ^ x % 2 = 1 → i / 2 ^ x % 2 = k / 2 ^ x % 2) → i = k := by
  have hp5 : p.toNat ≤ 5 := by obtain ⟨_, _⟩ := hp; omega
  have hkb : (kf b s k p.toNat).getLsbD k = true := by rw [kf_bit2 hk _ hp5]; exact ⟨hb, fun _ _ _ => rfl⟩
  have e : isk p b (s : Int) (k : Int) = decide ((pc (kf b s k p.toNat) : Int) = 1) := by simp only [isk, Int.toNat_natCast]
  have h1 := pc_one2 hk hkb
  rw [e, decide_eq_true_eq]
  constructor
  · intro h i hi hbi ha
    exact h1.1 (by omega) i hi (by rw [kf_bit2 hi _ hp5]; exact ⟨hbi, ha⟩)
  · intro h
    have := h1.2 (fun i hi hbi => by rw [kf_bit2 hi _ hp5] at hbi; exact h i hi hbi.1 hbi.2)
    omega
theorem kyL_le {p : Int} {b : BitVec 32} {k : Int} : ∀ (j s : Nat), s < j → isk p b (s : Int) k = true → pk (kyL p b k j) ≤ pk (s : Int)
  | 0, s, h, _ => by omega
  | j + 1, s, h, hk => by
    simp only [kyL]
    by_cases e : s = j
    · subst e
      split
      · exact Int.le_refl _
      · rename_i hn
        by_cases hl : pk (s : Int) < pk (kyL p b k s)
        · exact absurd ⟨hl, hk⟩ hn
        · omega
    · have ih := kyL_le (p := p) (b := b) (k := k) j s (by omega) hk
      split
      · rename_i hn; omega
      · exact ih
theorem kyL_key {p : Int} {b : BitVec 32} {k : Int} (htop : isk p b (tw p - 1) k = true) : ∀ j, isk p b (kyL p b k j) k = true
  | 0 => htop
  | j + 1 => by
    simp only [kyL]
    split
    · rename_i h; exact h.2
    · exact kyL_key htop j
theorem kyV_le {p : Int} (hp : p5 p) {b : BitVec 32} {k : Int} {s : Nat} (hs : (s : Int) < tw p) (hk : isk p b (s : Int) k = true) : pk (kyV p b k) ≤ pk (s : Int) := by
  have ht := tw_bd (p := p)
  by_cases e : (s : Int) = tw p - 1
  · rw [e]; exact pk_top2 hp (kyV_bd p b k)
  · exact kyL_le _ s (by omega) hk
theorem top_key {p : Int} (hp : p5 p) {b : BitVec 32} (hb : inP p b) {k : Nat} (hk : k < 32) (hkb : b.getLsbD k = true) : isk p b (tw p - 1) (k : Int) = true := by
  have ht := tw_bd (p := p)
  obtain ⟨t, hT⟩ : ∃ t : Nat, tw p - 1 = t := ⟨(tw p - 1).toNat, by omega⟩
  rw [hT, isk_iff hp hk hkb]
  intro i hi hbi ha
  have h1 := hb i hi hbi
  have h2 := hb k hk hkb
  have hbit : ∀ x, x < p.toNat → t / 2 ^ x % 2 = 1 := by
    intro x hx
    have : p = 1 ∨ p = 2 ∨ p = 3 ∨ p = 4 ∨ p = 5 := by obtain ⟨_, _⟩ := hp; omega
    rcases this with rfl | rfl | rfl | rfl | rfl
    · have e : tw 1 = 2 := rfl
      have : t = 1 := by omega
      subst this
      have : x = 0 := by simp at hx; omega
      subst this; rfl
    · have e : tw 2 = 4 := rfl
      have : t = 3 := by omega
      subst this
      have : x = 0 ∨ x = 1 := by simp at hx; omega
      rcases this with rfl | rfl <;> rfl
    · have e : tw 3 = 8 := rfl
      have : t = 7 := by omega
      subst this
      have : x = 0 ∨ x = 1 ∨ x = 2 := by simp at hx; omega
      rcases this with rfl | rfl | rfl <;> rfl
    · have e : tw 4 = 16 := rfl
      have : t = 15 := by omega
      subst this
      have : x = 0 ∨ x = 1 ∨ x = 2 ∨ x = 3 := by simp at hx; omega
      rcases this with rfl | rfl | rfl | rfl <;> rfl
    · have e : tw 5 = 32 := rfl
      have : t = 31 := by omega
      subst this
      have : x = 0 ∨ x = 1 ∨ x = 2 ∨ x = 3 ∨ x = 4 := by simp at hx; omega
      rcases this with rfl | rfl | rfl | rfl | rfl <;> rfl
  apply Nat.eq_of_testBit_eq
  intro x
  simp only [Nat.testBit_eq_decide_div_mod_eq]
  by_cases hx : x < p.toNat
  · rw [ha x hx (hbit x hx)]
  · rw [tw_bit2 hp h1 (by omega), tw_bit2 hp h2 (by omega)]
/-- in a part keys are no greater -/
theorem key_mono {p : Int} (hp : p5 p) {b c : BitVec 32} (hb : inP p b) (hs : sub c b) {k : Nat} (hk : k < 32) (hc : c.getLsbD k = true) : pk (kyV p c (k : Int)) ≤ pk (kyV p b (k : Int)) := by
  have ht := tw_bd (p := p)
  have hkb := hs k hk hc
  have h1 : isk p b (kyV p b (k : Int)) (k : Int) = true := kyL_key (top_key hp hb hk hkb) _
  obtain ⟨g0, g1⟩ := kyV_bd p b (k : Int)
  obtain ⟨s, hS⟩ : ∃ s : Nat, kyV p b (k : Int) = s := ⟨(kyV p b (k : Int)).toNat, by omega⟩
  rw [hS] at h1 g1 ⊢
  apply kyV_le hp g1
  rw [isk_iff hp hk hc]
  rw [isk_iff hp hk hkb] at h1
  exact fun i hi hci ha => h1 i hi (hs i hi hci) ha
theorem psS_sub {p k : Int} (b : BitVec 32) : sub (psS p k b) b := fun i hi h => ((psS_bit hi).1 h).1
theorem psS_mono {p k : Int} (hp : p5 p) {b c : BitVec 32} (hb : inP p b) (hs : sub c b) : sub (psS p k c) (psS p k b) := by
  intro i hi h
  rw [psS_bit hi] at h ⊢
  have := key_mono hp hb hs hi h.1
  exact ⟨hs i hi h.1, by omega⟩
theorem pl_mono {p k : Int} (hp : p5 p) : ∀ (n : Nat) (b c : BitVec 32), pc b < n → inP p b → sub c b → plV p k b = true → plV p k c = true
  | 0, _, _, h, _, _, _ => absurd h (Nat.not_lt_zero _)
  | n + 1, b, c, h, hb, hs, hpl => by
    by_cases hc : c = 0#32
    · rw [hc]; exact plV_0 p k
    · have hbz := sub_ne hs hc
      by_cases hst : psS p k b = b
      · rw [plV_stop hbz hst] at hpl; cases hpl
      · have hlt := psS_lt hst
        rw [plV_go hbz hst] at hpl
        have hb2 : inP p (psS p k b) := fun i hi h => hb i hi (psS_sub b i hi h)
        have hs2 := psS_mono (k := k) hp hb hs
        by_cases hct : psS p k c = c
        · rw [hct] at hs2
          exact pl_mono hp n _ c (by omega) hb2 hs2 hpl
        · rw [plV_go hc hct]
          exact pl_mono hp n _ _ (by omega) hb2 hs2 hpl
theorem plN_mono {p : Int} (hp : p5 p) {b c : BitVec 32} (hb : inP p b) (hs : sub c b) : plN p c ≤ plN p b := by
  obtain ⟨b1, _, _⟩ := plN_ok p b
  obtain ⟨_, _, c3⟩ := plN_ok p c
  have := pl_mono hp 33 b c (by have := pc_le b; omega) hb hs b1
  by_cases hlt : plN p b < plN p c
  · rw [c3 _ hlt] at this; cases this
  · omega
theorem pc_split {b : BitVec 32} {x : Nat} (hx : x < 5) : pc b = pc (pt b (x : Int) 0) + pc (pt b (x : Int) 1) := by
  have e : pc b = cb (fun i => (pt b (x : Int) 0).getLsbD i || (pt b (x : Int) 1).getLsbD i) 32 := cb_congr 32 (fun i hi => by
    rw [pt_bit hx hi (.inl rfl), pt_bit hx hi (.inr rfl)]
    have h2 : i / 2 ^ x % 2 < 2 := Nat.mod_lt _ (by decide)
    by_cases e : i / 2 ^ x % 2 = 0
    · simp [e]
    · have : i / 2 ^ x % 2 = 1 := by omega
      simp [this])
  rw [e, cb_or 32 (fun i hi h => by
    rw [pt_bit hx hi (.inl rfl), pt_bit hx hi (.inr rfl)] at h
    simp only [Bool.and_eq_true, decide_eq_true_eq] at h
    omega)]
  rfl
theorem dmL_att {f : BitVec 32 → Int} {b : BitVec 32} : ∀ j, dmL f b j = 0 ∨ ∃ x, x < j ∧ dfb b (x : Int) = true ∧ dmL f b j = 1 + pick2 false (f (pt b (x : Int) 0)) (f (pt b (x : Int) 1))
  | 0 => .inl rfl
  | j + 1 => by
    have ih := dmL_att (f := f) (b := b) j
    have lift : dmL f b (j + 1) = dmL f b j → dmL f b (j + 1) = 0 ∨ ∃ x, x < j + 1 ∧ dfb b (x : Int) = true ∧ dmL f b (j + 1) = 1 + pick2 false (f (pt b (x : Int) 0)) (f (pt b (x : Int) 1)) := by
      intro e
      rw [e]
      rcases ih with h | ⟨x, h1, h2, h3⟩
      · exact .inl h
      · exact .inr ⟨x, by omega, h2, h3⟩
    by_cases hd : dfb b (j : Int) = true
    · have e : dmL f b (j + 1) = pick2 true (dmL f b j) (1 + pick2 false (f (pt b (j : Int) 0)) (f (pt b (j : Int) 1))) := by simp only [dmL, hd, if_true]
      by_cases hl : dmL f b j < 1 + pick2 false (f (pt b (j : Int) 0)) (f (pt b (j : Int) 1))
      · refine .inr ⟨j, by omega, hd, ?_⟩
        rw [e]
        show (if _ > _ then _ else _) = _
        rw [if_pos hl]
      · apply lift
        rw [e]
        show (if _ > _ then _ else _) = _
        rw [if_neg hl]
    · exact lift (by simp only [dmL, hd, if_false]; rfl)
/-- two to the power of the dimension is at most the number of concepts -/
theorem dim_pow {p : Int} (hp : p5 p) : ∀ (n : Nat) (b : BitVec 32), pc b < n → b ≠ 0#32 → 2 ^ (dimV p b).toNat ≤ pc b
  | 0, _, h, _ => absurd h (Nat.not_lt_zero _)
  | n + 1, b, h, hb => by
    have hpos := pc_pos hb
    rw [dimV_eq hb]
    rcases dmL_att (f := dimV p) (b := b) p.toNat with e | ⟨x, hx, hd, e⟩
    · rw [e]; simpa using hpos
    · have hx5 : x < 5 := by obtain ⟨_, _⟩ := hp; omega
      rw [e]
      have hd2 := dfb_iff.1 hd
      have g0 := dim_pow hp n (pt b (x : Int) 0) (by have := pt_lt (y := 0) hd; omega) hd2.1
      have g1 := dim_pow hp n (pt b (x : Int) 1) (by have := pt_lt (y := 1) hd; omega) hd2.2
      have p0 := dimV_pos (p := p) hd2.1
      have p1 := dimV_pos (p := p) hd2.2
      have hs := pc_split (b := b) hx5
      have hm : pick2 false (dimV p (pt b (x : Int) 0)) (dimV p (pt b (x : Int) 1)) ≤ dimV p (pt b (x : Int) 0) ∧ pick2 false (dimV p (pt b (x : Int) 0)) (dimV p (pt b (x : Int) 1)) ≤ dimV p (pt b (x : Int) 1) ∧ 0 ≤ pick2 false (dimV p (pt b (x : Int) 0)) (dimV p (pt b (x : Int) 1)) := by
        simp only [pick2, Bool.false_eq_true, if_false]
        split <;> omega
      have em : (1 + pick2 false (dimV p (pt b (x : Int) 0)) (dimV p (pt b (x : Int) 1))).toNat = (pick2 false (dimV p (pt b (x : Int) 0)) (dimV p (pt b (x : Int) 1))).toNat + 1 := by omega
      rw [em, Nat.pow_succ]
      have a0 := Nat.pow_le_pow_right (n := 2) (by decide) (Int.toNat_le_toNat hm.1)
      have a1 := Nat.pow_le_pow_right (n := 2) (by decide) (Int.toNat_le_toNat hm.2.1)
      omega
end Go.Proofs.Lrn
