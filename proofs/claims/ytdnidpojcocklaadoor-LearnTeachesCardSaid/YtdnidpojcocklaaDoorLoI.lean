/- Layer 4: parts of classes. -/
import Derived.Test.YtdnidpojcocklaaDoorLoE
import Derived.Test.YtdnidpojcocklaaDoorLnY
set_option linter.unusedSimpArgs false
set_option linter.unusedVariables false
set_option linter.unnecessarySimpa false
set_option maxHeartbeats 200000
set_option maxRecDepth 100000
namespace Go.Proofs.Lrn
open Go Go.VM

abbrev sub (c b : BitVec 32) : Prop := ∀ i, i < 32 → c.getLsbD i = true → b.getLsbD i = true
theorem sub_pc {c b : BitVec 32} (h : sub c b) (hne : c ≠ b) : pc c < pc b := by
  have e : c = b &&& c := by
    apply BitVec.eq_of_getLsbD_eq
    intro i hi
    rw [BitVec.getLsbD_and]
    cases hc : c.getLsbD i
    · simp
    · simp [h i hi hc]
  rw [e]
  apply pc_and_lt
  rw [← e]; exact hne
theorem sub_zero {c : BitVec 32} (h : sub c 0#32) : c = 0#32 := by
  apply BitVec.eq_of_getLsbD_eq
  intro i hi
  cases hc : c.getLsbD i
  · simp
  · have := h i hi hc; simp at this
theorem pt_subset {b : BitVec 32} {x : Nat} (hx : x < 5) {y : Int} (hy : y = 0 ∨ y = 1) : sub (pt b (x : Int) y) b := by
  intro i hi hb
  rw [pt_bit hx hi hy, Bool.and_eq_true] at hb
  exact hb.1
theorem quL_att {f : BitVec 32 → Int} {b : BitVec 32} {p : Int} : ∀ j, quL f b p j = p ∨ ∃ x, x < j ∧ dfb b (x : Int) = true ∧ quL f b p j = 1 + pick2 true (f (pt b (x : Int) 0)) (f (pt b (x : Int) 1))
  | 0 => .inl rfl
  | j + 1 => by
    have ih := quL_att (f := f) (b := b) (p := p) j
    have lift : quL f b p (j + 1) = quL f b p j → quL f b p (j + 1) = p ∨ ∃ x, x < j + 1 ∧ dfb b (x : Int) = true ∧ quL f b p (j + 1) = 1 + pick2 true (f (pt b (x : Int) 0)) (f (pt b (x : Int) 1)) := by
      intro e
      rw [e]
      rcases ih with h | ⟨x, h1, h2, h3⟩
      · exact .inl h
      · exact .inr ⟨x, by omega, h2, h3⟩
    by_cases hd : dfb b (j : Int) = true
    · have e : quL f b p (j + 1) = pick2 false (quL f b p j) (1 + pick2 true (f (pt b (j : Int) 0)) (f (pt b (j : Int) 1))) := by simp only [quL, hd, if_true]
      by_cases hl : 1 + pick2 true (f (pt b (j : Int) 0)) (f (pt b (j : Int) 1)) < quL f b p j
      · refine .inr ⟨j, by omega, hd, ?_⟩
        rw [e]; simp only [pick2, Bool.false_eq_true, if_false] at hl ⊢
        rw [if_pos hl]
      · apply lift
        rw [e]; simp only [pick2, Bool.false_eq_true, if_false] at hl ⊢
        rw [if_neg hl]
    · exact lift (by simp only [quL, hd, if_false]; rfl)
theorem pc_pos {b : BitVec 32} (h : b ≠ 0#32) : 1 ≤ pc b := by
  have : pc b ≠ 0 := fun e => h (pc_zero e)
  omega
theorem kf_bit2 {b : BitVec 32} {s k : Nat} {c : Nat} (hc : c < 32) : ∀ j, j ≤ 5 → ((kf b s k j).getLsbD c = true ↔ b.getLsbD c = true ∧ ∀ x, x < j → s / 2 ^ x % 2 = 1 → c / 2 ^ x % 2 = k / 2 ^ x % 2)
  | 0, _ => by simp [kf]
  | j + 1, hj => by
    have ih := kf_bit2 (b := b) (s := s) (k := k) hc j (by omega)
    have hk2 : k / 2 ^ j % 2 < 2 := Nat.mod_lt _ (by decide)
    simp only [kf]
    split
    · rename_i hs
      rw [pt_bit (by omega) hc (by omega), Bool.and_eq_true, ih, decide_eq_true_eq]
      constructor
      · rintro ⟨⟨h1, h2⟩, h3⟩
        refine ⟨h1, fun x hx hsx => ?_⟩
        rcases Nat.lt_or_ge x j with h | h
        · exact h2 x h hsx
        · have : x = j := by omega
          subst this; omega
      · rintro ⟨h1, h2⟩
        exact ⟨⟨h1, fun x hx hsx => h2 x (by omega) hsx⟩, by have := h2 j (by omega) hs; omega⟩
    · rename_i hs
      rw [ih]
      constructor
      · rintro ⟨h1, h2⟩
        refine ⟨h1, fun x hx hsx => ?_⟩
        rcases Nat.lt_or_ge x j with h | h
        · exact h2 x h hsx
        · have : x = j := by omega
          subst this; exact absurd hsx hs
      · rintro ⟨h1, h2⟩
        exact ⟨h1, fun x hx hsx => h2 x (by omega) hsx⟩
theorem pc_one2 {b : BitVec 32} {k : Nat} (hk : k < 32) (hb : b.getLsbD k = true) : pc b = 1 ↔ ∀ i, i < 32 → b.getLsbD i = true → i = k := by
  constructor
  · intro h i hi hbi
    refine Classical.byContradiction fun hne => ?_
    have := cb_lt (f := fun i => decide (i = k)) (g := fun i => b.getLsbD i) 32 (fun j _ hj => by simp at hj; subst hj; exact hb) ⟨i, hi, hbi, by simp [hne]⟩
    rw [cb_one, if_pos hk] at this
    have e : cb (fun i => b.getLsbD i) 32 = 1 := h
    omega
  · intro h
    have : cb (fun i => b.getLsbD i) 32 = cb (fun i => decide (i = k)) 32 := cb_congr 32 (fun i hi => by
      by_cases e : i = k
      · subst e; simp [hb]
      · cases hq : b.getLsbD i
        · simp [e]
        · exact absurd (h i hi hq) e)
    show cb (fun i => b.getLsbD i) 32 = 1
    rw [this, cb_one, if_pos hk]
theorem tw_bit2 {p : Int} (hp : p5 p) {s x : Nat} (hs : (s : Int) < tw p) (hx : p.toNat ≤ x) : s / 2 ^ x % 2 = 0 := by
  have e : tw p = ((2 ^ p.toNat : Nat) : Int) := by
    have : p = 1 ∨ p = 2 ∨ p = 3 ∨ p = 4 ∨ p = 5 := by obtain ⟨_, _⟩ := hp; omega
    rcases this with rfl | rfl | rfl | rfl | rfl <;> rfl
  rw [e] at hs
  have : 2 ^ p.toNat ≤ 2 ^ x := Nat.pow_le_pow_right (by decide) hx
  rw [Nat.div_eq_of_lt (by omega)]
theorem pk_all2 : ((List.range 5).all fun q => (List.range 32).all fun b => decide ((b : Int) < tw ((q : Int) + 1)) == false || decide (pk (b : Int) ≤ pk (tw ((q : Int) + 1) - 1))) = true := by kernel_rfl
theorem pk_top2 {p : Int} (hp : p5 p) {b : Int} (hb : inC p b) : pk b ≤ pk (tw p - 1) := by
  have ht := tw_bd (p := p)
  obtain ⟨g1, g2⟩ := hp
  obtain ⟨b0, b1⟩ := hb
  obtain ⟨q, rfl⟩ : ∃ q : Nat, p = (q : Int) + 1 := ⟨(p - 1).toNat, by omega⟩
  obtain ⟨n, rfl⟩ : ∃ n : Nat, b = n := ⟨b.toNat, by omega⟩
  have := List.all_eq_true.1 (List.all_eq_true.1 pk_all2 q (List.mem_range.2 (by omega))) n (List.mem_range.2 (by omega))
  simpa [b1] using this
/-- all below 2 to the power of the points -/
abbrev inP (p : Int) (b : BitVec 32) : Prop := ∀ i, i < 32 → b.getLsbD i = true → (i : Int) < tw p
theorem isk_iff {p : Int} (hp : p5 p) {b : BitVec 32} {s k : Nat} (hk : k < 32) (hb : b.getLsbD k = true) : isk p b (s : Int) (k : Int) = true ↔ ∀ i, i < 32 → b.getLsbD i = true → (∀ x, x < p.toNat → s / 2 ^ x % 2 = 1 → i / 2 ^ x % 2 = k / 2 ^ x % 2) → i = k := by
  have hp5 : p.toNat ≤ 5 := by obtain ⟨_, _⟩ := hp; omega
  have hkb : (kf b s k p.toNat).getLsbD k = true := by rw [kf_bit2 hk _ hp5]; exact ⟨hb, fun _ _ _ => rfl⟩
  have e : isk p b (s : Int) (k : Int) = decide ((pc (kf b s k p.toNat) : Int) = 1) := by simp only [isk, Int.toNat_natCast]
  have h1 := pc_one2 hk hkb
  rw [e, decide_eq_true_eq]
  constructor
  · intro h i hi hbi ha
    exact h1.1 (by omega) i hi (by rw [kf_bit2 hi _ hp5]; exact ⟨hbi, ha⟩)
  · intro h
    have := h1.2 (fun i hi hbi => by rw [kf_bit2 hi _ hp5] at hbi; exact h i hi hbi.1 hbi.2)
    omega
theorem kyL_le {p : Int} {b : BitVec 32} {k : Int} : ∀ (j s : Nat), s < j → isk p b (s : Int) k = true → pk (kyL p b k j) ≤ pk (s : Int)
  | 0, s, h, _ => by omega
  | j + 1, s, h, hk => by
    simp only [kyL]
    by_cases e : s = j
    · subst e
      split
      · exact Int.le_refl _
      · rename_i hn
        by_cases hl : pk (s : Int) < pk (kyL p b k s)
        · exact absurd ⟨hl, hk⟩ hn
        · omega
    · have ih := kyL_le (p := p) (b := b) (k := k) j s (by omega) hk
      split
      · rename_i hn; omega
      · exact ih
theorem kyL_key {p : Int} {b : BitVec 32} {k : Int} (htop : isk p b (tw p - 1) k = true) : ∀ j, isk p b (kyL p b k j) k = true
  | 0 => htop
  | j + 1 => by
    simp only [kyL]
    split
    · rename_i h; exact h.2
    · exact kyL_key htop j
theorem kyV_le {p : Int} (hp : p5 p) {b : BitVec 32} {k : Int} {s : Nat} (hs : (s : Int) < tw p) (hk : isk p b (s : Int) k = true) : pk (kyV p b k) ≤ pk (s : Int) := by
  have ht := tw_bd (p := p)
  by_cases e : (s : Int) = tw p - 1
  · rw [e]; exact pk_top2 hp (kyV_bd p b k)
  · exact kyL_le _ s (by omega) hk
theorem top_key {p : Int} (hp : p5 p) {b : BitVec 32} (hb : inP p b) {k : Nat} (hk : k < 32) (hkb : b.getLsbD k = true) : isk p b (tw p - 1) (k : Int) = true := by
  have ht := tw_bd (p := p)
  obtain ⟨t, hT⟩ : ∃ t : Nat, tw p - 1 = t := ⟨(tw p - 1).toNat, by omega⟩
  rw [hT, isk_iff hp hk hkb]
  intro i hi hbi ha
  have h1 := hb i hi hbi
  have h2 := hb k hk hkb
  have hbit : ∀ x, x < p.toNat → t / 2 ^ x % 2 = 1 := by
    intro x hx
    have : p = 1 ∨ p = 2 ∨ p = 3 ∨ p = 4 ∨ p = 5 := by obtain ⟨_, _⟩ := hp; omega
    rcases this with rfl | rfl | rfl | rfl | rfl
    · have e : tw 1 = 2 := rfl
      have : t = 1 := by omega
      subst this
      have : x = 0 := by simp at hx; omega
      subst this; rfl
    · have e : tw 2 = 4 := rfl
      have : t = 3 := by omega
      subst this
      have : x = 0 ∨ x = 1 := by simp at hx; omega
      rcases this with rfl | rfl <;> rfl
    · have e : tw 3 = 8 := rfl
      have : t = 7 := by omega
      subst this
      have : x = 0 ∨ x = 1 ∨ x = 2 := by simp at hx; omega
      rcases this with rfl | rfl | rfl <;> rfl
    · have e : tw 4 = 16 := rfl
      have : t = 15 := by omega
      subst this
      have : x = 0 ∨ x = 1 ∨ x = 2 ∨ x = 3 := by simp at hx; omega
      rcases this with rfl | rfl | rfl | rfl <;> rfl
    · have e : tw 5 = 32 := rfl
      have : t = 31 := by omega
      subst this
      have : x = 0 ∨ x = 1 ∨ x = 2 ∨ x = 3 ∨ x = 4 := by simp at hx; omega
      rcases this with rfl | rfl | rfl | rfl | rfl <;> rfl
  apply Nat.eq_of_testBit_eq
  intro x
  simp only [Nat.testBit_eq_decide_div_mod_eq]
  by_cases hx : x < p.toNat
  · rw [ha x hx (hbit x hx)]
  · rw [tw_bit2 hp h1 (by omega), tw_bit2 hp h2 (by omega)]
theorem pc_split {b : BitVec 32} {x : Nat} (hx : x < 5) : pc b = pc (pt b (x : Int) 0) + pc (pt b (x : Int) 1) := by
  have e : pc b = cb (fun i => (pt b (x : Int) 0).getLsbD i || (pt b (x : Int) 1).getLsbD i) 32 := cb_congr 32 (fun i hi => by
    rw [pt_bit hx hi (.inl rfl), pt_bit hx hi (.inr rfl)]
    have h2 : i / 2 ^ x % 2 < 2 := Nat.mod_lt _ (by decide)
    by_cases e : i / 2 ^ x % 2 = 0
    · simp [e]
    · have : i / 2 ^ x % 2 = 1 := by omega
      simp [this])
  rw [e, cb_or 32 (fun i hi h => by
    rw [pt_bit hx hi (.inl rfl), pt_bit hx hi (.inr rfl)] at h
    simp only [Bool.and_eq_true, decide_eq_true_eq] at h
    omega)]
  rfl
end Go.Proofs.Lrn

