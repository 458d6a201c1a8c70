/- Layer 8: families as sets of bits. -/
import Derived.Test.YtjobibaeklbkmaaDoorSuM
set_option linter.unusedSimpArgs false
set_option linter.unusedVariables false
set_option linter.unnecessarySimpa false
set_option maxRecDepth 100000
namespace Go.Proofs.Evd
open Go.Proofs.Sur (W mem_bits andn andn_bit andn_le lsU lsU_mem)

/-- the sets without an element -/
def lk : Nat → W
  | 0 => 0x5555555555555555#64
  | 1 => 0x3333333333333333#64
  | 2 => 0x0f0f0f0f0f0f0f0f#64
  | 3 => 0x00ff00ff00ff00ff#64
  | 4 => 0x0000ffff0000ffff#64
  | 5 => 0x00000000ffffffff#64
  | _ => 0#64
theorem lk_tab : ∀ x, x < 6 → ∀ s, s < 64 → (lk x).getLsbD s = !s.testBit x := by decide
theorem lk_bit {x : Nat} (hx : x < 6) (s : Nat) : (lk x).getLsbD s = (decide (s < 64) && !s.testBit x) := by
  by_cases h : s < 64
  · rw [lk_tab x hx s h]; simp [h]
  · rw [BitVec.getLsbD_of_ge _ _ (by omega)]; simp [h]
/-- the family has the set -/
abbrev hs (F : W) (s : Nat) : Bool := F.getLsbD s
theorem hs_lt {F : W} {s : Nat} (h : hs F s = true) : s < 64 := by
  refine Classical.byContradiction fun hc => ?_
  rw [hs, BitVec.getLsbD_of_ge F s (by omega)] at h; cases h
theorem ext {F G : W} (h : ∀ s, s < 64 → hs F s = hs G s) : F = G := BitVec.eq_of_getLsbD_eq fun i hi => h i hi
/-- the link of an element -/
def lnk (F : W) (x : Nat) : W := (F >>> (2 ^ x)) &&& lk x
/-- what is left without one -/
def wot (F : W) (x : Nat) : W := F &&& lk x
theorem lt64 {s : Nat} (h : s < 64) {i : Nat} (hi : s.testBit i = true) : i < 6 := by
  refine Classical.byContradiction fun hc => ?_
  have : s.testBit i = false := Nat.testBit_lt_two_pow (Nat.lt_of_lt_of_le h (Nat.pow_le_pow_right (by decide : 0 < 2) (by omega : 6 ≤ i)))
  rw [this] at hi; cases hi
theorem add_tab : ∀ x, x < 6 → ∀ s, s < 64 → s.testBit x = false → 2 ^ x + s = s ||| 2 ^ x := by decide
theorem add_or {x s : Nat} (hx : x < 6) (h : s < 64) (hb : s.testBit x = false) : 2 ^ x + s = s ||| 2 ^ x := add_tab x hx s h hb
theorem or_lt {x s : Nat} (hx : x < 6) (h : s < 64) : s ||| 2 ^ x < 64 := Nat.or_lt_two_pow (n := 6) h (Nat.pow_lt_pow_right (by decide) hx)
theorem lnk_bit {F : W} {x s : Nat} (hx : x < 6) (h : s < 64) : hs (lnk F x) s = (hs F (s ||| 2 ^ x) && !s.testBit x) := by
  simp only [hs, lnk, BitVec.getLsbD_and, BitVec.getLsbD_ushiftRight, lk_bit hx, h, decide_true, Bool.true_and]
  cases hb : s.testBit x
  · rw [add_or hx h hb]
  · simp
/-- with all parts -/
def clo (F : W) : Nat → W
  | 0 => F
  | k + 1 => clo F k ||| lnk (clo F k) k
/-- a part of a set -/
def Sub (s t : Nat) : Prop := ∀ i, s.testBit i = true → t.testBit i = true
theorem Sub.refl (s : Nat) : Sub s s := fun _ h => h
theorem Sub.trans {a b c : Nat} (h : Sub a b) (k : Sub b c) : Sub a c := fun i x => k i (h i x)
theorem clo_bit {F : W} : ∀ (k : Nat), k ≤ 6 → ∀ s, s < 64 → (hs (clo F k) s = true ↔ ∃ t, hs F t = true ∧ Sub s t ∧ ∀ i, k ≤ i → t.testBit i = true → s.testBit i = true)
  | 0, _, s, h => by
    constructor
    · intro q; exact ⟨s, q, Sub.refl s, fun _ _ h => h⟩
    · rintro ⟨t, h1, h2, h3⟩
      have : s = t := by
        apply Nat.eq_of_testBit_eq; intro i
        rw [Bool.eq_iff_iff]; exact ⟨h2 i, h3 i (Nat.zero_le _)⟩
      subst this; exact h1
  | k + 1, hk, s, h => by
    have ih := clo_bit (F := F) k (by omega)
    have hd : hs (clo F (k + 1)) s = (hs (clo F k) s || (hs (clo F k) (s ||| 2 ^ k) && !s.testBit k)) := by
      rw [← lnk_bit (by omega) h]; simp only [hs, clo, BitVec.getLsbD_or]
    rw [hd, Bool.or_eq_true, Bool.and_eq_true, ih s h, ih _ (or_lt (by omega) h)]
    constructor
    · rintro (⟨t, h1, h2, h3⟩ | ⟨⟨t, h1, h2, h3⟩, h4⟩)
      · exact ⟨t, h1, h2, fun i hi => h3 i (by omega)⟩
      · refine ⟨t, h1, fun i hi => h2 i (by rw [Nat.testBit_or, hi]; rfl), fun i hi ht => ?_⟩
        have := h3 i (by omega) ht
        rw [Nat.testBit_or, Nat.testBit_two_pow, Bool.or_eq_true, decide_eq_true_eq] at this
        rcases this with h | h
        · exact h
        · omega
    · rintro ⟨t, h1, h2, h3⟩
      by_cases hb : t.testBit k = true ∧ s.testBit k = false
      · refine .inr ⟨⟨t, h1, fun i hi => ?_, fun i hi ht => ?_⟩, by rw [hb.2]; rfl⟩
        · rw [Nat.testBit_or, Nat.testBit_two_pow, Bool.or_eq_true, decide_eq_true_eq] at hi
          rcases hi with h | h
          · exact h2 i h
          · rw [← h]; exact hb.1
        · rw [Nat.testBit_or, Nat.testBit_two_pow, Bool.or_eq_true, decide_eq_true_eq]
          by_cases e : k = i
          · exact .inr e
          · exact .inl (h3 i (by omega) ht)
      · refine .inl ⟨t, h1, h2, fun i hi ht => ?_⟩
        by_cases e : k = i
        · subst e
          cases hq : s.testBit k
          · exact absurd ⟨ht, hq⟩ hb
          · rfl
        · exact h3 i (by omega) ht
/-- the least family with the sets -/
def cls (F : W) : W := clo F 6
theorem cls_bit {F : W} {s : Nat} (h : s < 64) : hs (cls F) s = true ↔ ∃ t, hs F t = true ∧ Sub s t := by
  rw [cls, clo_bit 6 (Nat.le_refl _) s h]
  constructor
  · rintro ⟨t, h1, h2, _⟩; exact ⟨t, h1, h2⟩
  · rintro ⟨t, h1, h2⟩
    exact ⟨t, h1, h2, fun i hi ht => absurd (lt64 (hs_lt h1) ht) (by omega)⟩
/-- all parts are there -/
def Dn (F : W) : Prop := ∀ s t, hs F t = true → Sub s t → hs F s = true
theorem sub_lt {s t : Nat} (h : Sub s t) (ht : t < 64) : s < 64 := by
  refine Classical.byContradiction fun hc => ?_
  obtain ⟨i, h1, h2⟩ := Nat.exists_ge_and_testBit_of_ge_two_pow (n := 6) (show 2 ^ 6 ≤ s by omega)
  have := lt64 ht (h i h2); omega
theorem cls_dn (F : W) : Dn (cls F) := fun s t ht h => by
  have htl := hs_lt ht
  obtain ⟨u, h1, h2⟩ := (cls_bit htl).1 ht
  exact (cls_bit (sub_lt h htl)).2 ⟨u, h1, h.trans h2⟩
theorem cls_fix {F : W} : cls F = F ↔ Dn F := by
  constructor
  · intro e; exact e ▸ cls_dn F
  · intro d
    refine ext fun s h => ?_
    rw [Bool.eq_iff_iff, cls_bit h]
    exact ⟨fun ⟨t, h1, h2⟩ => d s t h1 h2, fun q => ⟨s, q, Sub.refl s⟩⟩
theorem andn_sub {s : Nat} (h : s < 64) (m : Nat) : Sub (andn s m) s := fun i hi => by
  rw [andn_bit (by omega)] at hi
  cases hb : s.testBit i
  · rw [hb] at hi; cases hi
  · rfl
/-- it is enough that one element at a time may be left out -/
theorem dn_step {F : W} (n : Nat) (hn : n ≤ 6) (hb : ∀ s, hs F s = true → s < 2 ^ n) (h : ∀ s, hs F s = true → ∀ x, x < n → hs F (andn s (2 ^ x)) = true) : Dn F := by
  have key : ∀ (k : Nat), k ≤ n → ∀ s t, hs F t = true → Sub s t → (∀ i, k ≤ i → t.testBit i = true → s.testBit i = true) → hs F s = true := by
    intro k
    induction k with
    | zero =>
      intro _ s t ht h1 h2
      have : s = t := by
        apply Nat.eq_of_testBit_eq; intro i
        rw [Bool.eq_iff_iff]; exact ⟨h1 i, h2 i (Nat.zero_le _)⟩
      subst this; exact ht
    | succ k ih =>
      intro hk s t ht h1 h2
      by_cases e : t.testBit k = true ∧ s.testBit k = false
      · refine ih (by omega) s (andn t (2 ^ k)) (h t ht k (by omega)) (fun i hi => ?_) (fun i hi q => ?_)
        · rw [andn_bit (by have := hs_lt ht; omega), h1 i hi, Nat.testBit_two_pow]
          have : k ≠ i := fun q => by subst q; rw [e.2] at hi; cases hi
          simp [this]
        · rw [andn_bit (by have := hs_lt ht; omega), Nat.testBit_two_pow, Bool.and_eq_true] at q
          have : k ≠ i := fun z => by subst z; simp at q
          exact h2 i (by omega) q.1
      · refine ih (by omega) s t ht h1 (fun i hi q => ?_)
        by_cases z : k = i
        · subst z
          cases hq : s.testBit k
          · exact absurd ⟨q, hq⟩ e
          · rfl
        · exact h2 i (by omega) q
  intro s t ht hs'
  refine key n (Nat.le_refl _) s t ht hs' (fun i hi q => ?_)
  have : t.testBit i = false := Nat.testBit_lt_two_pow (Nat.lt_of_lt_of_le (hb t ht) (Nat.pow_le_pow_right (by decide) hi))
  rw [this] at q; cases q
/-- the sets, rising -/
abbrev elts (F : W) : List Nat := Go.Proofs.Sur.bits F
/-- the family of the sets of a list -/
def fm (l : List Nat) : W := l.foldl (fun a s => a ||| (1#64 <<< s)) 0#64
theorem fm_fold : ∀ (l : List Nat) (a : W) (s : Nat), s < 64 → (hs (l.foldl (fun a s => a ||| (1#64 <<< s)) a) s = true ↔ hs a s = true ∨ s ∈ l)
  | [], a, s, _ => by simp
  | x :: l, a, s, h => by
    rw [List.foldl_cons, fm_fold l _ s h]
    simp only [hs, BitVec.getLsbD_or, BitVec.getLsbD_shiftLeft, Bool.or_eq_true, List.mem_cons]
    have : ((decide (s < 64) && !decide (s < x) && (1#64).getLsbD (s - x)) = true) ↔ s = x := by
      simp only [h, decide_true, Bool.true_and, Bool.and_eq_true, Bool.not_eq_true', decide_eq_false_iff_not]
      rw [BitVec.getLsbD_one]
      simp
      omega
    rw [this]
    constructor
    · rintro ((h | h) | h)
      · exact .inl h
      · exact .inr (.inl h)
      · exact .inr (.inr h)
    · rintro (h | h | h)
      · exact .inl (.inl h)
      · exact .inl (.inr h)
      · exact .inr h
theorem fm_bit {l : List Nat} {s : Nat} (h : s < 64) : hs (fm l) s = true ↔ s ∈ l := by
  rw [fm, fm_fold l _ s h]; simp
theorem fm_app (l : List Nat) (s : Nat) : fm (l ++ [s]) = fm l ||| (1#64 <<< s) := by simp [fm]
theorem lsU_sorted (f : Nat → Bool) : ∀ n s, (lsU f s n).Pairwise (· < ·)
  | 0, s => by simp [lsU]
  | n + 1, s => by
    simp only [lsU]
    split
    · refine List.pairwise_cons.2 ⟨fun a ha => ?_, lsU_sorted f n (s + 1)⟩
      have := (lsU_mem n (s + 1) a).1 ha; omega
    · exact lsU_sorted f n (s + 1)
theorem bits_sorted (F : W) : (elts F).Pairwise (· < ·) := lsU_sorted _ 64 0
theorem sorted_ext : ∀ {l m : List Nat}, l.Pairwise (· < ·) → m.Pairwise (· < ·) → (∀ x, x ∈ l ↔ x ∈ m) → l = m
  | [], [], _, _, _ => rfl
  | [], y :: m, _, _, h => by have := (h y).2 (by simp); cases this
  | x :: l, [], _, _, h => by have := (h x).1 (by simp); cases this
  | x :: l, y :: m, h1, h2, h => by
    rw [List.pairwise_cons] at h1 h2
    have e : x = y := by
      have a := (h x).1 (by simp)
      have b := (h y).2 (by simp)
      rw [List.mem_cons] at a b
      rcases a with a | a
      · exact a
      · rcases b with b | b
        · exact b.symm
        · have := h1.1 y b; have := h2.1 x a; omega
    subst e
    rw [sorted_ext h1.2 h2.2 (fun z => ?_)]
    have := h z
    simp only [List.mem_cons] at this
    constructor
    · intro q
      rcases this.1 (.inr q) with e | e
      · have := h1.1 z q; omega
      · exact e
    · intro q
      rcases this.2 (.inr q) with e | e
      · have := h2.1 z q; omega
      · exact e
theorem bits_fm {l : List Nat} (hl : ∀ s ∈ l, s < 64) : elts (fm l) = l ↔ l.Pairwise (· < ·) := by
  constructor
  · intro e; rw [← e]; exact bits_sorted _
  · intro h
    refine sorted_ext (bits_sorted _) h (fun x => ?_)
    rw [mem_bits]
    constructor
    · intro q; exact (fm_bit (hs_lt q)).1 q
    · intro q; exact (fm_bit (hl x q)).2 q
theorem fm_bits (F : W) : fm (elts F) = F := by
  refine ext fun s h => ?_
  rw [Bool.eq_iff_iff, fm_bit h, mem_bits]
theorem bits_inj {F G : W} (h : elts F = elts G) : F = G := by rw [← fm_bits F, h, fm_bits]
end Go.Proofs.Evd

