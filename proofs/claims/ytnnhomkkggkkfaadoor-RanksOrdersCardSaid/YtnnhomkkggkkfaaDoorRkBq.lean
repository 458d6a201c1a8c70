/- Layer 2: the reference's search for the best order, its mathematics. -/
import Derived.Test.YtnnhomkkggkkfaaDoorRkAw
set_option linter.unusedSimpArgs false
set_option linter.unusedVariables false
set_option linter.unnecessarySimpa false
set_option maxRecDepth 100000
namespace Go.Proofs.Rnk
open Go Go.VM
open Go.Proofs.Sur (andn andn_bit andn_le)

/-- the pairs between those met and those left -/
def crX (A : Nat → Nat) (m S : Nat) : Nat := sm (fun y => if S.testBit y then pc (A y &&& m) else 0) 8
theorem pc_and_add {a m q : Nat} (hq : q < 8) (hn : m.testBit q = false) : pc (a &&& (m ||| 2 ^ q)) = pc (a &&& m) + (a.testBit q).toNat := by
  rw [pc_sm, pc_sm (a &&& m)]
  have e : ∀ b, b < 8 → ((a &&& (m ||| 2 ^ q)).testBit b).toNat = ((a &&& m).testBit b).toNat + (if b = q then (a.testBit q).toNat else 0) := fun b _ => by
    rw [Nat.testBit_and, Nat.testBit_or, Nat.testBit_two_pow, Nat.testBit_and]
    by_cases c : b = q
    · subst c; rw [hn]; cases a.testBit b <;> simp
    · have : ¬ q = b := fun e => c e.symm
      simp [c, this]
  rw [sm_congr e, sm_add (fun b => ((a &&& m).testBit b).toNat) (fun b => if b = q then (a.testBit q).toNat else 0), sm_one, if_pos hq]
/-- a tournament on a set -/
abbrev tS (A : Nat → Nat) (S : Nat) : Prop := ∀ x y, S.testBit x = true → S.testBit y = true → x ≠ y → (A x).testBit y = !(A y).testBit x
theorem crX_step {A : Nat → Nat} {m S i : Nat} (hS : S < 256) (hi : S.testBit i = true) (hm : m.testBit i = false) (ht : tS A S) : pc (A i &&& m) + crX A (m ||| 2 ^ i) (rem S i) = crX A m S + co A S i := by
  have hi8 := bit_lt8 hS hi
  rw [crX, crX, co_sm hS, ← sm_add]
  have e : ∀ y, y < 8 → (if S.testBit y then pc (A y &&& m) else 0) + ((S.testBit y && decide (y ≠ i)) && !(A i).testBit y).toNat = (if (rem S i).testBit y then pc (A y &&& (m ||| 2 ^ i)) else 0) + (if y = i then pc (A i &&& m) else 0) := fun y _ => by
    rw [rem_bit hS]
    by_cases c : y = i
    · subst c; rw [hi]; simp
    · cases d : S.testBit y
      · simp [c]
      · rw [pc_and_add hi8 hm]
        have := ht i y hi d (fun e => c e.symm)
        rw [this]
        simp [c]
  rw [sm_congr e, sm_add (fun y => if (rem S i).testBit y then pc (A y &&& (m ||| 2 ^ i)) else 0) (fun y => if y = i then pc (A i &&& m) else 0), sm_one, if_pos hi8]
  omega
theorem crX_zero (A : Nat → Nat) (m : Nat) : crX A m 0 = 0 := by
  rw [crX, sm_congr (g := fun _ => 0) (fun y _ => by simp), sm_zero]
theorem crX_none (A : Nat → Nat) (S : Nat) : crX A 0 S = 0 := by
  rw [crX, sm_congr (g := fun _ => 0) (fun y _ => by
    have : pc 0 = 0 := by decide
    simp [this]), sm_zero]
/-- the search: the players left, who stand so far, against how many, the best so far -/
def ordM (A : Nat → Nat) (n : Nat) : Nat → List Int → Nat → Nat → Nat × List Int → Nat × List Int
  | 0, b, _, a, st => if st.1 ≤ a then st else (a, b)
  | f + 1, b, m, a, st => if st.1 ≤ a then st else (List.range n).foldl (fun st i => if m.testBit i then st else ordM A n f (b ++ [(i : Int)]) (m ||| 2 ^ i) (a + pc (A i &&& m)) st) st
/-- the first best order of a set -/
def bst (A : Nat → Nat) (S f : Nat) : List Int := (List.range f).map fun k => ((oo A S k : Nat) : Int)
theorem ro_shift {A : Nat → Nat} {S : Nat} : ∀ k, ro A S (k + 1) = ro A (rem S (fp A S)) k
  | 0 => rfl
  | k + 1 => by rw [ro, ro_shift k]; rfl
theorem bst_succ {A : Nat → Nat} {S f : Nat} : bst A S (f + 1) = ((fp A S : Nat) : Int) :: bst A (rem S (fp A S)) f := by
  simp only [bst, List.range_succ_eq_map, List.map_cons, List.map_map]
  congr 1
  apply List.map_congr_left
  intro k _
  simp only [Function.comp_apply, oo]
  rw [Nat.succ_eq_add_one, ro_shift]
/-- the search after the first players of a round -/
theorem fold_spec {α : Type} (V : Nat → Nat) (L : Nat → α) (P : Nat → Bool) (stp : Nat × α → Nat → Nat × α)
    (hstp : ∀ st i, stp st i = if P i = true ∧ V i < st.1 then (V i, L i) else st) (st : Nat × α) : ∀ n,
    ((List.range n).foldl stp st = st ∧ ∀ i, i < n → P i = true → st.1 ≤ V i) ∨
    ∃ j, j < n ∧ P j = true ∧ V j < st.1 ∧ (List.range n).foldl stp st = (V j, L j) ∧ (∀ i, i < n → P i = true → V j ≤ V i) ∧ ∀ i, i < j → P i = true → V j < V i
  | 0 => .inl ⟨rfl, fun i hi => by omega⟩
  | n + 1 => by
    rw [List.range_succ, List.foldl_append]
    simp only [List.foldl_cons, List.foldl_nil]
    rw [hstp]
    rcases fold_spec V L P stp hstp st n with ⟨h1, h2⟩ | ⟨j, h1, h2, h3, h4, h5, h6⟩
    · rw [h1]
      by_cases c : P n = true ∧ V n < st.1
      · rw [if_pos c]
        refine .inr ⟨n, by omega, c.1, c.2, rfl, fun i hi hP => ?_, fun i hi hP => ?_⟩
        · rcases Nat.lt_or_ge i n with q | q
          · have := h2 i q hP; omega
          · have : i = n := by omega
            subst this; exact Nat.le_refl _
        · have := h2 i hi hP; omega
      · rw [if_neg c]
        refine .inl ⟨rfl, fun i hi hP => ?_⟩
        rcases Nat.lt_or_ge i n with q | q
        · exact h2 i q hP
        · have : i = n := by omega
          subst this
          exact Nat.le_of_not_lt fun q => c ⟨hP, q⟩
    · rw [h4]
      by_cases c : P n = true ∧ V n < V j
      · rw [if_pos c]
        refine .inr ⟨n, by omega, c.1, by omega, rfl, fun i hi hP => ?_, fun i hi hP => ?_⟩
        · rcases Nat.lt_or_ge i n with q | q
          · have := h5 i q hP; omega
          · have : i = n := by omega
            subst this; exact Nat.le_refl _
        · have := h5 i hi hP; omega
      · rw [if_neg c]
        refine .inr ⟨j, by omega, h2, h3, rfl, fun i hi hP => ?_, h6⟩
        rcases Nat.lt_or_ge i n with q | q
        · exact h5 i q hP
        · have : i = n := by omega
          subst this
          exact Nat.le_of_not_lt fun q => c ⟨hP, q⟩
theorem foldl_cong {α β : Type} {f g : β → α → β} : ∀ (l : List α) (b : β), (∀ b x, x ∈ l → f b x = g b x) → l.foldl f b = l.foldl g b
  | [], _, _ => rfl
  | x :: l, b, h => by
    rw [List.foldl_cons, List.foldl_cons, h b x (List.mem_cons_self ..)]
    exact foldl_cong l _ fun b y hy => h b y (List.mem_cons_of_mem _ hy)
theorem ordM_spec {A : Nat → Nat} {n : Nat} (hn : n ≤ 8) : ∀ (f : Nat) (b : List Int) (m a S : Nat) (st : Nat × List Int), pc S = f → S < 256 → (∀ i, S.testBit i = true ↔ i < n ∧ m.testBit i = false) → tS A S →
    ordM A n f b m a st = if a + crX A m S + ag A S < st.1 then (a + crX A m S + ag A S, b ++ bst A S f) else st
  | 0, b, m, a, S, st, hf, h8, _, _ => by
    have h0 := pc_zero h8 hf
    subst h0
    rw [ordM, crX_zero, ag_zero]
    by_cases c : st.1 ≤ a
    · rw [if_pos c, if_neg (by omega)]
    · rw [if_neg c, if_pos (by omega)]; simp [bst]
  | f + 1, b, m, a, S, st, hf, h8, hS, ht => by
    have hpos : 0 < S := Nat.pos_of_ne_zero fun e => by
      rw [e] at hf
      have : pc 0 = 0 := by decide
      omega
    obtain ⟨⟨hfm, hfe⟩, hmin⟩ := (ag_spec (A := A) h8).2 hpos
    rw [ordM]
    by_cases c : st.1 ≤ a
    · rw [if_pos c, if_neg (by omega)]
    · rw [if_neg c]
      have hrec : ∀ (st' : Nat × List Int) (i : Nat), S.testBit i = true → ordM A n f (b ++ [(i : Int)]) (m ||| 2 ^ i) (a + pc (A i &&& m)) st' = if a + crX A m S + (co A S i + ag A (rem S i)) < st'.1 then (a + crX A m S + (co A S i + ag A (rem S i)), b ++ (((i : Nat) : Int) :: bst A (rem S i) f)) else st' := fun st' i hi => by
        have hmi := ((hS i).1 hi).2
        have hx := crX_step h8 hi hmi ht
        have := ordM_spec hn f (b ++ [(i : Int)]) (m ||| 2 ^ i) (a + pc (A i &&& m)) (rem S i) st' (by have := pc_rem h8 hi; omega) (rem_lt h8) (fun j => by
          rw [rem_bit h8, Bool.and_eq_true, hS j, decide_eq_true_eq, Nat.testBit_or, Nat.testBit_two_pow, Bool.or_eq_false_iff, decide_eq_false_iff_not]
          constructor
          · rintro ⟨⟨h1, h2⟩, h3⟩; exact ⟨h1, h2, fun e => h3 e.symm⟩
          · rintro ⟨h1, h2, h3⟩; exact ⟨⟨h1, h2⟩, fun e => h3 e.symm⟩) (fun x y hx' hy' hne => by
          rw [rem_bit h8, Bool.and_eq_true] at hx' hy'
          exact ht x y hx'.1 hy'.1 hne)
        rw [this, List.append_assoc]
        have e : a + pc (A i &&& m) + crX A (m ||| 2 ^ i) (rem S i) + ag A (rem S i) = a + crX A m S + (co A S i + ag A (rem S i)) := by omega
        rw [e]; rfl
      have hstp : ∀ (st' : Nat × List Int) (i : Nat), i ∈ List.range n → (if m.testBit i then st' else ordM A n f (b ++ [(i : Int)]) (m ||| 2 ^ i) (a + pc (A i &&& m)) st') = if S.testBit i = true ∧ a + crX A m S + (co A S i + ag A (rem S i)) < st'.1 then (a + crX A m S + (co A S i + ag A (rem S i)), b ++ (((i : Nat) : Int) :: bst A (rem S i) f)) else st' := fun st' i hi => by
        rw [List.mem_range] at hi
        cases d : S.testBit i
        · have : m.testBit i = true := by
            cases e : m.testBit i
            · have := (hS i).2 ⟨hi, e⟩; rw [d] at this; cases this
            · rfl
          rw [this]; simp
        · have hmi := ((hS i).1 d).2
          rw [hmi, hrec st' i d]; simp
      have hfold : (List.range n).foldl (fun st' i => if m.testBit i then st' else ordM A n f (b ++ [(i : Int)]) (m ||| 2 ^ i) (a + pc (A i &&& m)) st') st = (List.range n).foldl (fun st' i => if S.testBit i = true ∧ a + crX A m S + (co A S i + ag A (rem S i)) < st'.1 then (a + crX A m S + (co A S i + ag A (rem S i)), b ++ (((i : Nat) : Int) :: bst A (rem S i) f)) else st') st := by
        exact foldl_cong _ _ fun st' i hi => hstp st' i hi
      rw [hfold]
      rcases fold_spec (fun i => a + crX A m S + (co A S i + ag A (rem S i))) (fun i => b ++ (((i : Nat) : Int) :: bst A (rem S i) f)) (fun i => S.testBit i) _ (fun _ _ => rfl) st n with ⟨h1, h2⟩ | ⟨j, h1, h2, h3, h4, h5, h6⟩
      · rw [h1]
        have := h2 (fp A S) ((hS _).1 hfm).1 hfm
        rw [if_neg (by omega)]
      · rw [h4]
        have k1 := h5 (fp A S) ((hS _).1 hfm).1 hfm
        have k2 := hmin j h2
        have e : ag A S = co A S j + ag A (rem S j) := by omega
        have k3 := fp_first hpos h8 h2 e
        have k4 : fp A S = j := by
          apply Nat.le_antisymm k3
          apply Nat.le_of_not_lt
          intro q
          have := h6 (fp A S) q hfm
          omega
        rw [if_pos (by omega), bst_succ, k4]
        rw [show a + crX A m S + (co A S j + ag A (rem S j)) = a + crX A m S + ag A S by omega]
end Go.Proofs.Rnk

