/- Layer 2: how scores are made, its mathematics. -/
import Derived.Test.YtnnhomkkggkkfaaDoorRkBa
set_option linter.unusedSimpArgs false
set_option linter.unusedVariables false
set_option linter.unnecessarySimpa false
set_option maxRecDepth 100000
namespace Go.Proofs.Rnk
open Go Go.VM

/-- wins of the first ones, and games -/
def ws (s : List Int) : Nat → Int
  | 0 => 0
  | k + 1 => ws s k + s.getD k i0
def gm : Nat → Int
  | 0 => 0
  | k + 1 => gm k + k
def lanB (s : List Int) : Bool := (List.range s.length).all (fun k => decide (gm (k + 1) ≤ ws s (k + 1))) && decide (ws s s.length = gm s.length)
/-- sorting by wins -/
abbrev wv (W : List Int) (p : Int) : Int := W.getD p.toNat i0
def skW (W l : List Int) : Nat → List Int
  | 0 => l
  | j + 1 => if wv W (l.getD (j + 1) i0) < wv W (l.getD j i0) then skW W (sw l j) j else l
def isW (W l : List Int) : Nat → List Int
  | 0 => l
  | m + 1 => skW W (isW W l m) (m + 1)
theorem skW_len (W : List Int) : ∀ (j : Nat) (l : List Int), (skW W l j).length = l.length
  | 0, l => rfl
  | j + 1, l => by
    simp only [skW]; split
    · rw [skW_len W j]; simp
    · rfl
theorem isW_len (W l : List Int) : ∀ m, (isW W l m).length = l.length
  | 0 => rfl
  | m + 1 => by simp only [isW]; rw [skW_len, isW_len W l m]
theorem getD_set {l : List Int} {i k : Nat} {v : Int} : (l.set k v).getD i i0 = if i = k ∧ k < l.length then v else l.getD i i0 := by
  simp only [List.getD_eq_getElem?_getD, List.getElem?_set]
  by_cases h : k = i
  · subst h
    by_cases h2 : k < l.length
    · simp [h2]
    · simp [h2, List.getElem?_eq_none (Nat.le_of_not_lt h2)]
  · have : ¬ i = k := fun e => h e.symm
    simp [h, this]
/-- all of a list are of a kind -/
abbrev al (p : Int → Prop) (l : List Int) : Prop := ∀ i, p (l.getD i i0)
theorem al_set {p : Int → Prop} {l : List Int} {k : Nat} {v : Int} (h : al p l) (hv : p v) : al p (l.set k v) := fun i => by
  rw [getD_set]; split
  · exact hv
  · exact h i
theorem al_sw {p : Int → Prop} {l : List Int} (h : al p l) (j : Nat) : al p (sw l j) := al_set (al_set h (h j)) (h (j + 1))
theorem al_skW {p : Int → Prop} (W : List Int) : ∀ (j : Nat) (l : List Int), al p l → al p (skW W l j)
  | 0, l, h => h
  | j + 1, l, h => by
    simp only [skW]; split
    · exact al_skW W j _ (al_sw h j)
    · exact h
theorem al_isW {p : Int → Prop} {W l : List Int} (h : al p l) : ∀ m, al p (isW W l m)
  | 0 => h
  | m + 1 => al_skW W _ _ (al_isW h m)
/-- the games of one player -/
abbrev orI (x p : Int) : Int := ((x.toNat ||| 2 ^ p.toNat : Nat) : Int)
def stp (mo : Int) (U T W : List Int) : Nat → List Int × List Int
  | 0 => (T, W)
  | i + 1 =>
    if (i : Int) < (stp mo U T W i).2.getD mo.toNat i0 then ((stp mo U T W i).1.set mo.toNat (orI ((stp mo U T W i).1.getD mo.toNat i0) (U.getD i i0)), (stp mo U T W i).2)
    else ((stp mo U T W i).1.set (U.getD i i0).toNat (orI ((stp mo U T W i).1.getD (U.getD i i0).toNat i0) mo), (stp mo U T W i).2.set (U.getD i i0).toNat ((stp mo U T W i).2.getD (U.getD i i0).toNat i0 - 1))
abbrev nums (n : Nat) : List Int := (List.range n).map fun i => ((i : Nat) : Int)
/-- the rounds: results, wins, who is not settled -/
def rnd (s : List Int) : Nat → List Int × List Int × List Int
  | 0 => (List.replicate s.length 0, s, nums s.length)
  | r + 1 =>
    let U := isW (rnd s r).2.1 (rnd s r).2.2 (s.length - r - 1)
    let mo := U.getD (s.length - r - 1) i0
    let TW := stp mo U (rnd s r).1 (rnd s r).2.1 (s.length - r - 1)
    (TW.1, TW.2, U)
abbrev mkT (s : List Int) : List Int := (rnd s s.length).1
abbrev tb8 (x : Int) : Prop := 0 ≤ x ∧ x < 256
abbrev wb (d : Nat) (x : Int) : Prop := -(d : Int) ≤ x ∧ x ≤ 7
abbrev ub (n : Nat) (x : Int) : Prop := 0 ≤ x ∧ (x < (n : Int) ∨ x = 0)
theorem stp_len (mo : Int) (U T W : List Int) : ∀ i, (stp mo U T W i).1.length = T.length ∧ (stp mo U T W i).2.length = W.length
  | 0 => ⟨rfl, rfl⟩
  | i + 1 => by
    have := stp_len mo U T W i
    simp only [stp]; split <;> simp [this]
theorem orI_b {x p : Int} (h : tb8 x) (hp : 0 ≤ p ∧ p < 8) : tb8 (orI x p) := by
  have h2 : 2 ^ p.toNat < 2 ^ 8 := Nat.pow_lt_pow_right (by decide) (by omega)
  have : x.toNat ||| 2 ^ p.toNat < 2 ^ 8 := Nat.or_lt_two_pow (by omega) h2
  simp only [orI]; omega
theorem stp_b {mo : Int} {U T W : List Int} {d : Nat} (hm : 0 ≤ mo ∧ mo < 8) (hU : al (fun x => 0 ≤ x ∧ x < 8) U) (hT : al tb8 T) (hW : al (wb d) W) : ∀ i, al tb8 (stp mo U T W i).1 ∧ al (wb (d + i)) (stp mo U T W i).2
  | 0 => ⟨hT, hW⟩
  | i + 1 => by
    obtain ⟨h1, h2⟩ := stp_b hm hU hT hW i
    simp only [stp]; split
    · exact ⟨al_set h1 (orI_b (h1 _) (hU i)), fun k => by have := h2 k; simp only [wb] at this ⊢; omega⟩
    · refine ⟨al_set h1 (orI_b (h1 _) hm), al_set (fun k => by have := h2 k; simp only [wb] at this ⊢; omega) ?_⟩
      have := h2 (U.getD i i0).toNat
      simp only [wb] at this ⊢; omega
theorem rnd_b {s : List Int} (h8 : s.length ≤ 8) (h1 : 1 ≤ s.length) (hs : Sc8 s) : ∀ r, r ≤ s.length → ((rnd s r).1.length = s.length ∧ (rnd s r).2.1.length = s.length ∧ (rnd s r).2.2.length = s.length) ∧ al tb8 (rnd s r).1 ∧ al (wb (8 * r)) (rnd s r).2.1 ∧ al (ub s.length) (rnd s r).2.2
  | 0, _ => by
    refine ⟨⟨by simp [rnd], rfl, by simp [rnd]⟩, fun i => ?_, fun i => ?_, fun i => ?_⟩
    · simp only [rnd, List.getD_eq_getElem?_getD, List.getElem?_replicate]; split <;> simp [tb8, i0]
    · show wb _ (s.getD i i0)
      rcases Nat.lt_or_ge i s.length with q | q
      · have := hs.h i q; simp only [wb]; omega
      · have e : s.getD i i0 = 0 := by simp [List.getD_eq_getElem?_getD, List.getElem?_eq_none q, i0]
        rw [e]; simp only [wb]; omega
    · show ub _ ((nums s.length).getD i i0)
      rcases Nat.lt_or_ge i s.length with q | q
      · have e : (nums s.length).getD i i0 = (i : Int) := by simp [nums, List.getD_eq_getElem?_getD, q]
        rw [e]; simp only [ub]; omega
      · have e : (nums s.length).getD i i0 = 0 := by simp [nums, List.getD_eq_getElem?_getD, List.getElem?_eq_none, q, i0]
        rw [e]; simp only [ub]; omega
  | r + 1, hr => by
    obtain ⟨⟨l1, l2, l3⟩, bT, bW, bU⟩ := rnd_b h8 h1 hs r (by omega)
    have bU' := al_isW (W := (rnd s r).2.1) bU (s.length - r - 1)
    have b8 : al (fun x => 0 ≤ x ∧ x < 8) (isW (rnd s r).2.1 (rnd s r).2.2 (s.length - r - 1)) := fun i => by have := bU' i; simp only [ub] at this; omega
    have hl := stp_len ((isW (rnd s r).2.1 (rnd s r).2.2 (s.length - r - 1)).getD (s.length - r - 1) i0) (isW (rnd s r).2.1 (rnd s r).2.2 (s.length - r - 1)) (rnd s r).1 (rnd s r).2.1 (s.length - r - 1)
    have hb := stp_b (b8 (s.length - r - 1)) b8 bT bW (s.length - r - 1)
    simp only [rnd]
    refine ⟨⟨hl.1.trans l1, hl.2.trans l2, (isW_len _ _ _).trans l3⟩, hb.1, fun i => ?_, bU'⟩
    have := hb.2 i
    simp only [wb] at this ⊢; omega
end Go.Proofs.Rnk

