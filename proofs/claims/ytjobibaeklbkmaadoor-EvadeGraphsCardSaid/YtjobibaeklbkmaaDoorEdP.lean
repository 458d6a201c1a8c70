/- Layer 8: what is settled early has the sum 0; duals. -/
import Derived.Test.YtjobibaeklbkmaaDoorEdO
set_option linter.unusedSimpArgs false
set_option linter.unusedVariables false
set_option linter.unnecessarySimpa false
set_option maxRecDepth 100000
namespace Go.Proofs.Evd
open Go.Proofs.Sur (W mem_bits andn andn_bit andn_le lsU lsU_mem)

theorem sum_perm {g : Nat → Int} {l m : List Nat} (h : l.Perm m) : (l.map g).sum = (m.map g).sum := by
  induction h with
  | nil => rfl
  | cons x _ ih => simp only [List.map_cons, List.sum_cons, ih]
  | swap x y l => simp only [List.map_cons, List.sum_cons]; omega
  | trans _ _ h1 h2 => exact h1.trans h2
theorem sumI_range (g : Nat → Int) : ∀ n, sumI g n = ((List.range n).map g).sum
  | 0 => rfl
  | n + 1 => by
    rw [List.range_succ, List.map_append, List.sum_append, sumI, sumI_range g n]
    simp
theorem sum_filter (p : Nat → Bool) (g : Nat → Int) : ∀ l : List Nat, ((l.filter p).map g).sum = (l.map fun s => if p s = true then g s else 0).sum
  | [] => rfl
  | x :: l => by
    rw [List.filter_cons]
    split
    · rename_i h; simp only [List.map_cons, List.sum_cons, if_pos h, sum_filter p g l]
    · rename_i h; simp only [List.map_cons, List.sum_cons, if_neg h, sum_filter p g l]; omega
def lack (x : Nat) : List Nat := (List.range 64).filter fun s => !s.testBit x
theorem lack_perm : ∀ x, x < 6 → (List.range 64).isPerm (lack x ++ (lack x).map (fun s => s ||| 2 ^ x)) = true := by decide
theorem sum_pairs (g : Nat → Int) {x : Nat} (hx : x < 6) : sumI g 64 = sumI (fun s => if (!s.testBit x) = true then g s + g (s ||| 2 ^ x) else 0) 64 := by
  rw [sumI_range, sum_perm (List.isPerm_iff.1 (lack_perm x hx)), List.map_append, List.sum_append, List.map_map, lack, sum_filter, sum_filter, sumI_range]
  have add : ∀ (a b : Nat → Int) (l : List Nat), (l.map a).sum + (l.map b).sum = (l.map fun s => a s + b s).sum := by
    intro a b l
    induction l with
    | nil => rfl
    | cons y l ih => simp only [List.map_cons, List.sum_cons]; omega
  rw [add]
  congr 1
  apply List.map_congr_left
  intro s _
  split <;> simp
theorem sg_or : ∀ x, x < 6 → ∀ s, s < 64 → s.testBit x = false → sg (s ||| 2 ^ x) = - sg s := by decide
/-- a family's sum is the difference of both of its parts' -/
theorem sm_split (F : W) {x : Nat} (hx : x < 6) : sm F = sm (wot F x) - sm (lnk F x) := by
  rw [sm, sum_pairs _ hx, sm, sm, ← sumI_sub]
  refine sumI_congr 64 (fun s hl => ?_)
  rw [wot_bit hx hl, lnk_bit hx hl]
  cases hb : s.testBit x
  · have := sg_or x hx s hl hb
    cases h1 : hs F s <;> cases h2 : hs F (s ||| 2 ^ x) <;> simp <;> omega
  · simp
theorem sm_none {F : W} (h : ∀ s, hs F s = false) : sm F = 0 := sumI_zero _ 64 (fun i _ => by rw [h i]; rfl)
def indS (r s : Nat) : Int := if s &&& r = s then sg s else 0
theorem full_tab : ∀ r, r < 64 → r ≠ 0 → sumI (indS r) 64 = 0 := by decide +kernel
theorem sm_full {r : Nat} (hr : r < 64) (h0 : r ≠ 0) {F : W} (h : ∀ s, hs F s = true ↔ Sub s r) : sm F = 0 := by
  rw [← full_tab r hr h0, sm]
  refine sumI_congr 64 (fun s _ => ?_)
  simp only [indS]
  have := h s
  rw [sub_and] at this
  by_cases q : s &&& r = s
  · rw [if_pos q, if_pos (this.2 q)]
  · rw [if_neg q, if_neg (fun z => q (this.1 z))]
theorem wot_none {F : W} {x : Nat} (hx : x < 6) (h : Dn F) (he : ∀ s, hs (wot F x) s = false) : ∀ s, hs F s = false := fun s => by
  cases hb : hs F s
  · rfl
  · have h0 := h 0 s hb (zero_sub s)
    have := he 0
    rw [wot_bit hx (by decide), h0] at this
    simp at this
/-- settled early: empty, or the sum 0 -/
theorem early_sum : ∀ (m r : Nat) (F : W), Fa r F → pc r = m → ask r F < m → (∀ s, hs F s = false) ∨ sm F = 0
  | 0, r, F, _, _, h => by omega
  | m + 1, r, F, hF, hm, h => by
    have hr0 : r ≠ 0 := fun e => by subst e; rw [show pc 0 = 0 from rfl] at hm; omega
    by_cases hst : stl r F = true
    · rcases (stl_iff hF).1 hst with q | q
      · exact .inl q
      · exact .inr (sm_full hF.r64 hr0 fun s => ⟨fun z => hF.inn s z, q s⟩)
    · obtain ⟨x, hx, hb, e⟩ := ask_get hF.r64 hst
      have hp := pc_rst hx hF.r64 hb
      simp only [go] at e
      have h1 := early_sum m _ _ (wot_fa hF hx) (by omega) (by omega)
      have h2 := early_sum m _ _ (lnk_fa hF hx) (by omega) (by omega)
      rcases h1 with h1 | h1
      · exact .inl (wot_none hx hF.dn h1)
      · refine .inr ?_
        rw [sm_split F hx, h1]
        rcases h2 with h2 | h2
        · rw [sm_none h2]; rfl
        · rw [h2]; rfl

/-! ### duals -/
end Go.Proofs.Evd

