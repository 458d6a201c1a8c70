/- Layer 3: what is said. -/
import Derived.Test.YtheoddlhpklccaaTkJ
import Derived.Test.YtheoddlhpklccaaVm7
import Derived.KernelRfl
set_option linter.unusedSimpArgs false
set_option linter.unusedVariables false
set_option linter.unnecessarySimpa false
set_option maxHeartbeats 4000000
set_option maxRecDepth 100000
namespace Go.Proofs.Tlk
open Go Go.VM
/-- the word at a node, by what is known -/
abbrev en (r c : Nat) (w : Int) : Nat := if w = 0 then r else c
abbrev wd (x : Nd) (r c : Nat) : Nat := x.2.2.2.1.toNat / 2 ^ (en r c x.2.2.1) % 2
abbrev nx (x : Nd) (r c : Nat) : Nat := (if wd x r c = 0 then x.2.2.2.2.1 else x.2.2.2.2.2).toNat
def pth (l : List Nd) (r c : Nat) : Nat → Nat → List Int
  | 0, _ => []
  | n + 1, i => if (nd l i).1 then [(nd l i).2.1] else (wd (nd l i) r c : Int) :: pth l r c n (nx (nd l i) r c)
theorem isP_len {l : List Nd} (h : isP l = true) : 1 ≤ l.length ∧ l.length ≤ 100 := by
  simp only [isP, decide_eq_true_eq] at h; exact ⟨h.1, h.2.1⟩
theorem isP_at {l : List Nd} (h : isP l = true) {i : Nat} (hi : i < l.length) (hq : (l.getD i node0).1 = false) : ((l.getD i node0).2.1 = 0 ∧ ((l.getD i node0).2.2.1 = 0 ∨ (l.getD i node0).2.2.1 = 1) ∧ 0 ≤ (l.getD i node0).2.2.2.1 ∧ (l.getD i node0).2.2.2.1 < 16 ∧ (i : Int) < (l.getD i node0).2.2.2.2.1 ∧ (l.getD i node0).2.2.2.2.1 < l.length ∧ (i : Int) < (l.getD i node0).2.2.2.2.2 ∧ (l.getD i node0).2.2.2.2.2 < l.length) := by
  simp only [isP, decide_eq_true_eq] at h
  have := h.2.2 i hi
  rw [okN_u hq, decide_eq_true_eq] at this
  exact this
theorem nx_gt {l : List Nd} (h : isP l = true) {i : Nat} (hi : i < l.length) (hq : (l.getD i node0).1 = false) (r c : Nat) : i < nx (nd l i) r c ∧ nx (nd l i) r c < l.length := by
  obtain ⟨_, _, _, _, h1, h2, h3, h4⟩ := isP_at h hi hq
  simp only [nx, nd]
  split <;> omega
theorem pth_irr {l : List Nd} (h : isP l = true) (r c : Nat) : ∀ (n m i : Nat), i < l.length → l.length - i ≤ n → l.length - i ≤ m → pth l r c n i = pth l r c m i
  | 0, m, i, hi, h1, h2 => by omega
  | n + 1, 0, i, hi, h1, h2 => by omega
  | n + 1, m + 1, i, hi, h1, h2 => by
    simp only [pth]
    cases hq : (nd l i).1 with
    | true => rfl
    | false =>
      obtain ⟨g1, g2⟩ := nx_gt h hi hq r c
      simp only [Bool.false_eq_true, if_false]
      rw [pth_irr h r c n m _ g2 (by omega) (by omega)]
theorem pth_step {l : List Nd} (h : isP l = true) (r c : Nat) {i : Nat} (hi : i < l.length) (hq : (l.getD i node0).1 = false) : pth l r c l.length i = (wd (nd l i) r c : Int) :: pth l r c l.length (nx (nd l i) r c) := by
  obtain ⟨g1, g2⟩ := nx_gt h hi hq r c
  obtain ⟨n, hn⟩ : ∃ n, l.length = n + 1 := ⟨l.length - 1, by omega⟩
  have e : pth l r c l.length i = (wd (nd l i) r c : Int) :: pth l r c n (nx (nd l i) r c) := by
    rw [hn]; simp only [pth]; rw [show (nd l i).1 = false from hq]; rfl
  rw [e, pth_irr h r c n l.length _ g2 (by omega) (by omega)]
theorem pth_leaf {l : List Nd} (r c : Nat) {i : Nat} (hi : i < l.length) (hq : (l.getD i node0).1 = true) : pth l r c l.length i = [(nd l i).2.1] := by
  obtain ⟨n, hn⟩ : ∃ n, l.length = n + 1 := ⟨l.length - 1, by omega⟩
  rw [hn]; simp only [pth]; rw [show (nd l i).1 = true from hq]; rfl
theorem wdl : ∀ s : Nat, s < 16 → ∀ e : Nat, e < 4 → IntKind.i64.wrap ((BitVec.ofInt IntKind.i64.bits ((s : Int).fdiv ((2 : Int) ^ min ((e : Int)).toNat IntKind.i64.bits)) &&& BitVec.ofInt IntKind.i64.bits (1 : Int)).toNat : Int) = ((s / 2 ^ e % 2 : Nat) : Int) := by decide +kernel
theorem wdi {s : Int} (h0 : 0 ≤ s) (h1 : s < 16) {e : Nat} (he : e < 4) : IntKind.i64.wrap ((BitVec.ofInt IntKind.i64.bits (s.fdiv ((2 : Int) ^ min ((e : Int)).toNat IntKind.i64.bits)) &&& BitVec.ofInt IntKind.i64.bits (1 : Int)).toNat : Int) = ((s.toNat / 2 ^ e % 2 : Nat) : Int) := by
  obtain ⟨n, rfl⟩ := Int.eq_ofNat_of_zero_le h0
  exact wdl n (by omega) e he
theorem en_lt {r c : Nat} (hr : r < 4) (hc : c < 4) (w : Int) : en r c w < 4 := by simp only [en]; split <;> assumption
theorem hnx {l : List Nd} (h : isP l = true) {i : Nat} (hi : i < l.length) (hq : (l.getD i node0).1 = false) (r c : Nat) : aIndex Try.prog 56 (.agg [I (l.getD i node0).2.2.2.2.1, I (l.getD i node0).2.2.2.2.2]) (I (wd (l.getD i node0) r c)) = some (I (nx (l.getD i node0) r c)) := by
  obtain ⟨_, _, _, _, h1, h2, h3, h4⟩ := isP_at h hi hq
  have hw : wd (l.getD i node0) r c = 0 ∨ wd (l.getD i node0) r c = 1 := by simp only [wd]; omega
  simp only [nx]
  rcases hw with e | e
  · rw [e, if_pos rfl, Int.toNat_of_nonneg (by omega)]; rfl
  · rw [e, if_neg (by decide), Int.toNat_of_nonneg (by omega)]; rfl
theorem simp27 : allSimpleM none1 (loopAt Try.f27 0) = true := by kernel_rfl
def o27 (l : List Nd) (r c : Nat) (rm' : Room) : List Out := [.mk (Nat × List Int) (.exit 0) [0, 7, 8] (fun y => y.1 < l.length ∧ y.2.length ≤ y.1 ∧ (l.getD y.1 node0).1 = true ∧ y.2 ++ [(nd l y.1).2.1] = pth l r c l.length 0) (fun y => [nl l rm', .sl (ints y.2) y.2.length (rm 0 y.2), I y.1]) (fun y => ⟨[], tk y.2, []⟩) (fun _ => [])]
theorem lp27 (l : List Nd) (q : Room) (r c : Nat) (h : isP l = true) (h1 : rok l q) (hr : r < 4) (hc : c < 4) : LoopS (EnT []) (loopAt Try.f27 0) 59 [0, 1, 2, 7, 8] [nl l q, I r, I c, .sl (ints []) 0 (rm 0 ([] : List Int)), I 0] .nil (o27 l r c q) := by
  have hR : Rests (EnT []) none1 := rests mixed .nil
  have hlen := isP_len h
  refine loop_s hR simp27 none (by intro _ h; cases h) (fun j vs h => ∃ (i : Nat) (a : List Int), i < l.length ∧ a ++ pth l r c l.length i = pth l r c l.length 0 ∧ h = ⟨[], tk a, []⟩ ∧ vs = [nl l q, I r, I c, .sl (ints a) a.length (rm 0 a), I i] ∧ j ≤ i ∧ a.length ≤ i) l.length ⟨0, [], by omega, rfl, rfl, rfl, Nat.le_refl _, Nat.le_refl _⟩ (by intro _ h; cases h) ?_
  rintro j vs h' hj ⟨i, a, hi, hpa, rfl, rfl, hji, hai⟩
  have hr1 := rok_idx h1 hi
  rcases hq : (l.getD i node0).1 with _ | _
  · obtain ⟨_, g1, g2, g3, g4, g5, g6, g7⟩ := isP_at h hi hq
    have hix : aIndex Try.prog 56 (.agg [I r, I c]) (I (l.getD i node0).2.2.1) = some (I (en r c (l.getD i node0).2.2.1)) := by
      rcases g1 with e | e <;> (rw [e]; simp only [en]; rfl)
    have ev0 := wdi g2 g3 (en_lt hr hc (l.getD i node0).2.2.1)
    have hn := hnx h hi hq r c
    obtain ⟨k1, k2⟩ := nx_gt h hi hq r c
    rw [pth_step h r c hi hq] at hpa
    refine ⟨[Ans.o (Orc.val 13 (AV.cptr (nodesA (List.drop i l))) H.nil), Ans.o (Orc.val 15 (AV.bool false) H.nil), Ans.o (Orc.val 22 (AV.cptr (nodesA (List.drop i l))) H.nil), Ans.o (Orc.val 24 (I (l.getD i node0).snd.snd.fst) H.nil), Ans.o (Orc.val 25 (I (↑(en r c (l.getD i node0).snd.snd.fst) : Int)) H.nil), Ans.o (Orc.val 28 (AV.cptr (nodesA (List.drop i l))) H.nil), Ans.o (Orc.val 30 (I (l.getD i node0).snd.snd.snd.fst) H.nil), Ans.o (Orc.val 33 (I (↑((l.getD i node0).snd.snd.snd.fst.toNat / (2 : Nat) ^ en r c (l.getD i node0).snd.snd.fst % (2 : Nat)) : Int)) H.nil), Ans.o (Orc.val 37 (AV.sl (ints (a ++ [(↑((l.getD i node0).snd.snd.snd.fst.toNat / (2 : Nat) ^ en r c (l.getD i node0).snd.snd.fst % (2 : Nat)) : Int)])) (a ++ [(↑((l.getD i node0).snd.snd.snd.fst.toNat / (2 : Nat) ^ en r c (l.getD i node0).snd.snd.fst % (2 : Nat)) : Int)]).length (rm (0 : Nat) (a ++ [(↑((l.getD i node0).snd.snd.snd.fst.toNat / (2 : Nat) ^ en r c (l.getD i node0).snd.snd.fst % (2 : Nat)) : Int)]))) (H.mk [] (tk (a ++ [(↑((l.getD i node0).snd.snd.snd.fst.toNat / (2 : Nat) ^ en r c (l.getD i node0).snd.snd.fst % (2 : Nat)) : Int)])) [])), Ans.o (Orc.val 40 (AV.cptr (nodesA (List.drop i l))) H.nil), Ans.o (Orc.val 42 (I (l.getD i node0).snd.snd.snd.snd.fst) H.nil), Ans.o (Orc.val 45 (AV.cptr (nodesA (List.drop i l))) H.nil), Ans.o (Orc.val 47 (I (l.getD i node0).snd.snd.snd.snd.snd) H.nil), Ans.o (Orc.val 50 (I (↑(nx (l.getD i node0) r c) : Int)) H.nil)], fun u => of_eq (aIndexAddr Try.prog (23 : Nat) (AV.sl (nodesA l) l.length q) (I (↑i : Int)) = some (AV.cptr (nodesA (List.drop i l))) ∧ aLoad Try.prog (4 : Nat) (List.drop #[Field.mk "Leaf" (4 : Nat) (0 : Nat) false "" "" (0 : Nat), Field.mk "Value" (3 : Nat) (1 : Nat) false "" "" (8 : Nat), Field.mk "Who" (3 : Nat) (2 : Nat) false "" "" (16 : Nat), Field.mk "Set" (3 : Nat) (3 : Nat) false "" "" (24 : Nat), Field.mk "No" (3 : Nat) (4 : Nat) false "" "" (32 : Nat), Field.mk "Yes" (3 : Nat) (5 : Nat) false "" "" (40 : Nat)][(0 : Nat)].offset (nodesA (List.drop i l))) = some (AV.bool false) ∧ aIndexAddr Try.prog (23 : Nat) (AV.sl (nodesA l) l.length q) (I (↑i : Int)) = some (AV.cptr (nodesA (List.drop i l))) ∧ aLoad Try.prog (3 : Nat) (List.drop #[Field.mk "Leaf" (4 : Nat) (0 : Nat) false "" "" (0 : Nat), Field.mk "Value" (3 : Nat) (1 : Nat) false "" "" (8 : Nat), Field.mk "Who" (3 : Nat) (2 : Nat) false "" "" (16 : Nat), Field.mk "Set" (3 : Nat) (3 : Nat) false "" "" (24 : Nat), Field.mk "No" (3 : Nat) (4 : Nat) false "" "" (32 : Nat), Field.mk "Yes" (3 : Nat) (5 : Nat) false "" "" (40 : Nat)][(2 : Nat)].offset (nodesA (List.drop i l))) = some (I (l.getD i node0).snd.snd.fst) ∧ aIndex Try.prog (56 : Nat) (AV.agg [I (↑r : Int), I (↑c : Int)]) (I (l.getD i node0).snd.snd.fst) = some (I (↑(en r c (l.getD i node0).snd.snd.fst) : Int)) ∧ aIndexAddr Try.prog (23 : Nat) (AV.sl (nodesA l) l.length q) (I (↑i : Int)) = some (AV.cptr (nodesA (List.drop i l))) ∧ aLoad Try.prog (3 : Nat) (List.drop #[Field.mk "Leaf" (4 : Nat) (0 : Nat) false "" "" (0 : Nat), Field.mk "Value" (3 : Nat) (1 : Nat) false "" "" (8 : Nat), Field.mk "Who" (3 : Nat) (2 : Nat) false "" "" (16 : Nat), Field.mk "Set" (3 : Nat) (3 : Nat) false "" "" (24 : Nat), Field.mk "No" (3 : Nat) (4 : Nat) false "" "" (32 : Nat), Field.mk "Yes" (3 : Nat) (5 : Nat) false "" "" (40 : Nat)][(3 : Nat)].offset (nodesA (List.drop i l))) = some (I (l.getD i node0).snd.snd.snd.fst) ∧ aBin Try.prog BinOp.and (3 : Nat) (I ((l.getD i node0).snd.snd.snd.fst.fdiv ((2 : Int) ^ min (↑(en r c (l.getD i node0).snd.snd.fst) : Int).toNat IntKind.i64.bits))) (I 1) = some (I (↑((l.getD i node0).snd.snd.snd.fst.toNat / (2 : Nat) ^ en r c (l.getD i node0).snd.snd.fst % (2 : Nat)) : Int)) ∧ aAppend Try.prog (41 : Nat) (41 : Nat) (AV.sl (ints a) a.length (rm (0 : Nat) a)) (AV.sl [I (↑((l.getD i node0).snd.snd.snd.fst.toNat / (2 : Nat) ^ en r c (l.getD i node0).snd.snd.fst % (2 : Nat)) : Int)] (1 : Nat) Room.full) (H.mk [] (tk a) []) = some (AV.sl (ints (a ++ [(↑((l.getD i node0).snd.snd.snd.fst.toNat / (2 : Nat) ^ en r c (l.getD i node0).snd.snd.fst % (2 : Nat)) : Int)])) (a ++ [(↑((l.getD i node0).snd.snd.snd.fst.toNat / (2 : Nat) ^ en r c (l.getD i node0).snd.snd.fst % (2 : Nat)) : Int)]).length (rm (0 : Nat) (a ++ [(↑((l.getD i node0).snd.snd.snd.fst.toNat / (2 : Nat) ^ en r c (l.getD i node0).snd.snd.fst % (2 : Nat)) : Int)])), H.mk [] (tk (a ++ [(↑((l.getD i node0).snd.snd.snd.fst.toNat / (2 : Nat) ^ en r c (l.getD i node0).snd.snd.fst % (2 : Nat)) : Int)])) []) ∧ aIndexAddr Try.prog (23 : Nat) (AV.sl (nodesA l) l.length q) (I (↑i : Int)) = some (AV.cptr (nodesA (List.drop i l))) ∧ aLoad Try.prog (3 : Nat) (List.drop #[Field.mk "Leaf" (4 : Nat) (0 : Nat) false "" "" (0 : Nat), Field.mk "Value" (3 : Nat) (1 : Nat) false "" "" (8 : Nat), Field.mk "Who" (3 : Nat) (2 : Nat) false "" "" (16 : Nat), Field.mk "Set" (3 : Nat) (3 : Nat) false "" "" (24 : Nat), Field.mk "No" (3 : Nat) (4 : Nat) false "" "" (32 : Nat), Field.mk "Yes" (3 : Nat) (5 : Nat) false "" "" (40 : Nat)][(4 : Nat)].offset (nodesA (List.drop i l))) = some (I (l.getD i node0).snd.snd.snd.snd.fst) ∧ aIndexAddr Try.prog (23 : Nat) (AV.sl (nodesA l) l.length q) (I (↑i : Int)) = some (AV.cptr (nodesA (List.drop i l))) ∧ aLoad Try.prog (3 : Nat) (List.drop #[Field.mk "Leaf" (4 : Nat) (0 : Nat) false "" "" (0 : Nat), Field.mk "Value" (3 : Nat) (1 : Nat) false "" "" (8 : Nat), Field.mk "Who" (3 : Nat) (2 : Nat) false "" "" (16 : Nat), Field.mk "Set" (3 : Nat) (3 : Nat) false "" "" (24 : Nat), Field.mk "No" (3 : Nat) (4 : Nat) false "" "" (32 : Nat), Field.mk "Yes" (3 : Nat) (5 : Nat) false "" "" (40 : Nat)][(5 : Nat)].offset (nodesA (List.drop i l))) = some (I (l.getD i node0).snd.snd.snd.snd.snd) ∧ aIndex Try.prog (56 : Nat) (AV.agg [I (l.getD i node0).snd.snd.snd.snd.fst, I (l.getD i node0).snd.snd.snd.snd.snd]) (I (↑((l.getD i node0).snd.snd.snd.fst.toNat / (2 : Nat) ^ en r c (l.getD i node0).snd.snd.fst % (2 : Nat)) : Int)) = some (I (↑(nx (l.getD i node0) r c) : Int)) ∧ (59 : Nat) = (59 : Nat) ∧ j < l.length ∧ Keep (∃ i_1 a_1, i_1 < l.length ∧ a_1 ++ pth l r c l.length i_1 = pth l r c l.length (0 : Nat) ∧ H.mk [] (tk (a ++ [(↑((l.getD i node0).snd.snd.snd.fst.toNat / (2 : Nat) ^ en r c (l.getD i node0).snd.snd.fst % (2 : Nat)) : Int)])) [] = H.mk [] (tk a_1) [] ∧ [AV.sl (nodesA l) l.length q, I (↑r : Int), I (↑c : Int), AV.sl (ints (a ++ [(↑((l.getD i node0).snd.snd.snd.fst.toNat / (2 : Nat) ^ en r c (l.getD i node0).snd.snd.fst % (2 : Nat)) : Int)])) (a ++ [(↑((l.getD i node0).snd.snd.snd.fst.toNat / (2 : Nat) ^ en r c (l.getD i node0).snd.snd.fst % (2 : Nat)) : Int)]).length (rm (0 : Nat) (a ++ [(↑((l.getD i node0).snd.snd.snd.fst.toNat / (2 : Nat) ^ en r c (l.getD i node0).snd.snd.fst % (2 : Nat)) : Int)])), I (↑(nx (l.getD i node0) r c) : Int)] = [AV.sl (nodesA l) l.length q, I (↑r : Int), I (↑c : Int), AV.sl (ints a_1) a_1.length (rm (0 : Nat) a_1), I (↑i_1 : Int)] ∧ j + (1 : Nat) ≤ i_1 ∧ a_1.length ≤ i_1)) (by kernel_rfl) ?_⟩
    refine ⟨ix_nodes (by kernel_rfl) (by omega) hr1, ?_⟩
    refine ⟨by first | exact ldf_nodes (by kernel_rfl) (by kernel_rfl) hi rfl | (refine ldf_nodes (by kernel_rfl) (by kernel_rfl) hi ?_; show some (AV.bool (l.getD i node0).1) = _; rw [hq]), ?_⟩
    refine ⟨ix_nodes (by kernel_rfl) (by omega) hr1, ?_⟩
    refine ⟨by first | exact ldf_nodes (by kernel_rfl) (by kernel_rfl) hi rfl | (refine ldf_nodes (by kernel_rfl) (by kernel_rfl) hi ?_; show some (AV.bool (l.getD i node0).1) = _; rw [hq]), ?_⟩
    refine ⟨by first | exact hix | exact hn, ?_⟩
    refine ⟨ix_nodes (by kernel_rfl) (by omega) hr1, ?_⟩
    refine ⟨by first | exact ldf_nodes (by kernel_rfl) (by kernel_rfl) hi rfl | (refine ldf_nodes (by kernel_rfl) (by kernel_rfl) hi ?_; show some (AV.bool (l.getD i node0).1) = _; rw [hq]), ?_⟩
    refine ⟨told_and (by with_reducible assumption), ?_⟩
    refine ⟨by first | exact app_new (by kernel_rfl) (by simp) (by simp) (by simp) (by omega) | exact app_ints (by kernel_rfl) (by omega), ?_⟩
    refine ⟨ix_nodes (by kernel_rfl) (by omega) hr1, ?_⟩
    refine ⟨by first | exact ldf_nodes (by kernel_rfl) (by kernel_rfl) hi rfl | (refine ldf_nodes (by kernel_rfl) (by kernel_rfl) hi ?_; show some (AV.bool (l.getD i node0).1) = _; rw [hq]), ?_⟩
    refine ⟨ix_nodes (by kernel_rfl) (by omega) hr1, ?_⟩
    refine ⟨by first | exact ldf_nodes (by kernel_rfl) (by kernel_rfl) hi rfl | (refine ldf_nodes (by kernel_rfl) (by kernel_rfl) hi ?_; show some (AV.bool (l.getD i node0).1) = _; rw [hq]), ?_⟩
    refine ⟨by first | exact hix | exact hn, ?_⟩
    refine ⟨by first | with_reducible assumption | omega | assumption, ?_⟩
    refine ⟨by first | with_reducible assumption | omega | assumption, ?_⟩
    exact ⟨nx (nd l i) r c, a ++ [(wd (nd l i) r c : Int)], k2, by rw [List.append_assoc]; exact hpa, rfl, rfl, Nat.lt_of_le_of_lt hji k1, by rw [List.length_append]; exact Nat.lt_of_le_of_lt hai k1⟩
  · refine ⟨[Ans.o (Orc.val 13 (AV.cptr (nodesA (List.drop i l))) H.nil), Ans.o (Orc.val 15 (AV.bool true) H.nil)], fun u => of_eq (aIndexAddr Try.prog (23 : Nat) (AV.sl (nodesA l) l.length q) (I (↑i : Int)) = some (AV.cptr (nodesA (List.drop i l))) ∧ aLoad Try.prog (4 : Nat) (List.drop #[Field.mk "Leaf" (4 : Nat) (0 : Nat) false "" "" (0 : Nat), Field.mk "Value" (3 : Nat) (1 : Nat) false "" "" (8 : Nat), Field.mk "Who" (3 : Nat) (2 : Nat) false "" "" (16 : Nat), Field.mk "Set" (3 : Nat) (3 : Nat) false "" "" (24 : Nat), Field.mk "No" (3 : Nat) (4 : Nat) false "" "" (32 : Nat), Field.mk "Yes" (3 : Nat) (5 : Nat) false "" "" (40 : Nat)][(0 : Nat)].offset (nodesA (List.drop i l))) = some (AV.bool true) ∧ (59 : Nat) = (59 : Nat) ∧ hits [Out.mk (Nat × List Int) (AX.exit (0 : Nat)) [(0 : Nat), (7 : Nat), (8 : Nat)] (fun y => y.fst < l.length ∧ y.snd.length ≤ y.fst ∧ (l.getD y.fst node0).fst = true ∧ y.snd ++ [(nd l y.fst).snd.fst] = pth l r c l.length (0 : Nat)) (fun y => [nl l q, AV.sl (ints y.snd) y.snd.length (rm (0 : Nat) y.snd), I (↑y.fst : Int)]) (fun y => H.mk [] (tk y.snd) []) fun x => []] (AX.exit (0 : Nat)) [AV.sl (nodesA l) l.length q, I (↑r : Int), I (↑c : Int), u (3 : Nat), u (4 : Nat), u (5 : Nat), u (6 : Nat), AV.sl (ints a) a.length (rm (0 : Nat) a), I (↑i : Int), u (9 : Nat), u (10 : Nat), AV.sl (nodesA l) l.length q, I (↑i : Int), AV.cptr (nodesA (List.drop i l)), AV.cptr (List.drop #[Field.mk "Leaf" (4 : Nat) (0 : Nat) false "" "" (0 : Nat), Field.mk "Value" (3 : Nat) (1 : Nat) false "" "" (8 : Nat), Field.mk "Who" (3 : Nat) (2 : Nat) false "" "" (16 : Nat), Field.mk "Set" (3 : Nat) (3 : Nat) false "" "" (24 : Nat), Field.mk "No" (3 : Nat) (4 : Nat) false "" "" (32 : Nat), Field.mk "Yes" (3 : Nat) (5 : Nat) false "" "" (40 : Nat)][(0 : Nat)].offset (nodesA (List.drop i l))), AV.bool true, AV.bool false, u (17 : Nat), u (18 : Nat), u (19 : Nat), u (20 : Nat), u (21 : Nat), u (22 : Nat), u (23 : Nat), u (24 : Nat), u (25 : Nat), u (26 : Nat), u (27 : Nat), u (28 : Nat), u (29 : Nat), u (30 : Nat), u (31 : Nat), u (32 : Nat), u (33 : Nat), u (34 : Nat), u (35 : Nat), u (36 : Nat), u (37 : Nat), u (38 : Nat), u (39 : Nat), u (40 : Nat), u (41 : Nat), u (42 : Nat), u (43 : Nat), u (44 : Nat), u (45 : Nat), u (46 : Nat), u (47 : Nat), u (48 : Nat), u (49 : Nat), u (50 : Nat), u (51 : Nat), u (52 : Nat), u (53 : Nat), u (54 : Nat), u (55 : Nat), u (56 : Nat), u (57 : Nat), u (58 : Nat)] (H.mk [] (tk a) [])) (by kernel_rfl) ?_⟩
    refine ⟨ix_nodes (by kernel_rfl) (by omega) hr1, ?_⟩
    refine ⟨by first | exact ldf_nodes (by kernel_rfl) (by kernel_rfl) hi rfl | (refine ldf_nodes (by kernel_rfl) (by kernel_rfl) hi ?_; show some (AV.bool (l.getD i node0).1) = _; rw [hq]), ?_⟩
    refine ⟨by first | with_reducible assumption | omega | assumption, ?_⟩
    exact .inl ⟨(i, a), ⟨hi, hai, hq, by rw [← hpa, pth_leaf r c hi hq]⟩, rfl, rfl, rfl⟩
theorem ok27 : FokM Try.prog none1 27 Try.f27 := ⟨mixed, by kernel_rfl, by kernel_rfl, by kernel_rfl, by kernel_rfl⟩
abbrev pt (l : List Nd) (r c : Nat) : List Int := pth l r c l.length 0
theorem r27 (l : List Nd) (q : Room) (r c : Nat) (h : isP l = true) (h1 : rok l q) (hr : r < 4) (hc : c < 4) : Body (EnT []) none1 Try.f27 [nl l q, I r, I c] .nil (.sl (ints (pt l r c)) (pt l r c).length (rm 0 (pt l r c)), ⟨[], tk (pt l r c), []⟩) := by
  have hl := lp27 l q r c h h1 hr hc
  have hlen := isP_len h
  refine body_s ([Ans.loop [(0 : Nat), (1 : Nat), (2 : Nat), (7 : Nat), (8 : Nat)] [Out.mk (Nat × List Int) (AX.exit (0 : Nat)) [(0 : Nat), (7 : Nat), (8 : Nat)] (fun y => y.fst < l.length ∧ y.snd.length ≤ y.fst ∧ (l.getD y.fst node0).fst = true ∧ y.snd ++ [(nd l y.fst).snd.fst] = pth l r c l.length (0 : Nat)) (fun y => [nl l q, AV.sl (ints y.snd) y.snd.length (rm (0 : Nat) y.snd), I (↑y.fst : Int)]) (fun y => H.mk [] (tk y.snd) []) fun y => [Ans.o (Orc.val 54 (AV.cptr (nodesA (List.drop y.fst l))) H.nil), Ans.o (Orc.val 56 (I (l.getD y.fst node0).snd.fst) H.nil), Ans.o (Orc.val 58 (AV.sl (ints (y.snd ++ [(l.getD y.fst node0).snd.fst])) (y.snd ++ [(l.getD y.fst node0).snd.fst]).length (rm (0 : Nat) (y.snd ++ [(l.getD y.fst node0).snd.fst]))) (H.mk [] (tk (y.snd ++ [(l.getD y.fst node0).snd.fst])) []))]]]) (LoopS (Env.mk Try.prog (Sof (P := Try.prog) []) (Pof (P := Try.prog) []) H.nil.base (300 : Nat)) (loopAt Try.f27 (0 : Nat)) (59 : Nat) [(0 : Nat), (1 : Nat), (2 : Nat), (7 : Nat), (8 : Nat)] [AV.sl (nodesA l) l.length q, I (↑r : Int), I (↑c : Int), AV.sl [] (0 : Nat) Room.nil, I 0] (H.mk [] [] []) [Out.mk (Nat × List Int) (AX.exit (0 : Nat)) [(0 : Nat), (7 : Nat), (8 : Nat)] (fun y => y.fst < l.length ∧ y.snd.length ≤ y.fst ∧ (l.getD y.fst node0).fst = true ∧ y.snd ++ [(nd l y.fst).snd.fst] = pth l r c l.length (0 : Nat)) (fun y => [nl l q, AV.sl (ints y.snd) y.snd.length (rm (0 : Nat) y.snd), I (↑y.fst : Int)]) (fun y => H.mk [] (tk y.snd) []) fun y => [Ans.o (Orc.val 54 (AV.cptr (nodesA (List.drop y.fst l))) H.nil), Ans.o (Orc.val 56 (I (l.getD y.fst node0).snd.fst) H.nil), Ans.o (Orc.val 58 (AV.sl (ints (y.snd ++ [(l.getD y.fst node0).snd.fst])) (y.snd ++ [(l.getD y.fst node0).snd.fst]).length (rm (0 : Nat) (y.snd ++ [(l.getD y.fst node0).snd.fst]))) (H.mk [] (tk (y.snd ++ [(l.getD y.fst node0).snd.fst])) []))]] ∧ (∀ (y : Nat × List Int), y.fst < l.length ∧ y.snd.length ≤ y.fst ∧ (l.getD y.fst node0).fst = true ∧ y.snd ++ [(nd l y.fst).snd.fst] = pth l r c l.length (0 : Nat) → ∀ (u : Nat → AV), aIndexAddr Try.prog (23 : Nat) (AV.sl (nodesA l) l.length q) (I (↑y.fst : Int)) = some (AV.cptr (nodesA (List.drop y.fst l))) ∧ aLoad Try.prog (3 : Nat) (List.drop #[Field.mk "Leaf" (4 : Nat) (0 : Nat) false "" "" (0 : Nat), Field.mk "Value" (3 : Nat) (1 : Nat) false "" "" (8 : Nat), Field.mk "Who" (3 : Nat) (2 : Nat) false "" "" (16 : Nat), Field.mk "Set" (3 : Nat) (3 : Nat) false "" "" (24 : Nat), Field.mk "No" (3 : Nat) (4 : Nat) false "" "" (32 : Nat), Field.mk "Yes" (3 : Nat) (5 : Nat) false "" "" (40 : Nat)][(1 : Nat)].offset (nodesA (List.drop y.fst l))) = some (I (l.getD y.fst node0).snd.fst) ∧ aAppend Try.prog (41 : Nat) (41 : Nat) (AV.sl (ints y.snd) y.snd.length (rm (0 : Nat) y.snd)) (AV.sl [I (l.getD y.fst node0).snd.fst] (1 : Nat) Room.full) (H.mk [] (tk y.snd) []) = some (AV.sl (ints (y.snd ++ [(l.getD y.fst node0).snd.fst])) (y.snd ++ [(l.getD y.fst node0).snd.fst]).length (rm (0 : Nat) (y.snd ++ [(l.getD y.fst node0).snd.fst])), H.mk [] (tk (y.snd ++ [(l.getD y.fst node0).snd.fst])) []) ∧ leave (Base.mk H.nil.blk.length H.nil.toks.length H.nil.maps.length) (AV.sl (ints (y.snd ++ [(l.getD y.fst node0).snd.fst])) (y.snd ++ [(l.getD y.fst node0).snd.fst]).length (rm (0 : Nat) (y.snd ++ [(l.getD y.fst node0).snd.fst]))) (H.mk [] (tk (y.snd ++ [(l.getD y.fst node0).snd.fst])) []) = (AV.sl (ints (pt l r c)) (pt l r c).length (rm (0 : Nat) (pt l r c)), H.mk [] (tk (pt l r c)) [])) ∧ True) (by kernel_rfl) ?_
  refine ⟨hl, ?_⟩
  refine And.intro ?_ ?_
  · skip
    intro y
    intro w1
    intro u
    refine ⟨ix_nodes (by kernel_rfl) (by omega) (rok_idx h1 w1.1), ?_⟩
    refine ⟨by first | exact ld_nodes (by kernel_rfl) (by kernel_rfl) (by kernel_rfl) (by omega) | exact ldf_nodes (by kernel_rfl) (by kernel_rfl) (by omega) rfl, ?_⟩
    refine ⟨by first | exact app_new (by kernel_rfl) (by simp) (by simp) (by simp) (by omega) | exact app_ints (by kernel_rfl) (by omega), ?_⟩
    (rw [show y.2 ++ [(l.getD y.1 node0).2.1] = pt l r c from w1.2.2.2]; exact leave_intsa _)
  · skip
    trivial
noncomputable def c27 : PCtr Try.prog := slctr ok27 (X := List Nd × Room × Nat × Nat) (fun x => [nl x.1 x.2.1, I x.2.2.1, I x.2.2.2]) (fun x => isP x.1 = true ∧ rok x.1 x.2.1 ∧ x.2.2.1 < 4 ∧ x.2.2.2 < 4) (fun x => .sl (ints (pt x.1 x.2.2.1 x.2.2.2)) (pt x.1 x.2.2.1 x.2.2.2).length (rm 0 (pt x.1 x.2.2.1 x.2.2.2)).wk)
  (by rintro ⟨l, r, a, b⟩ ⟨m, s, a', b'⟩ e _ _; simp [Int.natCast_inj] at e; simp only [e.1, e.2.1, e.2.2]) (fun x => by simp [AV.bnds, AV.bnd, AV.wk, rm_wk_bnd]) (fun x => by simp [AV.bnd, rm_wk_bnd]) (fun x hx => ⟨_, _, _, _, _, .nil, r27 x.1 x.2.1.wk x.2.2.1 x.2.2.2 hx.1 (by simpa using hx.2.1) hx.2.2.1 hx.2.2.2, by simp [AV.plain, AV.plains, plains_ints], by simp only [AV.wkd, wkds_ints]⟩)
end Go.Proofs.Tlk

