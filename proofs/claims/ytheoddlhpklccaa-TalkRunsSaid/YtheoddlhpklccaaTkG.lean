/- Layer 3: what a plan is. -/
import Derived.Test.YtheoddlhpklccaaTkF
import Derived.KernelRfl
set_option linter.unusedSimpArgs false
set_option linter.unusedVariables false
set_option linter.unnecessarySimpa false
set_option maxHeartbeats 4000000
set_option maxRecDepth 100000
namespace Go.Proofs.Tlk
open Go Go.VM
noncomputable abbrev EnT (cs : List (Ctr Try.prog)) : Env := ⟨Try.prog, Sof (P := Try.prog) cs, Pof (P := Try.prog) [], H.nil.base, 300⟩
abbrev nl (l : List Nd) (r : Room) : AV := .sl (nodesA l) l.length r
abbrev nd (l : List Nd) (i : Nat) : Nd := l.getD i node0
def okE (x : Nd) : Bool := x.1 && decide ((x.2.1 = 0 ∨ x.2.1 = 1) ∧ x.2.2.1 = 0 ∧ x.2.2.2.1 = 0 ∧ x.2.2.2.2.1 = 0 ∧ x.2.2.2.2.2 = 0)
def okS (x : Nd) (i m : Int) : Bool := !x.1 && decide (x.2.1 = 0 ∧ (x.2.2.1 = 0 ∨ x.2.2.1 = 1) ∧ 0 ≤ x.2.2.2.1 ∧ x.2.2.2.1 < 16 ∧ i < x.2.2.2.2.1 ∧ x.2.2.2.2.1 < m ∧ i < x.2.2.2.2.2 ∧ x.2.2.2.2.2 < m)
/-- is the i-th node one of a plan? -/
def okN (l : List Nd) (i : Nat) : Bool := okE (nd l i) || okS (nd l i) i l.length
abbrev ndb (x : Nd) : List AV := [.bool x.1, I x.2.1, I x.2.2.1, I x.2.2.2.1, I x.2.2.2.2.1, I x.2.2.2.2.2]
def o46 (l : List Nd) : List Out := [.mk Nat .ret [2] (fun i => i < l.length ∧ okN l i = false) (fun _ => [.bool false]) (fun i => ⟨[ndb (nd l i)], [], []⟩) (fun _ => []),
  .mk Unit (.exit 0) [] (fun _ => ∀ i, i < l.length → okN l i = true) (fun _ => []) (fun _ => .nil) (fun _ => [])]
theorem okN_1 {l : List Nd} {j : Nat} (h : okE (nd l j) = true) : okN l j = true := by rw [okN, h]; rfl
theorem okN_2 {l : List Nd} {j : Nat} (h : okS (nd l j) j l.length = true) : okN l j = true := by rw [okN, h, Bool.or_true]
theorem okN_f {l : List Nd} {j : Nat} (h : okE (nd l j) = false) (k : okS (nd l j) j l.length = false) : okN l j = false := by rw [okN, h, k]; rfl
theorem ok_next {l : List Nd} {j : Nat} (hI : ∀ i, i < j → okN l i = true) (h : okN l j = true) : ∀ i, i < j + 1 → okN l i = true := fun i hi => by
  by_cases e : i = j
  · rw [e]; exact h
  · exact hI i (by omega)
theorem clean0 (h : H) : h.clean 0 := fun cs hc => by simp at hc
theorem simp46 : allSimpleM none1 (loopAt Try.f46 0) = true := by kernel_rfl
theorem lp46 (l : List Nd) (r : Room) (h0 : l.length ≤ 100) (h1 : rok l r) (hb : r.bnd 0 = true) : LoopS (EnT [c73.to, c74.to]) (loopAt Try.f46 0) 32 [0, 13, 14, 15] [nl l r, nl l r, I l.length, I 0] .nil (o46 l) := by
  have hR : Rests (EnT [c73.to, c74.to]) none1 := rests mixed (.pure c73 (.pure c74 .nil))
  refine loop_s hR simp46 (some 0) (by intro nb h; cases h; exact ⟨Nat.le_refl _, Nat.le_refl _⟩) (fun j vs h => h = .nil ∧ vs = [nl l r, nl l r, I l.length, I j] ∧ ∀ i, i < j → okN l i = true) l.length ⟨rfl, rfl, fun i hi => absurd hi (Nat.not_lt_zero _)⟩ (by intro nb h j vs h' hI; cases h; rw [hI.1]; exact Nat.le_refl _) ?_
  rintro j vs h hj ⟨rfl, rfl, hI⟩
  by_cases hz : (j : Int) < l.length
  · have hz' : j < l.length := by omega
    have hr1 := rok_idx h1 hz'
    have ew : (j : Int) + 1 = ((j + 1 : Nat) : Int) := by omega
    have ev0 : IntKind.i64.wrap ((j : Int) + 1) = ((j + 1 : Nat) : Int) := by rw [wr _ (by omega) (by omega)]; omega
    refine ⟨[Ans.o (Orc.b true), Ans.o (Orc.val 18 (AV.cptr (nodesA (List.drop j l))) H.nil), Ans.o (Orc.val 19 (AV.agg [AV.bool (l.getD j node0).fst, I (l.getD j node0).snd.fst, I (l.getD j node0).snd.snd.fst, I (l.getD j node0).snd.snd.snd.fst, I (l.getD j node0).snd.snd.snd.snd.fst, I (l.getD j node0).snd.snd.snd.snd.snd]) H.nil), Ans.vfork (21 : Nat) ((l.getD j node0).fst && decide (((l.getD j node0).snd.fst = (0 : Int) ∨ (l.getD j node0).snd.fst = (1 : Int)) ∧ (l.getD j node0).snd.snd.fst = (0 : Int) ∧ (l.getD j node0).snd.snd.snd.fst = (0 : Int) ∧ (l.getD j node0).snd.snd.snd.snd.fst = (0 : Int) ∧ (l.getD j node0).snd.snd.snd.snd.snd = (0 : Int))) (H.mk [[AV.bool (l.getD j node0).fst, I (l.getD j node0).snd.fst, I (l.getD j node0).snd.snd.fst, I (l.getD j node0).snd.snd.snd.fst, I (l.getD j node0).snd.snd.snd.snd.fst, I (l.getD j node0).snd.snd.snd.snd.snd]] [] []) [Ans.o (Orc.val 31 (I (↑(j + (1 : Nat)) : Int)) H.nil)] [Ans.vfork (28 : Nat) (!(l.getD j node0).fst && decide ((l.getD j node0).snd.fst = (0 : Int) ∧ ((l.getD j node0).snd.snd.fst = (0 : Int) ∨ (l.getD j node0).snd.snd.fst = (1 : Int)) ∧ (0 : Int) ≤ (l.getD j node0).snd.snd.snd.fst ∧ (l.getD j node0).snd.snd.snd.fst < (16 : Int) ∧ (↑j : Int) < (l.getD j node0).snd.snd.snd.snd.fst ∧ (l.getD j node0).snd.snd.snd.snd.fst < (↑l.length : Int) ∧ (↑j : Int) < (l.getD j node0).snd.snd.snd.snd.snd ∧ (l.getD j node0).snd.snd.snd.snd.snd < (↑l.length : Int))) (H.mk [[AV.bool (l.getD j node0).fst, I (l.getD j node0).snd.fst, I (l.getD j node0).snd.snd.fst, I (l.getD j node0).snd.snd.snd.fst, I (l.getD j node0).snd.snd.snd.snd.fst, I (l.getD j node0).snd.snd.snd.snd.snd]] [] []) [Ans.o (Orc.val 31 (I (↑(j + (1 : Nat)) : Int)) H.nil)] []]], fun u => of_eq ((↑j : Int) < (↑l.length : Int) ∧ aIndexAddr Try.prog (28 : Nat) (AV.sl (nodesA l) l.length r) (I (↑j : Int)) = some (AV.cptr (nodesA (List.drop j l))) ∧ aLoad Try.prog (61 : Nat) (nodesA (List.drop j l)) = some (AV.agg [AV.bool (l.getD j node0).fst, I (l.getD j node0).snd.fst, I (l.getD j node0).snd.snd.fst, I (l.getD j node0).snd.snd.snd.fst, I (l.getD j node0).snd.snd.snd.snd.fst, I (l.getD j node0).snd.snd.snd.snd.snd]) ∧ aCall (Sof [c73.to, c74.to]) (AV.fn (Fn.func (73 : Nat)) [] []) [AV.agg [AV.bool (l.getD j node0).fst, I (l.getD j node0).snd.fst, I (l.getD j node0).snd.snd.fst, I (l.getD j node0).snd.snd.snd.fst, I (l.getD j node0).snd.snd.snd.snd.fst, I (l.getD j node0).snd.snd.snd.snd.snd]] (H.mk [[AV.bool (l.getD j node0).fst, I (l.getD j node0).snd.fst, I (l.getD j node0).snd.snd.fst, I (l.getD j node0).snd.snd.snd.fst, I (l.getD j node0).snd.snd.snd.snd.fst, I (l.getD j node0).snd.snd.snd.snd.snd]] [] []) = some (AV.bool ((l.getD j node0).fst && decide (((l.getD j node0).snd.fst = (0 : Int) ∨ (l.getD j node0).snd.fst = (1 : Int)) ∧ (l.getD j node0).snd.snd.fst = (0 : Int) ∧ (l.getD j node0).snd.snd.snd.fst = (0 : Int) ∧ (l.getD j node0).snd.snd.snd.snd.fst = (0 : Int) ∧ (l.getD j node0).snd.snd.snd.snd.snd = (0 : Int))), H.mk [[AV.bool (l.getD j node0).fst, I (l.getD j node0).snd.fst, I (l.getD j node0).snd.snd.fst, I (l.getD j node0).snd.snd.snd.fst, I (l.getD j node0).snd.snd.snd.snd.fst, I (l.getD j node0).snd.snd.snd.snd.snd]] [] []) ∧ (((l.getD j node0).fst && decide (((l.getD j node0).snd.fst = (0 : Int) ∨ (l.getD j node0).snd.fst = (1 : Int)) ∧ (l.getD j node0).snd.snd.fst = (0 : Int) ∧ (l.getD j node0).snd.snd.snd.fst = (0 : Int) ∧ (l.getD j node0).snd.snd.snd.snd.fst = (0 : Int) ∧ (l.getD j node0).snd.snd.snd.snd.snd = (0 : Int))) = true → aBin Try.prog BinOp.add (3 : Nat) (I (↑j : Int)) (I 1) = some (I (↑(j + (1 : Nat)) : Int)) ∧ (32 : Nat) = (32 : Nat) ∧ j < l.length ∧ Keep (AV.bnds (0 : Nat) (0 : Nat) (0 : Nat) [AV.sl (nodesA l) l.length r, AV.sl (nodesA l) l.length r, I (↑l.length : Int), I (↑(j + (1 : Nat)) : Int)] = true ∧ (H.mk [[AV.bool (l.getD j node0).fst, I (l.getD j node0).snd.fst, I (l.getD j node0).snd.snd.fst, I (l.getD j node0).snd.snd.snd.fst, I (l.getD j node0).snd.snd.snd.snd.fst, I (l.getD j node0).snd.snd.snd.snd.snd]] [] []).clean (0 : Nat) ∧ H.mk [] [] [] = H.mk [] [] [] ∧ [AV.sl (nodesA l) l.length r, AV.sl (nodesA l) l.length r, I (↑l.length : Int), I (↑(j + (1 : Nat)) : Int)] = [AV.sl (nodesA l) l.length r, AV.sl (nodesA l) l.length r, I (↑l.length : Int), I (↑(j + (1 : Nat)) : Int)] ∧ ∀ (i : Nat), i < j + (1 : Nat) → okN l i = true)) ∧ (((l.getD j node0).fst && decide (((l.getD j node0).snd.fst = (0 : Int) ∨ (l.getD j node0).snd.fst = (1 : Int)) ∧ (l.getD j node0).snd.snd.fst = (0 : Int) ∧ (l.getD j node0).snd.snd.snd.fst = (0 : Int) ∧ (l.getD j node0).snd.snd.snd.snd.fst = (0 : Int) ∧ (l.getD j node0).snd.snd.snd.snd.snd = (0 : Int))) = false → aCall (Sof [c73.to, c74.to]) (AV.fn (Fn.func (74 : Nat)) [] []) [AV.agg [AV.bool (l.getD j node0).fst, I (l.getD j node0).snd.fst, I (l.getD j node0).snd.snd.fst, I (l.getD j node0).snd.snd.snd.fst, I (l.getD j node0).snd.snd.snd.snd.fst, I (l.getD j node0).snd.snd.snd.snd.snd], I (↑j : Int), I (↑l.length : Int)] (H.mk [[AV.bool (l.getD j node0).fst, I (l.getD j node0).snd.fst, I (l.getD j node0).snd.snd.fst, I (l.getD j node0).snd.snd.snd.fst, I (l.getD j node0).snd.snd.snd.snd.fst, I (l.getD j node0).snd.snd.snd.snd.snd]] [] []) = some (AV.bool (!(l.getD j node0).fst && decide ((l.getD j node0).snd.fst = (0 : Int) ∧ ((l.getD j node0).snd.snd.fst = (0 : Int) ∨ (l.getD j node0).snd.snd.fst = (1 : Int)) ∧ (0 : Int) ≤ (l.getD j node0).snd.snd.snd.fst ∧ (l.getD j node0).snd.snd.snd.fst < (16 : Int) ∧ (↑j : Int) < (l.getD j node0).snd.snd.snd.snd.fst ∧ (l.getD j node0).snd.snd.snd.snd.fst < (↑l.length : Int) ∧ (↑j : Int) < (l.getD j node0).snd.snd.snd.snd.snd ∧ (l.getD j node0).snd.snd.snd.snd.snd < (↑l.length : Int))), H.mk [[AV.bool (l.getD j node0).fst, I (l.getD j node0).snd.fst, I (l.getD j node0).snd.snd.fst, I (l.getD j node0).snd.snd.snd.fst, I (l.getD j node0).snd.snd.snd.snd.fst, I (l.getD j node0).snd.snd.snd.snd.snd]] [] []) ∧ ((!(l.getD j node0).fst && decide ((l.getD j node0).snd.fst = (0 : Int) ∧ ((l.getD j node0).snd.snd.fst = (0 : Int) ∨ (l.getD j node0).snd.snd.fst = (1 : Int)) ∧ (0 : Int) ≤ (l.getD j node0).snd.snd.snd.fst ∧ (l.getD j node0).snd.snd.snd.fst < (16 : Int) ∧ (↑j : Int) < (l.getD j node0).snd.snd.snd.snd.fst ∧ (l.getD j node0).snd.snd.snd.snd.fst < (↑l.length : Int) ∧ (↑j : Int) < (l.getD j node0).snd.snd.snd.snd.snd ∧ (l.getD j node0).snd.snd.snd.snd.snd < (↑l.length : Int))) = true → aBin Try.prog BinOp.add (3 : Nat) (I (↑j : Int)) (I 1) = some (I (↑(j + (1 : Nat)) : Int)) ∧ (32 : Nat) = (32 : Nat) ∧ j < l.length ∧ Keep (AV.bnds (0 : Nat) (0 : Nat) (0 : Nat) [AV.sl (nodesA l) l.length r, AV.sl (nodesA l) l.length r, I (↑l.length : Int), I (↑(j + (1 : Nat)) : Int)] = true ∧ (H.mk [[AV.bool (l.getD j node0).fst, I (l.getD j node0).snd.fst, I (l.getD j node0).snd.snd.fst, I (l.getD j node0).snd.snd.snd.fst, I (l.getD j node0).snd.snd.snd.snd.fst, I (l.getD j node0).snd.snd.snd.snd.snd]] [] []).clean (0 : Nat) ∧ H.mk [] [] [] = H.mk [] [] [] ∧ [AV.sl (nodesA l) l.length r, AV.sl (nodesA l) l.length r, I (↑l.length : Int), I (↑(j + (1 : Nat)) : Int)] = [AV.sl (nodesA l) l.length r, AV.sl (nodesA l) l.length r, I (↑l.length : Int), I (↑(j + (1 : Nat)) : Int)] ∧ ∀ (i : Nat), i < j + (1 : Nat) → okN l i = true)) ∧ ((!(l.getD j node0).fst && decide ((l.getD j node0).snd.fst = (0 : Int) ∧ ((l.getD j node0).snd.snd.fst = (0 : Int) ∨ (l.getD j node0).snd.snd.fst = (1 : Int)) ∧ (0 : Int) ≤ (l.getD j node0).snd.snd.snd.fst ∧ (l.getD j node0).snd.snd.snd.fst < (16 : Int) ∧ (↑j : Int) < (l.getD j node0).snd.snd.snd.snd.fst ∧ (l.getD j node0).snd.snd.snd.snd.fst < (↑l.length : Int) ∧ (↑j : Int) < (l.getD j node0).snd.snd.snd.snd.snd ∧ (l.getD j node0).snd.snd.snd.snd.snd < (↑l.length : Int))) = false → (32 : Nat) = (32 : Nat) ∧ hits [Out.mk Nat AX.ret [(2 : Nat)] (fun i => i < l.length ∧ okN l i = false) (fun x => [AV.bool false]) (fun i => H.mk [ndb (nd l i)] [] []) fun x => [], Out.mk Unit (AX.exit (0 : Nat)) [] (fun x => ∀ (i : Nat), i < l.length → okN l i = true) (fun x => []) (fun x => H.nil) fun x => []] AX.ret [AV.sl (nodesA l) l.length r, u (1 : Nat), AV.bool false, I (↑j : Int), AV.ptr 0 0, u (5 : Nat), u (6 : Nat), u (7 : Nat), u (8 : Nat), u (9 : Nat), u (10 : Nat), u (11 : Nat), u (12 : Nat), AV.sl (nodesA l) l.length r, I (↑l.length : Int), I (↑j : Int), AV.bool true, I (↑j : Int), AV.cptr (nodesA (List.drop j l)), AV.agg [AV.bool (l.getD j node0).fst, I (l.getD j node0).snd.fst, I (l.getD j node0).snd.snd.fst, I (l.getD j node0).snd.snd.snd.fst, I (l.getD j node0).snd.snd.snd.snd.fst, I (l.getD j node0).snd.snd.snd.snd.snd], AV.agg [AV.bool (l.getD j node0).fst, I (l.getD j node0).snd.fst, I (l.getD j node0).snd.snd.fst, I (l.getD j node0).snd.snd.snd.fst, I (l.getD j node0).snd.snd.snd.snd.fst, I (l.getD j node0).snd.snd.snd.snd.snd], AV.bool false, AV.bool true, AV.bool true, AV.agg [AV.bool (l.getD j node0).fst, I (l.getD j node0).snd.fst, I (l.getD j node0).snd.snd.fst, I (l.getD j node0).snd.snd.snd.fst, I (l.getD j node0).snd.snd.snd.snd.fst, I (l.getD j node0).snd.snd.snd.snd.snd], I (↑j : Int), AV.sl (nodesA l) l.length r, I (↑l.length : Int), AV.bool false, AV.bool true, AV.bool true, u (31 : Nat)] (H.mk [[AV.bool (l.getD j node0).fst, I (l.getD j node0).snd.fst, I (l.getD j node0).snd.snd.fst, I (l.getD j node0).snd.snd.snd.fst, I (l.getD j node0).snd.snd.snd.snd.fst, I (l.getD j node0).snd.snd.snd.snd.snd]] [] [])))) (by kernel_rfl) ?_⟩
    refine ⟨by first | with_reducible assumption | omega | assumption, ?_⟩
    refine ⟨ix_nodes (by kernel_rfl) (by omega) hr1, ?_⟩
    refine ⟨by first | exact ld_nodes (by kernel_rfl) (by kernel_rfl) (by kernel_rfl) (by omega) | exact ldf_nodes (by kernel_rfl) (by kernel_rfl) (by omega) rfl, ?_⟩
    refine ⟨by first | (refine acall_hit (c := c73.to) (((l.getD j node0).fst, (l.getD j node0).snd.fst, (l.getD j node0).snd.snd.fst, (l.getD j node0).snd.snd.snd.fst, (l.getD j node0).snd.snd.snd.snd.fst, (l.getD j node0).snd.snd.snd.snd.snd)) _ rfl ?_; first | exact True.intro | exact hp | exact hp' | (simp only [c73, c74, PCtr.to, pctr, lctr, small, tiny, rng, decide_eq_true_eq, decide_eq_false_iff_not, true_or, or_true, true_and, and_true, Int.reduceEq, Int.reduceNeg, eq_self, reduceIte, if_true, if_false]; first | assumption | omega) | (simp only [c73, c74, PCtr.to, pctr, lctr, small, tiny, rng, decide_eq_true_eq, decide_eq_false_iff_not, true_or, or_true, true_and, and_true, Int.reduceEq, Int.reduceNeg, eq_self, reduceIte, if_true, if_false] at *; first | assumption | omega)) | (refine acall_b (acall_hit (c := c73.to) (((l.getD j node0).fst, (l.getD j node0).snd.fst, (l.getD j node0).snd.snd.fst, (l.getD j node0).snd.snd.snd.fst, (l.getD j node0).snd.snd.snd.snd.fst, (l.getD j node0).snd.snd.snd.snd.snd)) _ rfl ?_) (by assumption); first | exact True.intro | exact hp | exact hp' | (simp only [c73, c74, PCtr.to, pctr, lctr, small, tiny, rng, decide_eq_true_eq, decide_eq_false_iff_not, true_or, or_true, true_and, and_true, Int.reduceEq, Int.reduceNeg, eq_self, reduceIte, if_true, if_false]; first | assumption | omega) | (simp only [c73, c74, PCtr.to, pctr, lctr, small, tiny, rng, decide_eq_true_eq, decide_eq_false_iff_not, true_or, or_true, true_and, and_true, Int.reduceEq, Int.reduceNeg, eq_self, reduceIte, if_true, if_false] at *; first | assumption | omega)), ?_⟩
    refine And.intro ?_ ?_
    · skip
      intro w0
      refine ⟨told_add (by with_reducible assumption), ?_⟩
      refine ⟨by first | with_reducible assumption | omega | assumption, ?_⟩
      refine ⟨by first | with_reducible assumption | omega | assumption, ?_⟩
      first | exact ⟨by simp [AV.bnds, AV.bnd, hb], clean0 _, rfl, rfl, ok_next hI (okN_1 w0)⟩ | exact ⟨by simp [AV.bnds, AV.bnd, hb], clean0 _, rfl, rfl, ok_next hI (okN_2 w1)⟩
    · skip
      intro w0
      refine ⟨by first | (refine acall_hit (c := c74.to) (((l.getD j node0).fst, (l.getD j node0).snd.fst, (l.getD j node0).snd.snd.fst, (l.getD j node0).snd.snd.snd.fst, (l.getD j node0).snd.snd.snd.snd.fst, (l.getD j node0).snd.snd.snd.snd.snd, (↑j : Int), (↑l.length : Int))) _ rfl ?_; first | exact True.intro | exact hp | exact hp' | (simp only [c73, c74, PCtr.to, pctr, lctr, small, tiny, rng, decide_eq_true_eq, decide_eq_false_iff_not, true_or, or_true, true_and, and_true, Int.reduceEq, Int.reduceNeg, eq_self, reduceIte, if_true, if_false]; first | assumption | omega) | (simp only [c73, c74, PCtr.to, pctr, lctr, small, tiny, rng, decide_eq_true_eq, decide_eq_false_iff_not, true_or, or_true, true_and, and_true, Int.reduceEq, Int.reduceNeg, eq_self, reduceIte, if_true, if_false] at *; first | assumption | omega)) | (refine acall_b (acall_hit (c := c74.to) (((l.getD j node0).fst, (l.getD j node0).snd.fst, (l.getD j node0).snd.snd.fst, (l.getD j node0).snd.snd.snd.fst, (l.getD j node0).snd.snd.snd.snd.fst, (l.getD j node0).snd.snd.snd.snd.snd, (↑j : Int), (↑l.length : Int))) _ rfl ?_) (by assumption); first | exact True.intro | exact hp | exact hp' | (simp only [c73, c74, PCtr.to, pctr, lctr, small, tiny, rng, decide_eq_true_eq, decide_eq_false_iff_not, true_or, or_true, true_and, and_true, Int.reduceEq, Int.reduceNeg, eq_self, reduceIte, if_true, if_false]; first | assumption | omega) | (simp only [c73, c74, PCtr.to, pctr, lctr, small, tiny, rng, decide_eq_true_eq, decide_eq_false_iff_not, true_or, or_true, true_and, and_true, Int.reduceEq, Int.reduceNeg, eq_self, reduceIte, if_true, if_false] at *; first | assumption | omega)), ?_⟩
      refine And.intro ?_ ?_
      · skip
        intro w1
        refine ⟨told_add (by with_reducible assumption), ?_⟩
        refine ⟨by first | with_reducible assumption | omega | assumption, ?_⟩
        refine ⟨by first | with_reducible assumption | omega | assumption, ?_⟩
        first | exact ⟨by simp [AV.bnds, AV.bnd, hb], clean0 _, rfl, rfl, ok_next hI (okN_1 w0)⟩ | exact ⟨by simp [AV.bnds, AV.bnd, hb], clean0 _, rfl, rfl, ok_next hI (okN_2 w1)⟩
      · skip
        intro w1
        refine ⟨by first | with_reducible assumption | omega | assumption, ?_⟩
        exact .inl ⟨j, ⟨hz', okN_f w0 w1⟩, rfl, rfl, rfl⟩
  · have hz : (l.length : Int) ≤ j := by omega
    refine ⟨[Ans.o (Orc.b false)], fun u => of_eq ((↑l.length : Int) ≤ (↑j : Int) ∧ (32 : Nat) = (32 : Nat) ∧ hits [Out.mk Nat AX.ret [(2 : Nat)] (fun i => i < l.length ∧ okN l i = false) (fun x => [AV.bool false]) (fun i => H.mk [ndb (nd l i)] [] []) fun x => [], Out.mk Unit (AX.exit (0 : Nat)) [] (fun x => ∀ (i : Nat), i < l.length → okN l i = true) (fun x => []) (fun x => H.nil) fun x => []] (AX.exit (0 : Nat)) [AV.sl (nodesA l) l.length r, u (1 : Nat), u (2 : Nat), u (3 : Nat), u (4 : Nat), u (5 : Nat), u (6 : Nat), u (7 : Nat), u (8 : Nat), u (9 : Nat), u (10 : Nat), u (11 : Nat), u (12 : Nat), AV.sl (nodesA l) l.length r, I (↑l.length : Int), I (↑j : Int), AV.bool false, u (17 : Nat), u (18 : Nat), u (19 : Nat), u (20 : Nat), u (21 : Nat), u (22 : Nat), u (23 : Nat), u (24 : Nat), u (25 : Nat), u (26 : Nat), u (27 : Nat), u (28 : Nat), u (29 : Nat), u (30 : Nat), u (31 : Nat)] (H.mk [] [] [])) (by kernel_rfl) ?_⟩
    refine ⟨by first | with_reducible assumption | omega | assumption, ?_⟩
    refine ⟨by first | with_reducible assumption | omega | assumption, ?_⟩
    exact .inr (.inl ⟨(), fun i hi => hI i (by omega), rfl, rfl, rfl⟩)
/-- is it a plan? -/
def isP (l : List Nd) : Bool := decide (1 ≤ l.length ∧ l.length ≤ 100 ∧ ∀ i, i < l.length → okN l i = true)
theorem isP_f {l : List Nd} {i : Nat} (h : i < l.length ∧ okN l i = false) : isP l = false := by
  simp only [isP, decide_eq_false_iff_not]
  rintro ⟨_, _, q⟩
  rw [q i h.1] at h; cases h.2
theorem ok46 : FokM Try.prog none1 46 Try.f46 := ⟨mixed, by kernel_rfl, by kernel_rfl, by kernel_rfl, by kernel_rfl⟩
theorem r46 (l : List Nd) (r : Room) (h0 : l.length ≤ 4611686018427387904) (h1 : rok l r) (hb : r.bnd 0 = true) : Body (EnT [c73.to, c74.to]) none1 Try.f46 [nl l r] .nil (.bool (isP l), .nil) := by
  by_cases ha : 1 ≤ l.length ∧ l.length ≤ 100
  · have ha1 : (1 : Int) ≤ l.length := by omega
    have ha2 : (l.length : Int) ≤ 100 := by omega
    have hl := lp46 l r ha.2 h1 hb
    refine body_s ([Ans.o (Orc.b false), Ans.o (Orc.b false), Ans.loop [(0 : Nat), (13 : Nat), (14 : Nat), (15 : Nat)] [Out.mk Nat AX.ret [(2 : Nat)] (fun i => i < l.length ∧ okN l i = false) (fun x => [AV.bool false]) (fun i => H.mk [ndb (nd l i)] [] []) fun y => [], Out.mk Unit (AX.exit (0 : Nat)) [] (fun x => ∀ (i : Nat), i < l.length → okN l i = true) (fun x => []) (fun x => H.nil) fun y => []]]) ((1 : Int) ≤ (↑l.length : Int) ∧ (↑l.length : Int) ≤ (100 : Int) ∧ LoopS (Env.mk Try.prog (Sof [c73.to, c74.to]) (Pof (P := Try.prog) []) H.nil.base (300 : Nat)) (loopAt Try.f46 (0 : Nat)) (32 : Nat) [(0 : Nat), (13 : Nat), (14 : Nat), (15 : Nat)] [AV.sl (nodesA l) l.length r, AV.sl (nodesA l) l.length r, I (↑l.length : Int), I 0] (H.mk [] [] []) [Out.mk Nat AX.ret [(2 : Nat)] (fun i => i < l.length ∧ okN l i = false) (fun x => [AV.bool false]) (fun i => H.mk [ndb (nd l i)] [] []) fun y => [], Out.mk Unit (AX.exit (0 : Nat)) [] (fun x => ∀ (i : Nat), i < l.length → okN l i = true) (fun x => []) (fun x => H.nil) fun y => []] ∧ (∀ (y : Nat), y < l.length ∧ okN l y = false → ∀ (u : Nat → AV), (AV.bool false, H.mk [] [] []) = (AV.bool (isP l), H.mk [] [] [])) ∧ (∀ (y : Unit), (∀ (i : Nat), i < l.length → okN l i = true) → ∀ (u : Nat → AV), (AV.bool true, H.mk [] [] []) = (AV.bool (isP l), H.mk [] [] [])) ∧ True) (by kernel_rfl) ?_
    refine ⟨by first | with_reducible assumption | omega | assumption, ?_⟩
    refine ⟨by first | with_reducible assumption | omega | assumption, ?_⟩
    refine ⟨hl, ?_⟩
    refine And.intro ?_ ?_
    · skip
      intro y
      intro w1
      intro u
      first | (rw [isP_f (by assumption)]) | (rw [show isP l = true from decide_eq_true ⟨ha.1, ha.2, by assumption⟩])
    · skip
      refine And.intro ?_ ?_
      · skip
        intro y
        intro w1
        intro u
        first | (rw [isP_f (by assumption)]) | (rw [show isP l = true from decide_eq_true ⟨ha.1, ha.2, by assumption⟩])
      · skip
        trivial
  · have hf : isP l = false := by
      simp only [isP, decide_eq_false_iff_not]
      exact fun q => ha ⟨q.1, q.2.1⟩
    rw [hf]
    by_cases hc : (l.length : Int) < 1
    · refine body_s ([Ans.o (Orc.b true)]) ((↑l.length : Int) < (1 : Int) ∧ (AV.bool false, H.mk [] [] []) = (AV.bool false, H.mk [] [] [])) (by kernel_rfl) ?_
      refine ⟨by first | with_reducible assumption | omega | assumption, ?_⟩
      rfl
    · have hc' : (1 : Int) ≤ l.length := by omega
      have hd : (100 : Int) < l.length := by omega
      refine body_s ([Ans.o (Orc.b false), Ans.o (Orc.b true)]) ((1 : Int) ≤ (↑l.length : Int) ∧ (100 : Int) < (↑l.length : Int) ∧ (AV.bool false, H.mk [] [] []) = (AV.bool false, H.mk [] [] [])) (by kernel_rfl) ?_
      refine ⟨by first | with_reducible assumption | omega | assumption, ?_⟩
      refine ⟨by first | with_reducible assumption | omega | assumption, ?_⟩
      rfl
noncomputable def c46 : PCtr Try.prog := sctr ok46 (X := List Nd × Room) (fun x => [nl x.1 x.2]) (fun x => x.1.length ≤ 4611686018427387904 ∧ rok x.1 x.2) (fun x => .bool (isP x.1))
  (by rintro ⟨l, r⟩ ⟨m, s⟩ e _ _; simp at e; simp only [e.1]) (fun x => by simp [AV.bnds, AV.bnd, AV.wk, rm_wk_bnd]) (fun _ => rfl) (fun x hx => ⟨_, _, _, .pure c73 (.pure c74 .nil), r46 x.1 x.2.wk hx.1 (by simpa using hx.2) (rm_wk_bnd _)⟩)
end Go.Proofs.Tlk

