/- Layer 3: what the program says. -/
import Derived.Test.YtheoddlhpklccaaTkK
import Derived.KernelRfl
set_option linter.unusedSimpArgs false
set_option linter.unusedVariables false
set_option linter.unnecessarySimpa false
set_option maxHeartbeats 400000
set_option maxRecDepth 100000
namespace Go.Proofs.Tlk
open Go Go.VM
def intR : Rec Int where
  e x := [I x]
  v x := [.int .i64 x]
  z := 1
  d := 0
  pos := by decide
  len _ := rfl
  vlen _ := rfl
  one _ := rfl
  bnds _ _ _ _ := rfl
  plain _ := rfl
  wk _ := rfl
  frz _ _ _ _ _ := rfl
  rel G x := by simp [VRels, VRel]
theorem intR_ints : ∀ l : List Int, intR.cells l = ints l
  | [] => rfl
  | x :: l => by rw [intR.cells_cons, intR_ints l]; rfl
theorem rm_rmz (l : List Int) : rmz 1 l = rm 0 l := by cases l <;> rfl
theorem tk_tkz (l : List Int) : tkz l = tk l := by cases l <;> rfl
theorem app_intsb {t : TypeId} (hT : Rec.appT Try.prog t 1 = true) {l : List Int} {x : Int} {bs : List (List AV)} (hn : l.length ≤ 1000000) :
    aAppend Try.prog t t (.sl (ints l) l.length (rm 0 l)) (.sl [I x] 1 .full) ⟨bs, tk l, []⟩ = some (.sl (ints (l ++ [x])) (l ++ [x]).length (rm 0 (l ++ [x])), ⟨bs, tk (l ++ [x]), []⟩) := by
  have := intR.app (P := Try.prog) (t := t) hT (l := l) (x := x) (bs := bs) hn
  simp only [intR_ints, tk_tkz] at this
  rw [← rm_rmz, ← rm_rmz]
  exact this
theorem simp56 : allSimpleM none1 (loopAt Try.f56 0) = true := by kernel_rfl
abbrev h56 (l : List Nd) (r c i : Nat) (a : List Int) : H := ⟨[[I r, I c], ndb (nd l i)], tk a, []⟩
def o56 (l : List Nd) (r c : Nat) : List Out := [.mk (Nat × List Int) (.exit 0) [5, 6] (fun y => y.1 < l.length ∧ y.2.length ≤ y.1 ∧ (l.getD y.1 node0).1 = true ∧ y.2 ++ [(nd l y.1).2.1] = pth l r c l.length 0) (fun y => [.sl (ints y.2) y.2.length (rm 0 y.2), .ptr 1 0]) (fun y => h56 l r c y.1 y.2) (fun _ => [])]
theorem lp56 (l : List Nd) (q : Room) (r c : Nat) (h : isP l = true) (h1 : rok l q) (hr : r < 4) (hc : c < 4) : LoopS (EnT []) (loopAt Try.f56 0) 41 [0, 3, 5, 6] [nl l q, .ptr 0 0, .sl (ints []) 0 (rm 0 ([] : List Int)), .ptr 1 0] (h56 l r c 0 []) (o56 l r c) := by
  have hR : Rests (EnT []) none1 := rests mixed .nil
  have hlen := isP_len h
  refine loop_s hR simp56 none (by intro _ h; cases h) (fun j vs h => ∃ (i : Nat) (a : List Int), i < l.length ∧ a ++ pth l r c l.length i = pth l r c l.length 0 ∧ h = h56 l r c i a ∧ vs = [nl l q, .ptr 0 0, .sl (ints a) a.length (rm 0 a), .ptr 1 0] ∧ j ≤ i ∧ a.length ≤ i) l.length ⟨0, [], by omega, rfl, rfl, rfl, Nat.le_refl _, Nat.le_refl _⟩ (by intro _ h; cases h) ?_
  rintro j vs h' hj ⟨i, a, hi, hpa, rfl, rfl, hji, hai⟩
  have hr1 := rok_idx h1 hi
  rcases hq : (l.getD i node0).1 with _ | _
  · obtain ⟨_, g1, g2, g3, g4, g5, g6, g7⟩ := isP_at h hi hq
    have hld : aLoad Try.prog 3 (List.drop (l.getD i node0).2.2.1.toNat [I r, I c]) = some (I (en r c (l.getD i node0).2.2.1)) := by
      rcases g1 with e | e <;> (rw [e]; simp only [en]; rfl)
    have ev0 := wdi g2 g3 (en_lt hr hc (l.getD i node0).2.2.1)
    have hn := hnx h hi hq r c
    obtain ⟨k1, k2⟩ := nx_gt h hi hq r c
    rw [pth_step h r c hi hq] at hpa
    have hap := fun bs => app_intsb (t := 41) (by kernel_rfl) (l := a) (x := (wd (l.getD i node0) r c : Int)) (bs := bs) (by omega)
    have hap := hap [[I r, I c], ndb (nd l i)]
    refine ⟨[Ans.btold (12 : Nat) false, Ans.o (Orc.val 18 (AV.ptr 0 (nd l i).snd.snd.fst.toNat) H.nil), Ans.o (Orc.val 19 (I (↑(en r c (l.getD i node0).snd.snd.fst) : Int)) H.nil), Ans.o (Orc.val 21 (I (↑((l.getD i node0).snd.snd.snd.fst.toNat / (2 : Nat) ^ en r c (l.getD i node0).snd.snd.fst % (2 : Nat)) : Int)) H.nil), Ans.o (Orc.val 25 (AV.sl (ints (a ++ [(↑(wd (l.getD i node0) r c) : Int)])) (a ++ [(↑(wd (l.getD i node0) r c) : Int)]).length (rm (0 : Nat) (a ++ [(↑(wd (l.getD i node0) r c) : Int)]))) (H.mk [[I (↑r : Int), I (↑c : Int)], ndb (nd l i)] (tk (a ++ [(↑(wd (l.getD i node0) r c) : Int)])) [])), Ans.o (Orc.val 33 (I (↑(nx (l.getD i node0) r c) : Int)) H.nil), Ans.o (Orc.val 34 (AV.cptr (nodesA (List.drop (nx (l.getD i node0) r c) l))) H.nil), Ans.o (Orc.val 35 (AV.agg [AV.bool (l.getD (nx (l.getD i node0) r c) node0).fst, I (l.getD (nx (l.getD i node0) r c) node0).snd.fst, I (l.getD (nx (l.getD i node0) r c) node0).snd.snd.fst, I (l.getD (nx (l.getD i node0) r c) node0).snd.snd.snd.fst, I (l.getD (nx (l.getD i node0) r c) node0).snd.snd.snd.snd.fst, I (l.getD (nx (l.getD i node0) r c) node0).snd.snd.snd.snd.snd]) H.nil)], fun u => of_eq ((nd l i).fst = false ∧ aIndexAddr Try.prog (56 : Nat) (AV.ptr 0 0) (I (nd l i).snd.snd.fst) = some (AV.ptr 0 (nd l i).snd.snd.fst.toNat) ∧ aLoad Try.prog (3 : Nat) (List.drop (nd l i).snd.snd.fst.toNat [I (↑r : Int), I (↑c : Int)]) = some (I (↑(en r c (l.getD i node0).snd.snd.fst) : Int)) ∧ aBin Try.prog BinOp.and (3 : Nat) (I ((nd l i).snd.snd.snd.fst.fdiv ((2 : Int) ^ min (↑(en r c (l.getD i node0).snd.snd.fst) : Int).toNat IntKind.i64.bits))) (I 1) = some (I (↑((l.getD i node0).snd.snd.snd.fst.toNat / (2 : Nat) ^ en r c (l.getD i node0).snd.snd.fst % (2 : Nat)) : Int)) ∧ aAppend Try.prog (41 : Nat) (41 : Nat) (AV.sl (ints a) a.length (rm (0 : Nat) a)) (AV.sl [I (↑((l.getD i node0).snd.snd.snd.fst.toNat / (2 : Nat) ^ en r c (l.getD i node0).snd.snd.fst % (2 : Nat)) : Int)] (1 : Nat) Room.full) (H.mk [[I (↑r : Int), I (↑c : Int)], [AV.bool (nd l i).fst, I (nd l i).snd.fst, I (nd l i).snd.snd.fst, I (nd l i).snd.snd.snd.fst, I (nd l i).snd.snd.snd.snd.fst, I (nd l i).snd.snd.snd.snd.snd]] (tk a) []) = some (AV.sl (ints (a ++ [(↑(wd (l.getD i node0) r c) : Int)])) (a ++ [(↑(wd (l.getD i node0) r c) : Int)]).length (rm (0 : Nat) (a ++ [(↑(wd (l.getD i node0) r c) : Int)])), H.mk [[I (↑r : Int), I (↑c : Int)], [AV.bool (nd l i).fst, I (nd l i).snd.fst, I (nd l i).snd.snd.fst, I (nd l i).snd.snd.snd.fst, I (nd l i).snd.snd.snd.snd.fst, I (nd l i).snd.snd.snd.snd.snd]] (tk (a ++ [(↑(wd (l.getD i node0) r c) : Int)])) []) ∧ aIndex Try.prog (56 : Nat) (AV.agg [I (nd l i).snd.snd.snd.snd.fst, I (nd l i).snd.snd.snd.snd.snd]) (I (↑((l.getD i node0).snd.snd.snd.fst.toNat / (2 : Nat) ^ en r c (l.getD i node0).snd.snd.fst % (2 : Nat)) : Int)) = some (I (↑(nx (l.getD i node0) r c) : Int)) ∧ aIndexAddr Try.prog (28 : Nat) (AV.sl (nodesA l) l.length q) (I (↑(nx (l.getD i node0) r c) : Int)) = some (AV.cptr (nodesA (List.drop (nx (l.getD i node0) r c) l))) ∧ aLoad Try.prog (61 : Nat) (nodesA (List.drop (nx (l.getD i node0) r c) l)) = some (AV.agg [AV.bool (l.getD (nx (l.getD i node0) r c) node0).fst, I (l.getD (nx (l.getD i node0) r c) node0).snd.fst, I (l.getD (nx (l.getD i node0) r c) node0).snd.snd.fst, I (l.getD (nx (l.getD i node0) r c) node0).snd.snd.snd.fst, I (l.getD (nx (l.getD i node0) r c) node0).snd.snd.snd.snd.fst, I (l.getD (nx (l.getD i node0) r c) node0).snd.snd.snd.snd.snd]) ∧ (41 : Nat) = (41 : Nat) ∧ j < l.length ∧ Keep (∃ i_1 a_1, i_1 < l.length ∧ a_1 ++ pth l r c l.length i_1 = pth l r c l.length (0 : Nat) ∧ H.mk [[I (↑r : Int), I (↑c : Int)], [AV.bool (l.getD (nx (l.getD i node0) r c) node0).fst, I (l.getD (nx (l.getD i node0) r c) node0).snd.fst, I (l.getD (nx (l.getD i node0) r c) node0).snd.snd.fst, I (l.getD (nx (l.getD i node0) r c) node0).snd.snd.snd.fst, I (l.getD (nx (l.getD i node0) r c) node0).snd.snd.snd.snd.fst, I (l.getD (nx (l.getD i node0) r c) node0).snd.snd.snd.snd.snd]] (valH (Oper.mk (some (35 : Nat)) (Op.load (61 : Nat) (Operand.tmp (34 : Nat))) (61 : Nat) "plans.go:87" #[Edge.mk (8 : Nat) Ground.data] none) (valH (Oper.mk (some (34 : Nat)) (Op.indexAddr (28 : Nat) (Operand.tmp (26 : Nat)) (Operand.tmp (33 : Nat))) (0 : Nat) "plans.go:87" #[Edge.mk (0 : Nat) Ground.data, Edge.mk (7 : Nat) Ground.data] none) (valH (Oper.mk (some (33 : Nat)) (Op.index (56 : Nat) (Operand.tmp (31 : Nat)) (Operand.tmp (32 : Nat))) (3 : Nat) "plans.go:87" #[Edge.mk (5 : Nat) Ground.data, Edge.mk (6 : Nat) Ground.data] none) (valH (Oper.mk (some (25 : Nat)) (Op.call (Call.mk (Callee.builtin Builtin.append) #[Operand.tmp (22 : Nat), Operand.tmp (24 : Nat)] #[(41 : Nat), (41 : Nat)])) (41 : Nat) "plans.go:86" #[Edge.mk (0 : Nat) Ground.data, Edge.mk (2 : Nat) Ground.data] none) (valH (Oper.mk (some (21 : Nat)) (Op.binOp BinOp.and (3 : Nat) (Operand.tmp (20 : Nat)) (Operand.const (Value.int IntKind.i64 (1 : Int))) (3 : Nat)) (3 : Nat) "plans.go:85" #[Edge.mk (6 : Nat) Ground.data] none) (valH (Oper.mk (some (19 : Nat)) (Op.load (3 : Nat) (Operand.tmp (18 : Nat))) (3 : Nat) "plans.go:85" #[Edge.mk (4 : Nat) Ground.data] none) (valH (Oper.mk (some (18 : Nat)) (Op.indexAddr (56 : Nat) (Operand.tmp (3 : Nat)) (Operand.tmp (17 : Nat))) (0 : Nat) "plans.go:85" #[Edge.mk (3 : Nat) Ground.data] none) (h56 l r c i a) H.nil) H.nil) H.nil) (H.mk [[I (↑r : Int), I (↑c : Int)], ndb (nd l i)] (tk (a ++ [(↑(wd (l.getD i node0) r c) : Int)])) [])) H.nil) H.nil) H.nil).toks [] = H.mk [[I (↑r : Int), I (↑c : Int)], [AV.bool (nd l i_1).fst, I (nd l i_1).snd.fst, I (nd l i_1).snd.snd.fst, I (nd l i_1).snd.snd.snd.fst, I (nd l i_1).snd.snd.snd.snd.fst, I (nd l i_1).snd.snd.snd.snd.snd]] (tk a_1) [] ∧ [AV.sl (nodesA l) l.length q, AV.ptr 0 0, AV.sl (ints (a ++ [(↑(wd (l.getD i node0) r c) : Int)])) (a ++ [(↑(wd (l.getD i node0) r c) : Int)]).length (rm (0 : Nat) (a ++ [(↑(wd (l.getD i node0) r c) : Int)])), AV.ptr 1 0] = [AV.sl (nodesA l) l.length q, AV.ptr 0 0, AV.sl (ints a_1) a_1.length (rm (0 : Nat) a_1), AV.ptr 1 0] ∧ j + (1 : Nat) ≤ i_1 ∧ a_1.length ≤ i_1)) (by kernel_rfl) ?_⟩
    refine ⟨by first | with_reducible assumption | omega | assumption, ?_⟩
    refine ⟨by (rcases g1 with e | e <;> (rw [e]; rfl)), ?_⟩
    refine ⟨hld, ?_⟩
    refine ⟨told_and (by with_reducible assumption), ?_⟩
    refine ⟨hap, ?_⟩
    refine ⟨hn, ?_⟩
    refine ⟨ix_nodes (by kernel_rfl) (by omega) hr1, ?_⟩
    refine ⟨by first | exact ld_nodes (by kernel_rfl) (by kernel_rfl) (by kernel_rfl) (by omega) | exact ldf_nodes (by kernel_rfl) (by kernel_rfl) (by omega) rfl, ?_⟩
    refine ⟨by first | with_reducible assumption | omega | assumption, ?_⟩
    refine ⟨by first | with_reducible assumption | omega | assumption, ?_⟩
    exact ⟨nx (nd l i) r c, a ++ [(wd (nd l i) r c : Int)], k2, by rw [List.append_assoc]; exact hpa, rfl, rfl, Nat.lt_of_le_of_lt hji k1, by rw [List.length_append]; exact Nat.lt_of_le_of_lt hai k1⟩
  · refine ⟨[Ans.btold (12 : Nat) true], fun u => of_eq ((nd l i).fst = true ∧ (41 : Nat) = (41 : Nat) ∧ hits [Out.mk (Nat × List Int) (AX.exit (0 : Nat)) [(5 : Nat), (6 : Nat)] (fun y => y.fst < l.length ∧ y.snd.length ≤ y.fst ∧ (l.getD y.fst node0).fst = true ∧ y.snd ++ [(nd l y.fst).snd.fst] = pth l r c l.length (0 : Nat)) (fun y => [AV.sl (ints y.snd) y.snd.length (rm (0 : Nat) y.snd), AV.ptr 1 0]) (fun y => h56 l r c y.fst y.snd) fun x => []] (AX.exit (0 : Nat)) [AV.sl (nodesA l) l.length q, u (1 : Nat), u (2 : Nat), AV.ptr 0 0, u (4 : Nat), AV.sl (ints a) a.length (rm (0 : Nat) a), AV.ptr 1 0, u (7 : Nat), u (8 : Nat), u (9 : Nat), u (10 : Nat), AV.ptr 1 0, AV.bool true, AV.bool false, u (14 : Nat), u (15 : Nat), u (16 : Nat), u (17 : Nat), u (18 : Nat), u (19 : Nat), u (20 : Nat), u (21 : Nat), u (22 : Nat), u (23 : Nat), u (24 : Nat), u (25 : Nat), u (26 : Nat), u (27 : Nat), u (28 : Nat), u (29 : Nat), u (30 : Nat), u (31 : Nat), u (32 : Nat), u (33 : Nat), u (34 : Nat), u (35 : Nat), u (36 : Nat), u (37 : Nat), u (38 : Nat), u (39 : Nat), u (40 : Nat)] (H.mk [[I (↑r : Int), I (↑c : Int)], [AV.bool (nd l i).fst, I (nd l i).snd.fst, I (nd l i).snd.snd.fst, I (nd l i).snd.snd.snd.fst, I (nd l i).snd.snd.snd.snd.fst, I (nd l i).snd.snd.snd.snd.snd]] (tk a) [])) (by kernel_rfl) ?_⟩
    refine ⟨by first | with_reducible assumption | omega | assumption, ?_⟩
    refine ⟨by first | with_reducible assumption | omega | assumption, ?_⟩
    exact .inl ⟨(i, a), ⟨hi, hai, hq, by rw [← hpa, pth_leaf r c hi hq]⟩, rfl, rfl, rfl⟩
theorem leave_b (bs : List (List AV)) (l : List Int) : leave ⟨0, 0, 0⟩ (.sl (ints l) l.length (rm 0 l)) ⟨bs, tk l, []⟩ = (.sl (ints l) l.length (rm 0 l), ⟨[], tk l, []⟩) := by
  cases l with
  | nil => rfl
  | cons x l =>
    simp [leave, AV.bnd, frz, Room.bnd, retok, rm, tk]
    intro hh
    have : AV.bnds 0 0 0 (I x :: ints l) = true := by simp [AV.bnds, AV.bnd]
    rw [this] at hh; cases hh
theorem ok56 : FokM Try.prog none1 56 Try.f56 := ⟨mixed, by kernel_rfl, by kernel_rfl, by kernel_rfl, by kernel_rfl⟩
theorem r56 (l : List Nd) (q : Room) (r c : Nat) (h : isP l = true) (h1 : rok l q) (hr : r < 4) (hc : c < 4) : Body (EnT []) none1 Try.f56 [nl l q, .agg [I r, I c]] .nil (.sl (ints (pt l r c)) (pt l r c).length (rm 0 (pt l r c)), ⟨[], tk (pt l r c), []⟩) := by
  have hl := lp56 l q r c h h1 hr hc
  have hlen := isP_len h
  have h00 : 0 < l.length := by omega
  have hap := fun (y : Nat × List Int) => fun (hy : y.2.length ≤ 1000000) => app_intsb (t := 41) (by kernel_rfl) (l := y.2) (x := (l.getD y.1 node0).2.1) (bs := [[I r, I c], ndb (nd l y.1)]) hy
  refine body_s ([Ans.o (Orc.val 9 (AV.cptr (nodesA (List.drop (0 : Nat) l))) H.nil), Ans.o (Orc.val 10 (AV.agg [AV.bool (l.getD (0 : Nat) node0).fst, I (l.getD (0 : Nat) node0).snd.fst, I (l.getD (0 : Nat) node0).snd.snd.fst, I (l.getD (0 : Nat) node0).snd.snd.snd.fst, I (l.getD (0 : Nat) node0).snd.snd.snd.snd.fst, I (l.getD (0 : Nat) node0).snd.snd.snd.snd.snd]) H.nil), Ans.loop [(0 : Nat), (3 : Nat), (5 : Nat), (6 : Nat)] [Out.mk (Nat × List Int) (AX.exit (0 : Nat)) [(5 : Nat), (6 : Nat)] (fun y => y.fst < l.length ∧ y.snd.length ≤ y.fst ∧ (l.getD y.fst node0).fst = true ∧ y.snd ++ [(nd l y.fst).snd.fst] = pth l r c l.length (0 : Nat)) (fun y => [AV.sl (ints y.snd) y.snd.length (rm (0 : Nat) y.snd), AV.ptr 1 0]) (fun y => h56 l r c y.fst y.snd) fun y => [Ans.o (Orc.val 40 (AV.sl (ints (y.snd ++ [(nd l y.fst).snd.fst])) (y.snd ++ [(nd l y.fst).snd.fst]).length (rm (0 : Nat) (y.snd ++ [(nd l y.fst).snd.fst]))) (H.mk [[I (↑r : Int), I (↑c : Int)], [AV.bool (nd l y.fst).fst, I (nd l y.fst).snd.fst, I (nd l y.fst).snd.snd.fst, I (nd l y.fst).snd.snd.snd.fst, I (nd l y.fst).snd.snd.snd.snd.fst, I (nd l y.fst).snd.snd.snd.snd.snd]] (tk (y.snd ++ [(nd l y.fst).snd.fst])) []))]]]) (aIndexAddr Try.prog (28 : Nat) (AV.sl (nodesA l) l.length q) (I 0) = some (AV.cptr (nodesA (List.drop (0 : Nat) l))) ∧ aLoad Try.prog (61 : Nat) (nodesA (List.drop (0 : Nat) l)) = some (AV.agg [AV.bool (l.getD (0 : Nat) node0).fst, I (l.getD (0 : Nat) node0).snd.fst, I (l.getD (0 : Nat) node0).snd.snd.fst, I (l.getD (0 : Nat) node0).snd.snd.snd.fst, I (l.getD (0 : Nat) node0).snd.snd.snd.snd.fst, I (l.getD (0 : Nat) node0).snd.snd.snd.snd.snd]) ∧ LoopS (Env.mk Try.prog (Sof (P := Try.prog) []) (Pof (P := Try.prog) []) H.nil.base (300 : Nat)) (loopAt Try.f56 (0 : Nat)) (41 : Nat) [(0 : Nat), (3 : Nat), (5 : Nat), (6 : Nat)] [AV.sl (nodesA l) l.length q, AV.ptr 0 0, AV.sl [] (0 : Nat) Room.nil, AV.ptr 1 0] (H.mk [[I (↑r : Int), I (↑c : Int)], [AV.bool (l.getD (0 : Nat) node0).fst, I (l.getD (0 : Nat) node0).snd.fst, I (l.getD (0 : Nat) node0).snd.snd.fst, I (l.getD (0 : Nat) node0).snd.snd.snd.fst, I (l.getD (0 : Nat) node0).snd.snd.snd.snd.fst, I (l.getD (0 : Nat) node0).snd.snd.snd.snd.snd]] [] []) [Out.mk (Nat × List Int) (AX.exit (0 : Nat)) [(5 : Nat), (6 : Nat)] (fun y => y.fst < l.length ∧ y.snd.length ≤ y.fst ∧ (l.getD y.fst node0).fst = true ∧ y.snd ++ [(nd l y.fst).snd.fst] = pth l r c l.length (0 : Nat)) (fun y => [AV.sl (ints y.snd) y.snd.length (rm (0 : Nat) y.snd), AV.ptr 1 0]) (fun y => h56 l r c y.fst y.snd) fun y => [Ans.o (Orc.val 40 (AV.sl (ints (y.snd ++ [(nd l y.fst).snd.fst])) (y.snd ++ [(nd l y.fst).snd.fst]).length (rm (0 : Nat) (y.snd ++ [(nd l y.fst).snd.fst]))) (H.mk [[I (↑r : Int), I (↑c : Int)], [AV.bool (nd l y.fst).fst, I (nd l y.fst).snd.fst, I (nd l y.fst).snd.snd.fst, I (nd l y.fst).snd.snd.snd.fst, I (nd l y.fst).snd.snd.snd.snd.fst, I (nd l y.fst).snd.snd.snd.snd.snd]] (tk (y.snd ++ [(nd l y.fst).snd.fst])) []))]] ∧ (∀ (y : Nat × List Int), y.fst < l.length ∧ y.snd.length ≤ y.fst ∧ (l.getD y.fst node0).fst = true ∧ y.snd ++ [(nd l y.fst).snd.fst] = pth l r c l.length (0 : Nat) → ∀ (u : Nat → AV), aAppend Try.prog (41 : Nat) (41 : Nat) (AV.sl (ints y.snd) y.snd.length (rm (0 : Nat) y.snd)) (AV.sl [I (nd l y.fst).snd.fst] (1 : Nat) Room.full) (H.mk [[I (↑r : Int), I (↑c : Int)], [AV.bool (nd l y.fst).fst, I (nd l y.fst).snd.fst, I (nd l y.fst).snd.snd.fst, I (nd l y.fst).snd.snd.snd.fst, I (nd l y.fst).snd.snd.snd.snd.fst, I (nd l y.fst).snd.snd.snd.snd.snd]] (tk y.snd) []) = some (AV.sl (ints (y.snd ++ [(nd l y.fst).snd.fst])) (y.snd ++ [(nd l y.fst).snd.fst]).length (rm (0 : Nat) (y.snd ++ [(nd l y.fst).snd.fst])), H.mk [[I (↑r : Int), I (↑c : Int)], [AV.bool (nd l y.fst).fst, I (nd l y.fst).snd.fst, I (nd l y.fst).snd.snd.fst, I (nd l y.fst).snd.snd.snd.fst, I (nd l y.fst).snd.snd.snd.snd.fst, I (nd l y.fst).snd.snd.snd.snd.snd]] (tk (y.snd ++ [(nd l y.fst).snd.fst])) []) ∧ leave (Base.mk H.nil.blk.length H.nil.toks.length H.nil.maps.length) (AV.sl (ints (y.snd ++ [(nd l y.fst).snd.fst])) (y.snd ++ [(nd l y.fst).snd.fst]).length (rm (0 : Nat) (y.snd ++ [(nd l y.fst).snd.fst]))) (H.mk [[I (↑r : Int), I (↑c : Int)], [AV.bool (nd l y.fst).fst, I (nd l y.fst).snd.fst, I (nd l y.fst).snd.snd.fst, I (nd l y.fst).snd.snd.snd.fst, I (nd l y.fst).snd.snd.snd.snd.fst, I (nd l y.fst).snd.snd.snd.snd.snd]] (tk (y.snd ++ [(nd l y.fst).snd.fst])) []) = (AV.sl (ints (pt l r c)) (pt l r c).length (rm (0 : Nat) (pt l r c)), H.mk [] (tk (pt l r c)) [])) ∧ True) (by kernel_rfl) ?_
  refine ⟨ix_nodes (by kernel_rfl) (by omega) (rok_idx h1 h00), ?_⟩
  refine ⟨by first | exact ld_nodes (by kernel_rfl) (by kernel_rfl) (by kernel_rfl) (by omega) | exact ldf_nodes (by kernel_rfl) (by kernel_rfl) (by omega) rfl, ?_⟩
  refine ⟨hl, ?_⟩
  refine And.intro ?_ ?_
  · skip
    intro y
    intro w1
    intro u
    refine ⟨hap y (by omega), ?_⟩
    (rw [show y.2 ++ [(l.getD y.1 node0).2.1] = pt l r c from w1.2.2.2]; exact leave_b _ _)
  · skip
    trivial
noncomputable def c56 : PCtr Try.prog := slctr ok56 (X := List Nd × Room × Nat × Nat) (fun x => [nl x.1 x.2.1, .agg [I x.2.2.1, I x.2.2.2]]) (fun x => isP x.1 = true ∧ rok x.1 x.2.1 ∧ x.2.2.1 < 4 ∧ x.2.2.2 < 4) (fun x => .sl (ints (pt x.1 x.2.2.1 x.2.2.2)) (pt x.1 x.2.2.1 x.2.2.2).length (rm 0 (pt x.1 x.2.2.1 x.2.2.2)).wk)
  (by rintro ⟨l, r, a, b⟩ ⟨m, s, a', b'⟩ e _ _; simp [Int.natCast_inj] at e; simp only [e.1, e.2.1, e.2.2]) (fun x => by simp [AV.bnds, AV.bnd, AV.wk, rm_wk_bnd]) (fun x => by simp [AV.bnd, rm_wk_bnd]) (fun x hx => ⟨_, _, _, _, _, .nil, r56 x.1 x.2.1.wk x.2.2.1 x.2.2.2 hx.1 (by simpa using hx.2.1) hx.2.2.1 hx.2.2.2, by simp [AV.plain, AV.plains, plains_ints], by simp only [AV.wkd, wkds_ints]⟩)
end Go.Proofs.Tlk

