/- Layer 5: weights. -/
import Derived.Test.YtlomlnkafakloaaDoorVm6
import Derived.Test.YtlomlnkafakloaaDoorSyf
import Derived.KernelRfl
set_option linter.unusedSimpArgs false
set_option linter.unusedVariables false
set_option linter.unnecessarySimpa false
set_option maxHeartbeats 4000000
set_option maxRecDepth 100000
namespace Go.Proofs.Sur
open Go Go.VM

abbrev pz (l : List Pr) (r : Room) : AV := .sl (pairsA l) l.length r
abbrev wOK (l : List Pr) (i : Nat) : Prop := (1 ≤ (l.getD i pair0).2 ∧ (l.getD i pair0).2 ≤ 60) ∧ (0 ≤ (l.getD i pair0).1 ∧ (l.getD i pair0).1 ≤ (l.getD i pair0).2) ∧ gcI (l.getD i pair0).1 (l.getD i pair0).2 = 1
abbrev wOKs (l : List Pr) : Prop := ∀ i, i < l.length → wOK l i
abbrev o69 (l : List Pr) : List Out :=
  [.mk (List (List AV)) .ret [2] (fun _ => ¬ wOKs l) (fun _ => [.bool false]) (fun bs => ⟨bs, [], []⟩) (fun _ => []),
   .mk Unit (.exit 0) [] (fun _ => wOKs l) (fun _ => []) (fun _ => .nil) (fun _ => [])]
theorem simp69 : allSimpleM none1 (loopAt Tryd.f69 0) = true := by kernel_rfl
theorem clean0 (bs : List (List AV)) : H.clean ⟨bs, [], []⟩ 0 := by
  intro cs hcs
  simp at hcs
theorem lp69 (l : List Pr) (r : Room) (h1 : lim l.length) (h2 : rok l r) :
    LoopS (En6 [c70.to]) (loopAt Tryd.f69 0) 40 [5, 6, 7] [pz l r.wk, I l.length, I 0] .nil (o69 l) := by
  have hR : Rests (En6 [c70.to]) none1 := rests mixed (.pure _ .nil)
  refine loop_s hR simp69 (some 0) (by intro nb h; cases h; exact ⟨Nat.zero_le _, Nat.le_refl 0⟩) (fun j vs h => h = .nil ∧ vs = [pz l r.wk, I l.length, I (j : Nat)] ∧ ∀ i, i < j → wOK l i) l.length ⟨rfl, rfl, fun i hi => absurd hi (by omega)⟩ (by rintro nb h j vs h' ⟨rfl, _⟩; cases h; exact Nat.le_refl 0) ?_
  have h3 : rok l r.wk := by simpa using h2
  rintro j vs h hj ⟨rfl, rfl, ha⟩
  by_cases hz : (j : Int) < l.length
  · have hz' : j < l.length := by omega
    have hr := rok_idx h3 hz'
    have ev0 : IntKind.i64.wrap ((j : Int) + 1) = ((j + 1 : Nat) : Int) := by
      have : (j : Int) + 1 = ((j + 1 : Nat) : Int) := by omega
      rw [this]; exact i_wrap (by simp only [lim] at h1; omega)
    have bad : ∀ (h : ¬ wOK l j), ¬ wOKs l := fun h k => h (k j hz')
    have hcl : AV.bnds 0 0 0 [pz l r.wk, I l.length, I (j + 1 : Nat)] = true := by simp [AV.bnds, AV.bnd, rm_wk_bnd]
    by_cases x0 : (l.getD j pair0).2 < 1
    · have hn := bad (fun h => by have := h.1.1; omega)
      refine ⟨[Ans.o (Orc.b true), Ans.o (Orc.val 9 (AV.cptr (pairsA (List.drop j l))) H.nil), Ans.o (Orc.val 10 (AV.agg [I (l.getD j pair0).fst, I (l.getD j pair0).snd]) H.nil), Ans.o (Orc.b true)], fun u => of_eq ((↑j : Int) < (↑l.length : Int) ∧ aIndexAddr Tryd.prog 42 (AV.sl (pairsA l) l.length r.wk) (I (↑j : Int)) = some (AV.cptr (pairsA (List.drop j l))) ∧ aLoad Tryd.prog 28 (pairsA (List.drop j l)) = some (AV.agg [I (l.getD j pair0).fst, I (l.getD j pair0).snd]) ∧ (l.getD j pair0).snd < (1 : Int) ∧ (40 : Nat) = (40 : Nat) ∧ hits [Out.mk (List (List AV)) AX.ret [2] (fun x => ¬wOKs l) (fun x => [AV.bool false]) (fun bs => H.mk bs [] []) fun x => [], Out.mk Unit (AX.exit 0) [] (fun x => wOKs l) (fun x => []) (fun x => H.nil) fun x => []] AX.ret [u (0 : Nat), u (1 : Nat), AV.bool false, u (3 : Nat), AV.ptr 0 0, AV.sl (pairsA l) l.length r.wk, I (↑l.length : Int), I (↑j : Int), AV.bool true, AV.cptr (pairsA (List.drop j l)), AV.agg [I (l.getD j pair0).fst, I (l.getD j pair0).snd], AV.ptr 0 1, I (l.getD j pair0).snd, AV.bool true, AV.bool true, AV.tup [], AV.tup [], AV.tup [], AV.bool true, AV.bool true, AV.tup [], AV.tup [], AV.tup [], AV.bool true, AV.bool true, AV.tup [], AV.tup [], AV.tup [], AV.tup [], AV.tup [], AV.bool true, AV.bool true, AV.tup [], AV.tup [], AV.tup [], AV.tup [], AV.tup [], AV.tup [], AV.bool true, u (39 : Nat)] (H.mk [[I (l.getD j pair0).fst, I (l.getD j pair0).snd]] [] [])) (by kernel_rfl) ?_⟩
      refine ⟨by first | with_reducible assumption | omega | assumption, ?_⟩
      refine ⟨by first | exact ix_pairs (by kernel_rfl) (by omega) (by assumption) | exact ix_pairs (by kernel_rfl) (by omega) (rok_idx (by assumption) (by omega)), ?_⟩
      refine ⟨ld_pairs (by kernel_rfl) (by kernel_rfl) (by kernel_rfl) (by omega), ?_⟩
      refine ⟨by first | with_reducible assumption | omega | assumption, ?_⟩
      refine ⟨by first | with_reducible assumption | omega | assumption, ?_⟩
      exact .inl ⟨_, hn, rfl, rfl, rfl⟩
    have x0 : 1 ≤ (l.getD j pair0).2 := by omega
    by_cases x1 : 60 < (l.getD j pair0).2
    · have hn := bad (fun h => by have := h.1.2; omega)
      refine ⟨[Ans.o (Orc.b true), Ans.o (Orc.val 9 (AV.cptr (pairsA (List.drop j l))) H.nil), Ans.o (Orc.val 10 (AV.agg [I (l.getD j pair0).fst, I (l.getD j pair0).snd]) H.nil), Ans.o (Orc.b false), Ans.o (Orc.b true)], fun u => of_eq ((↑j : Int) < (↑l.length : Int) ∧ aIndexAddr Tryd.prog 42 (AV.sl (pairsA l) l.length r.wk) (I (↑j : Int)) = some (AV.cptr (pairsA (List.drop j l))) ∧ aLoad Tryd.prog 28 (pairsA (List.drop j l)) = some (AV.agg [I (l.getD j pair0).fst, I (l.getD j pair0).snd]) ∧ (1 : Int) ≤ (l.getD j pair0).snd ∧ (60 : Int) < (l.getD j pair0).snd ∧ (40 : Nat) = (40 : Nat) ∧ hits [Out.mk (List (List AV)) AX.ret [2] (fun x => ¬wOKs l) (fun x => [AV.bool false]) (fun bs => H.mk bs [] []) fun x => [], Out.mk Unit (AX.exit 0) [] (fun x => wOKs l) (fun x => []) (fun x => H.nil) fun x => []] AX.ret [u (0 : Nat), u (1 : Nat), AV.bool false, u (3 : Nat), AV.ptr 0 0, AV.sl (pairsA l) l.length r.wk, I (↑l.length : Int), I (↑j : Int), AV.bool true, AV.cptr (pairsA (List.drop j l)), AV.agg [I (l.getD j pair0).fst, I (l.getD j pair0).snd], AV.ptr 0 1, I (l.getD j pair0).snd, AV.bool false, AV.bool false, AV.ptr 0 1, I (l.getD j pair0).snd, AV.bool true, AV.bool true, AV.bool true, AV.tup [], AV.tup [], AV.tup [], AV.bool true, AV.bool true, AV.tup [], AV.tup [], AV.tup [], AV.tup [], AV.tup [], AV.bool true, AV.bool true, AV.tup [], AV.tup [], AV.tup [], AV.tup [], AV.tup [], AV.tup [], AV.bool true, u (39 : Nat)] (H.mk [[I (l.getD j pair0).fst, I (l.getD j pair0).snd]] [] [])) (by kernel_rfl) ?_⟩
      refine ⟨by first | with_reducible assumption | omega | assumption, ?_⟩
      refine ⟨by first | exact ix_pairs (by kernel_rfl) (by omega) (by assumption) | exact ix_pairs (by kernel_rfl) (by omega) (rok_idx (by assumption) (by omega)), ?_⟩
      refine ⟨ld_pairs (by kernel_rfl) (by kernel_rfl) (by kernel_rfl) (by omega), ?_⟩
      refine ⟨by first | with_reducible assumption | omega | assumption, ?_⟩
      refine ⟨by first | with_reducible assumption | omega | assumption, ?_⟩
      refine ⟨by first | with_reducible assumption | omega | assumption, ?_⟩
      exact .inl ⟨_, hn, rfl, rfl, rfl⟩
    have x1 : (l.getD j pair0).2 ≤ 60 := by omega
    by_cases y0 : (l.getD j pair0).1 < 0
    · have hn := bad (fun h => by have := h.2.1.1; omega)
      refine ⟨[Ans.o (Orc.b true), Ans.o (Orc.val 9 (AV.cptr (pairsA (List.drop j l))) H.nil), Ans.o (Orc.val 10 (AV.agg [I (l.getD j pair0).fst, I (l.getD j pair0).snd]) H.nil), Ans.o (Orc.b false), Ans.o (Orc.b false), Ans.o (Orc.b true)], fun u => of_eq ((↑j : Int) < (↑l.length : Int) ∧ aIndexAddr Tryd.prog 42 (AV.sl (pairsA l) l.length r.wk) (I (↑j : Int)) = some (AV.cptr (pairsA (List.drop j l))) ∧ aLoad Tryd.prog 28 (pairsA (List.drop j l)) = some (AV.agg [I (l.getD j pair0).fst, I (l.getD j pair0).snd]) ∧ (1 : Int) ≤ (l.getD j pair0).snd ∧ (l.getD j pair0).snd ≤ (60 : Int) ∧ (l.getD j pair0).fst < (0 : Int) ∧ (40 : Nat) = (40 : Nat) ∧ hits [Out.mk (List (List AV)) AX.ret [2] (fun x => ¬wOKs l) (fun x => [AV.bool false]) (fun bs => H.mk bs [] []) fun x => [], Out.mk Unit (AX.exit 0) [] (fun x => wOKs l) (fun x => []) (fun x => H.nil) fun x => []] AX.ret [u (0 : Nat), u (1 : Nat), AV.bool false, u (3 : Nat), AV.ptr 0 0, AV.sl (pairsA l) l.length r.wk, I (↑l.length : Int), I (↑j : Int), AV.bool true, AV.cptr (pairsA (List.drop j l)), AV.agg [I (l.getD j pair0).fst, I (l.getD j pair0).snd], AV.ptr 0 1, I (l.getD j pair0).snd, AV.bool false, AV.bool false, AV.ptr 0 1, I (l.getD j pair0).snd, AV.bool false, AV.bool false, AV.bool false, AV.ptr 0 0, I (l.getD j pair0).fst, AV.bool true, AV.bool true, AV.bool true, AV.tup [], AV.tup [], AV.tup [], AV.tup [], AV.tup [], AV.bool true, AV.bool true, AV.tup [], AV.tup [], AV.tup [], AV.tup [], AV.tup [], AV.tup [], AV.bool true, u (39 : Nat)] (H.mk [[I (l.getD j pair0).fst, I (l.getD j pair0).snd]] [] [])) (by kernel_rfl) ?_⟩
      refine ⟨by first | with_reducible assumption | omega | assumption, ?_⟩
      refine ⟨by first | exact ix_pairs (by kernel_rfl) (by omega) (by assumption) | exact ix_pairs (by kernel_rfl) (by omega) (rok_idx (by assumption) (by omega)), ?_⟩
      refine ⟨ld_pairs (by kernel_rfl) (by kernel_rfl) (by kernel_rfl) (by omega), ?_⟩
      refine ⟨by first | with_reducible assumption | omega | assumption, ?_⟩
      refine ⟨by first | with_reducible assumption | omega | assumption, ?_⟩
      refine ⟨by first | with_reducible assumption | omega | assumption, ?_⟩
      refine ⟨by first | with_reducible assumption | omega | assumption, ?_⟩
      exact .inl ⟨_, hn, rfl, rfl, rfl⟩
    have y0 : 0 ≤ (l.getD j pair0).1 := by omega
    by_cases y1 : (l.getD j pair0).2 < (l.getD j pair0).1
    · have hn := bad (fun h => by have := h.2.1.2; omega)
      refine ⟨[Ans.o (Orc.b true), Ans.o (Orc.val 9 (AV.cptr (pairsA (List.drop j l))) H.nil), Ans.o (Orc.val 10 (AV.agg [I (l.getD j pair0).fst, I (l.getD j pair0).snd]) H.nil), Ans.o (Orc.b false), Ans.o (Orc.b false), Ans.o (Orc.b false), Ans.o (Orc.b true)], fun u => of_eq ((↑j : Int) < (↑l.length : Int) ∧ aIndexAddr Tryd.prog 42 (AV.sl (pairsA l) l.length r.wk) (I (↑j : Int)) = some (AV.cptr (pairsA (List.drop j l))) ∧ aLoad Tryd.prog 28 (pairsA (List.drop j l)) = some (AV.agg [I (l.getD j pair0).fst, I (l.getD j pair0).snd]) ∧ (1 : Int) ≤ (l.getD j pair0).snd ∧ (l.getD j pair0).snd ≤ (60 : Int) ∧ (0 : Int) ≤ (l.getD j pair0).fst ∧ (l.getD j pair0).snd < (l.getD j pair0).fst ∧ (40 : Nat) = (40 : Nat) ∧ hits [Out.mk (List (List AV)) AX.ret [2] (fun x => ¬wOKs l) (fun x => [AV.bool false]) (fun bs => H.mk bs [] []) fun x => [], Out.mk Unit (AX.exit 0) [] (fun x => wOKs l) (fun x => []) (fun x => H.nil) fun x => []] AX.ret [u (0 : Nat), u (1 : Nat), AV.bool false, u (3 : Nat), AV.ptr 0 0, AV.sl (pairsA l) l.length r.wk, I (↑l.length : Int), I (↑j : Int), AV.bool true, AV.cptr (pairsA (List.drop j l)), AV.agg [I (l.getD j pair0).fst, I (l.getD j pair0).snd], AV.ptr 0 1, I (l.getD j pair0).snd, AV.bool false, AV.bool false, AV.ptr 0 1, I (l.getD j pair0).snd, AV.bool false, AV.bool false, AV.bool false, AV.ptr 0 0, I (l.getD j pair0).fst, AV.bool false, AV.bool false, AV.bool false, AV.ptr 0 0, I (l.getD j pair0).fst, AV.ptr 0 1, I (l.getD j pair0).snd, AV.bool true, AV.bool true, AV.bool true, AV.tup [], AV.tup [], AV.tup [], AV.tup [], AV.tup [], AV.tup [], AV.bool true, u (39 : Nat)] (H.mk [[I (l.getD j pair0).fst, I (l.getD j pair0).snd]] [] [])) (by kernel_rfl) ?_⟩
      refine ⟨by first | with_reducible assumption | omega | assumption, ?_⟩
      refine ⟨by first | exact ix_pairs (by kernel_rfl) (by omega) (by assumption) | exact ix_pairs (by kernel_rfl) (by omega) (rok_idx (by assumption) (by omega)), ?_⟩
      refine ⟨ld_pairs (by kernel_rfl) (by kernel_rfl) (by kernel_rfl) (by omega), ?_⟩
      refine ⟨by first | with_reducible assumption | omega | assumption, ?_⟩
      refine ⟨by first | with_reducible assumption | omega | assumption, ?_⟩
      refine ⟨by first | with_reducible assumption | omega | assumption, ?_⟩
      refine ⟨by first | with_reducible assumption | omega | assumption, ?_⟩
      refine ⟨by first | with_reducible assumption | omega | assumption, ?_⟩
      exact .inl ⟨_, hn, rfl, rfl, rfl⟩
    have y1 : (l.getD j pair0).1 ≤ (l.getD j pair0).2 := by omega
    have p70 : nn6 (l.getD j pair0).1 ∧ nn6 (l.getD j pair0).2 := ⟨⟨y0, by omega⟩, ⟨by omega, by omega⟩⟩
    by_cases z : gcI (l.getD j pair0).1 (l.getD j pair0).2 = 1
    · have hk := all_succ (q := wOK l) ha ⟨⟨x0, x1⟩, ⟨y0, y1⟩, z⟩
      refine ⟨[Ans.o (Orc.b true), Ans.o (Orc.val 9 (AV.cptr (pairsA (List.drop j l))) H.nil), Ans.o (Orc.val 10 (AV.agg [I (l.getD j pair0).fst, I (l.getD j pair0).snd]) H.nil), Ans.o (Orc.b false), Ans.o (Orc.b false), Ans.o (Orc.b false), Ans.o (Orc.b false), Ans.o (Orc.val 36 (I (gcI (l.getD j pair0).fst (l.getD j pair0).snd)) (H.mk [[I (l.getD j pair0).fst, I (l.getD j pair0).snd]] [] [])), Ans.o (Orc.b false), Ans.o (Orc.val 39 (I (↑(j + (1 : Nat)) : Int)) H.nil)], fun u => of_eq ((↑j : Int) < (↑l.length : Int) ∧ aIndexAddr Tryd.prog 42 (AV.sl (pairsA l) l.length r.wk) (I (↑j : Int)) = some (AV.cptr (pairsA (List.drop j l))) ∧ aLoad Tryd.prog 28 (pairsA (List.drop j l)) = some (AV.agg [I (l.getD j pair0).fst, I (l.getD j pair0).snd]) ∧ (1 : Int) ≤ (l.getD j pair0).snd ∧ (l.getD j pair0).snd ≤ (60 : Int) ∧ (0 : Int) ≤ (l.getD j pair0).fst ∧ (l.getD j pair0).fst ≤ (l.getD j pair0).snd ∧ aCall (Sof [c70.to]) (AV.fn (Fn.func 70) [] []) [I (l.getD j pair0).fst, I (l.getD j pair0).snd] (H.mk [[I (l.getD j pair0).fst, I (l.getD j pair0).snd]] [] []) = some (I (gcI (l.getD j pair0).fst (l.getD j pair0).snd), H.mk [[I (l.getD j pair0).fst, I (l.getD j pair0).snd]] [] []) ∧ gcI (l.getD j pair0).fst (l.getD j pair0).snd = (1 : Int) ∧ aBin Tryd.prog BinOp.add (3 : Nat) (I (↑j : Int)) (I 1) = some (I (↑(j + (1 : Nat)) : Int)) ∧ (40 : Nat) = (40 : Nat) ∧ j < l.length ∧ Keep (AV.bnds (0 : Nat) (0 : Nat) (0 : Nat) [AV.sl (pairsA l) l.length r.wk, I (↑l.length : Int), I (↑(j + (1 : Nat)) : Int)] = true ∧ (H.mk [[I (l.getD j pair0).fst, I (l.getD j pair0).snd]] [] []).clean (0 : Nat) ∧ H.mk [] [] [] = H.mk [] [] [] ∧ [AV.sl (pairsA l) l.length r.wk, I (↑l.length : Int), I (↑(j + (1 : Nat)) : Int)] = [AV.sl (pairsA l) l.length r.wk, I (↑l.length : Int), I (↑(j + (1 : Nat)) : Int)] ∧ ∀ (i : Nat), i < j + (1 : Nat) → wOK l i)) (by kernel_rfl) ?_⟩
      refine ⟨by first | with_reducible assumption | omega | assumption, ?_⟩
      refine ⟨by first | exact ix_pairs (by kernel_rfl) (by omega) (by assumption) | exact ix_pairs (by kernel_rfl) (by omega) (rok_idx (by assumption) (by omega)), ?_⟩
      refine ⟨ld_pairs (by kernel_rfl) (by kernel_rfl) (by kernel_rfl) (by omega), ?_⟩
      refine ⟨by first | with_reducible assumption | omega | assumption, ?_⟩
      refine ⟨by first | with_reducible assumption | omega | assumption, ?_⟩
      refine ⟨by first | with_reducible assumption | omega | assumption, ?_⟩
      refine ⟨by first | with_reducible assumption | omega | assumption, ?_⟩
      refine ⟨acall_hit (c := c70.to) ((l.getD j pair0).1, (l.getD j pair0).2) _ rfl p70, ?_⟩
      refine ⟨by first | with_reducible assumption | omega | assumption, ?_⟩
      refine ⟨told_add (by with_reducible assumption), ?_⟩
      refine ⟨by first | with_reducible assumption | omega | assumption, ?_⟩
      refine ⟨by first | with_reducible assumption | omega | assumption, ?_⟩
      exact ⟨hcl, clean0 _, rfl, rfl, hk⟩
    · have z : gcI (l.getD j pair0).1 (l.getD j pair0).2 ≠ 1 := z
      have hn := bad (fun h => z h.2.2)
      refine ⟨[Ans.o (Orc.b true), Ans.o (Orc.val 9 (AV.cptr (pairsA (List.drop j l))) H.nil), Ans.o (Orc.val 10 (AV.agg [I (l.getD j pair0).fst, I (l.getD j pair0).snd]) H.nil), Ans.o (Orc.b false), Ans.o (Orc.b false), Ans.o (Orc.b false), Ans.o (Orc.b false), Ans.o (Orc.val 36 (I (gcI (l.getD j pair0).fst (l.getD j pair0).snd)) (H.mk [[I (l.getD j pair0).fst, I (l.getD j pair0).snd]] [] [])), Ans.o (Orc.b true)], fun u => of_eq ((↑j : Int) < (↑l.length : Int) ∧ aIndexAddr Tryd.prog 42 (AV.sl (pairsA l) l.length r.wk) (I (↑j : Int)) = some (AV.cptr (pairsA (List.drop j l))) ∧ aLoad Tryd.prog 28 (pairsA (List.drop j l)) = some (AV.agg [I (l.getD j pair0).fst, I (l.getD j pair0).snd]) ∧ (1 : Int) ≤ (l.getD j pair0).snd ∧ (l.getD j pair0).snd ≤ (60 : Int) ∧ (0 : Int) ≤ (l.getD j pair0).fst ∧ (l.getD j pair0).fst ≤ (l.getD j pair0).snd ∧ aCall (Sof [c70.to]) (AV.fn (Fn.func 70) [] []) [I (l.getD j pair0).fst, I (l.getD j pair0).snd] (H.mk [[I (l.getD j pair0).fst, I (l.getD j pair0).snd]] [] []) = some (I (gcI (l.getD j pair0).fst (l.getD j pair0).snd), H.mk [[I (l.getD j pair0).fst, I (l.getD j pair0).snd]] [] []) ∧ gcI (l.getD j pair0).fst (l.getD j pair0).snd ≠ (1 : Int) ∧ (40 : Nat) = (40 : Nat) ∧ hits [Out.mk (List (List AV)) AX.ret [2] (fun x => ¬wOKs l) (fun x => [AV.bool false]) (fun bs => H.mk bs [] []) fun x => [], Out.mk Unit (AX.exit 0) [] (fun x => wOKs l) (fun x => []) (fun x => H.nil) fun x => []] AX.ret [u (0 : Nat), u (1 : Nat), AV.bool false, u (3 : Nat), AV.ptr 0 0, AV.sl (pairsA l) l.length r.wk, I (↑l.length : Int), I (↑j : Int), AV.bool true, AV.cptr (pairsA (List.drop j l)), AV.agg [I (l.getD j pair0).fst, I (l.getD j pair0).snd], AV.ptr 0 1, I (l.getD j pair0).snd, AV.bool false, AV.bool false, AV.ptr 0 1, I (l.getD j pair0).snd, AV.bool false, AV.bool false, AV.bool false, AV.ptr 0 0, I (l.getD j pair0).fst, AV.bool false, AV.bool false, AV.bool false, AV.ptr 0 0, I (l.getD j pair0).fst, AV.ptr 0 1, I (l.getD j pair0).snd, AV.bool false, AV.bool false, AV.bool false, AV.ptr 0 0, I (l.getD j pair0).fst, AV.ptr 0 1, I (l.getD j pair0).snd, I (gcI (l.getD j pair0).fst (l.getD j pair0).snd), AV.bool true, AV.bool true, u (39 : Nat)] (H.mk [[I (l.getD j pair0).fst, I (l.getD j pair0).snd]] [] [])) (by kernel_rfl) ?_⟩
      refine ⟨by first | with_reducible assumption | omega | assumption, ?_⟩
      refine ⟨by first | exact ix_pairs (by kernel_rfl) (by omega) (by assumption) | exact ix_pairs (by kernel_rfl) (by omega) (rok_idx (by assumption) (by omega)), ?_⟩
      refine ⟨ld_pairs (by kernel_rfl) (by kernel_rfl) (by kernel_rfl) (by omega), ?_⟩
      refine ⟨by first | with_reducible assumption | omega | assumption, ?_⟩
      refine ⟨by first | with_reducible assumption | omega | assumption, ?_⟩
      refine ⟨by first | with_reducible assumption | omega | assumption, ?_⟩
      refine ⟨by first | with_reducible assumption | omega | assumption, ?_⟩
      refine ⟨acall_hit (c := c70.to) ((l.getD j pair0).1, (l.getD j pair0).2) _ rfl p70, ?_⟩
      refine ⟨by first | with_reducible assumption | omega | assumption, ?_⟩
      refine ⟨by first | with_reducible assumption | omega | assumption, ?_⟩
      exact .inl ⟨_, hn, rfl, rfl, rfl⟩
  · have hz : (l.length : Int) ≤ j := by omega
    have hk : wOKs l := fun i hi => ha i (by omega)
    refine ⟨[Ans.o (Orc.b false)], fun u => of_eq ((↑l.length : Int) ≤ (↑j : Int) ∧ (40 : Nat) = (40 : Nat) ∧ hits [Out.mk (List (List AV)) AX.ret [2] (fun x => ¬wOKs l) (fun x => [AV.bool false]) (fun bs => H.mk bs [] []) fun x => [], Out.mk Unit (AX.exit 0) [] (fun x => wOKs l) (fun x => []) (fun x => H.nil) fun x => []] (AX.exit 0) [u (0 : Nat), u (1 : Nat), u (2 : Nat), u (3 : Nat), u (4 : Nat), AV.sl (pairsA l) l.length r.wk, I (↑l.length : Int), I (↑j : Int), AV.bool false, u (9 : Nat), u (10 : Nat), u (11 : Nat), u (12 : Nat), u (13 : Nat), u (14 : Nat), u (15 : Nat), u (16 : Nat), u (17 : Nat), u (18 : Nat), u (19 : Nat), u (20 : Nat), u (21 : Nat), u (22 : Nat), u (23 : Nat), u (24 : Nat), u (25 : Nat), u (26 : Nat), u (27 : Nat), u (28 : Nat), u (29 : Nat), u (30 : Nat), u (31 : Nat), u (32 : Nat), u (33 : Nat), u (34 : Nat), u (35 : Nat), u (36 : Nat), u (37 : Nat), u (38 : Nat), u (39 : Nat)] (H.mk [] [] [])) (by kernel_rfl) ?_⟩
    refine ⟨by first | with_reducible assumption | omega | assumption, ?_⟩
    refine ⟨by first | with_reducible assumption | omega | assumption, ?_⟩
    exact .inr (.inl ⟨(), hk, rfl, rfl, rfl⟩)
open Classical in
noncomputable def wkB (l : List Pr) : Bool := decide (wOKs l)
theorem wkB_t {l : List Pr} (h : wOKs l) : wkB l = true := by simp only [wkB, decide_eq_true_eq]; exact h
theorem wkB_f {l : List Pr} (h : ¬ wOKs l) : wkB l = false := by simp only [wkB, decide_eq_false_iff_not]; exact h
theorem ok69 : FokM Tryd.prog none1 69 Tryd.f69 := ⟨mixed, by kernel_rfl, by kernel_rfl, by kernel_rfl, by kernel_rfl⟩
theorem r69 (l : List Pr) (r : Room) (h1 : lim l.length) (h2 : rok l r) : Body (En6 [c70.to]) none1 Tryd.f69 [pz l r.wk] .nil (.bool (wkB l), .nil) := by
  refine body_s ([Ans.loop [5, 6, 7] [Out.mk (List (List AV)) AX.ret [2] (fun x => ¬wOKs l) (fun x => [AV.bool false]) (fun bs => H.mk bs [] []) fun y => [], Out.mk Unit (AX.exit 0) [] (fun x => wOKs l) (fun x => []) (fun x => H.nil) fun y => []]]) (LoopS (En6 [c70.to]) (loopAt Tryd.f69 0) 40 [5, 6, 7] [AV.sl (pairsA l) l.length r.wk, I (↑l.length : Int), I 0] (H.mk [] [] []) [Out.mk (List (List AV)) AX.ret [2] (fun x => ¬wOKs l) (fun x => [AV.bool false]) (fun bs => H.mk bs [] []) fun y => [], Out.mk Unit (AX.exit 0) [] (fun x => wOKs l) (fun x => []) (fun x => H.nil) fun y => []] ∧ (∀ (y : List (List AV)), ¬wOKs l → ∀ (u : Nat → AV), (AV.bool false, H.mk [] [] []) = (AV.bool (wkB l), H.mk [] [] [])) ∧ (∀ (y : Unit), (∀ (i : Nat), i < l.length → ((1 : Int) ≤ (l.getD i pair0).snd ∧ (l.getD i pair0).snd ≤ (60 : Int)) ∧ ((0 : Int) ≤ (l.getD i pair0).fst ∧ (l.getD i pair0).fst ≤ (l.getD i pair0).snd) ∧ gcI (l.getD i pair0).fst (l.getD i pair0).snd = (1 : Int)) → ∀ (u : Nat → AV), (AV.bool true, H.mk [] [] []) = (AV.bool (wkB l), H.mk [] [] [])) ∧ True) (by kernel_rfl) ?_
  refine ⟨lp69 l r h1 h2, ?_⟩
  refine And.intro ?_ ?_
  · skip
    intro y
    intro w1
    intro u
    first | exact congrArg (fun b => (AV.bool b, H.nil)) (wkB_f (by with_reducible assumption)).symm | exact congrArg (fun b => (AV.bool b, H.nil)) (wkB_t (by with_reducible assumption)).symm
  · skip
    refine And.intro ?_ ?_
    · skip
      intro y
      intro w1
      intro u
      first | exact congrArg (fun b => (AV.bool b, H.nil)) (wkB_f (by with_reducible assumption)).symm | exact congrArg (fun b => (AV.bool b, H.nil)) (wkB_t (by with_reducible assumption)).symm
    · skip
      trivial
noncomputable def c69 : PCtr Tryd.prog := sctr ok69 (X := List Pr × Room) (fun x => [pz x.1 x.2]) (fun x => lim x.1.length ∧ rok x.1 x.2) (fun x => .bool (wkB x.1))
  (by intro x y e _ _; simp at e; simp [e]) (fun x => by simp [AV.bnds, AV.bnd, AV.wk, rm_wk_bnd]) (fun _ => rfl) (fun x hx => ⟨_, _, _, .pure c70 .nil, r69 x.1 x.2 hx.1 hx.2⟩)
end Go.Proofs.Sur

