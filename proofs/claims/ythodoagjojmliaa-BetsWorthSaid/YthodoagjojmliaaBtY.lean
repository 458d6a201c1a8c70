/- Layer 9: races and stakings, by the reference. -/
import Derived.Test.YthodoagjojmliaaBtX
import Derived.KernelRfl
set_option linter.unusedSimpArgs false
set_option linter.unusedVariables false
set_option linter.unnecessarySimpa false
set_option maxHeartbeats 4000000
set_option maxRecDepth 100000
namespace Go.Proofs.Bts
open Go Go.VM
open Go.Proofs.Sur (i_and i_shl i_shr bit_01)

abbrev wiJ (ch od : List Int) (j : Nat) : Prop := wiP 0 12 (ia ch j) ∧ wiP 1 12 (ia od j)
abbrev wiA2 (ch od : List Int) : Prop := ∀ i, i < ch.length → wiJ ch od i
abbrev o41 (ch od : List Int) : List Out :=
  [.mk Unit .ret [4] (fun _ => ¬ wiA2 ch od) (fun _ => [.bool false]) (fun _ => .nil) (fun _ => []),
   .mk Unit (.exit 0) [5] (fun _ => wiA2 ch od) (fun _ => [I (sI (ia ch) ch.length)]) (fun _ => .nil) (fun _ => [])]
theorem simp41 : allSimpleM none1 (loopAt Try.f41 0) = true := by kernel_rfl
theorem lp41 (ch od : List Int) (r q : Room) (h5 : ch.length ≤ 5) (hl : od.length = ch.length) (h1 : rok ch r) (h2 : rok od q) :
    LoopS (En6 []) (loopAt Try.f41 0) 56 [1, 5, 23, 24, 25] [ls od q, I 0, ls ch r, I ch.length, I 0] .nil (o41 ch od) := by
  have hR : Rests (En6 []) none1 := rests mixed .nil
  refine loop_s hR simp41 none (by intro _ h; cases h) (fun j vs h => h = .nil ∧ vs = [ls od q, I (sI (ia ch) j), ls ch r, I ch.length, I (j : Nat)] ∧ (0 ≤ sI (ia ch) j ∧ sI (ia ch) j ≤ j * 12) ∧ ∀ i, i < j → wiJ ch od i) ch.length ⟨rfl, rfl, by simp [sI], fun i hi => absurd hi (by omega)⟩ (by intro _ h; cases h) ?_
  rintro j vs h hj ⟨rfl, rfl, hs, ha⟩
  by_cases hz : (j : Int) < ch.length
  · have hz' : j < ch.length := by omega
    have hzo : j < od.length := by omega
    have hzo' : (j : Int) < od.length := by omega
    have hr := rok_idx h1 hz'
    have hq := rok_idx h2 hzo
    have ev0 := wj1 (j := j) (by omega)
    have bad : ∀ (h : ¬ wiJ ch od j), ¬ wiA2 ch od := fun h q => h (q j hz')
    by_cases x1 : ia ch j < 0
    · have hn := bad (fun h => by have := h.1.1; omega)
      refine ⟨[Ans.o (Orc.b true), Ans.o (Orc.val 28 (AV.cptr (ints (List.drop j ch))) H.nil), Ans.o (Orc.val 29 (I (ch.getD j i0)) H.nil), Ans.o (Orc.b true)], fun u => of_eq ((↑j : Int) < (↑ch.length : Int) ∧ aIndexAddr Try.prog (36 : Nat) (AV.sl (ints ch) ch.length r) (I (↑j : Int)) = some (AV.cptr (ints (List.drop j ch))) ∧ aLoad Try.prog (3 : Nat) (ints (List.drop j ch)) = some (I (ch.getD j i0)) ∧ ch.getD j i0 < (0 : Int) ∧ (56 : Nat) = (56 : Nat) ∧ hits [Out.mk Unit AX.ret [(4 : Nat)] (fun x => ¬wiA2 ch od) (fun x => [AV.bool false]) (fun x => H.nil) fun x => [], Out.mk Unit (AX.exit (0 : Nat)) [(5 : Nat)] (fun x => wiA2 ch od) (fun x => [I (sI (ia ch) ch.length)]) (fun x => H.nil) fun x => []] AX.ret [u (0 : Nat), AV.sl (ints od) od.length q, u (2 : Nat), u (3 : Nat), AV.bool false, I (sI (ia ch) j), I (↑j : Int), I (ch.getD j i0), u (8 : Nat), u (9 : Nat), u (10 : Nat), u (11 : Nat), u (12 : Nat), u (13 : Nat), u (14 : Nat), u (15 : Nat), u (16 : Nat), u (17 : Nat), u (18 : Nat), u (19 : Nat), u (20 : Nat), u (21 : Nat), u (22 : Nat), AV.sl (ints ch) ch.length r, I (↑ch.length : Int), I (↑j : Int), AV.bool true, I (↑j : Int), AV.cptr (ints (List.drop j ch)), I (ch.getD j i0), I (ch.getD j i0), AV.bool true, AV.bool true, AV.tup [], AV.tup [], AV.bool true, AV.bool true, AV.tup [], AV.tup [], AV.tup [], AV.tup [], AV.tup [], AV.bool true, AV.bool true, AV.tup [], AV.tup [], AV.tup [], AV.tup [], AV.tup [], AV.bool true, u (50 : Nat), u (51 : Nat), u (52 : Nat), u (53 : Nat), u (54 : Nat), u (55 : Nat)] (H.mk [] [] [])) (by kernel_rfl) ?_⟩
      refine ⟨by first | with_reducible assumption | omega | assumption, ?_⟩
      refine ⟨by first | exact ix_ints (by kernel_rfl) hz' hr | exact ix_ints (by kernel_rfl) hzo hq, ?_⟩
      refine ⟨by first | exact ld_ints (by kernel_rfl) (by kernel_rfl) hz' | exact ld_ints (by kernel_rfl) (by kernel_rfl) hzo, ?_⟩
      refine ⟨by first | with_reducible assumption | omega | assumption, ?_⟩
      refine ⟨by first | with_reducible assumption | omega | assumption, ?_⟩
      exact .inl ⟨(), hn, rfl, rfl, rfl⟩
    have x1 : 0 ≤ ia ch j := by omega
    by_cases x2 : 12 < ia ch j
    · have hn := bad (fun h => by have := h.1.2; omega)
      refine ⟨[Ans.o (Orc.b true), Ans.o (Orc.val 28 (AV.cptr (ints (List.drop j ch))) H.nil), Ans.o (Orc.val 29 (I (ch.getD j i0)) H.nil), Ans.o (Orc.b false), Ans.o (Orc.b true)], fun u => of_eq ((↑j : Int) < (↑ch.length : Int) ∧ aIndexAddr Try.prog (36 : Nat) (AV.sl (ints ch) ch.length r) (I (↑j : Int)) = some (AV.cptr (ints (List.drop j ch))) ∧ aLoad Try.prog (3 : Nat) (ints (List.drop j ch)) = some (I (ch.getD j i0)) ∧ (0 : Int) ≤ ch.getD j i0 ∧ (12 : Int) < ch.getD j i0 ∧ (56 : Nat) = (56 : Nat) ∧ hits [Out.mk Unit AX.ret [(4 : Nat)] (fun x => ¬wiA2 ch od) (fun x => [AV.bool false]) (fun x => H.nil) fun x => [], Out.mk Unit (AX.exit (0 : Nat)) [(5 : Nat)] (fun x => wiA2 ch od) (fun x => [I (sI (ia ch) ch.length)]) (fun x => H.nil) fun x => []] AX.ret [u (0 : Nat), AV.sl (ints od) od.length q, u (2 : Nat), u (3 : Nat), AV.bool false, I (sI (ia ch) j), I (↑j : Int), I (ch.getD j i0), u (8 : Nat), u (9 : Nat), u (10 : Nat), u (11 : Nat), u (12 : Nat), u (13 : Nat), u (14 : Nat), u (15 : Nat), u (16 : Nat), u (17 : Nat), u (18 : Nat), u (19 : Nat), u (20 : Nat), u (21 : Nat), u (22 : Nat), AV.sl (ints ch) ch.length r, I (↑ch.length : Int), I (↑j : Int), AV.bool true, I (↑j : Int), AV.cptr (ints (List.drop j ch)), I (ch.getD j i0), I (ch.getD j i0), AV.bool false, AV.bool false, I (ch.getD j i0), AV.bool true, AV.bool true, AV.bool true, AV.tup [], AV.tup [], AV.tup [], AV.tup [], AV.tup [], AV.bool true, AV.bool true, AV.tup [], AV.tup [], AV.tup [], AV.tup [], AV.tup [], AV.bool true, u (50 : Nat), u (51 : Nat), u (52 : Nat), u (53 : Nat), u (54 : Nat), u (55 : Nat)] (H.mk [] [] [])) (by kernel_rfl) ?_⟩
      refine ⟨by first | with_reducible assumption | omega | assumption, ?_⟩
      refine ⟨by first | exact ix_ints (by kernel_rfl) hz' hr | exact ix_ints (by kernel_rfl) hzo hq, ?_⟩
      refine ⟨by first | exact ld_ints (by kernel_rfl) (by kernel_rfl) hz' | exact ld_ints (by kernel_rfl) (by kernel_rfl) hzo, ?_⟩
      refine ⟨by first | with_reducible assumption | omega | assumption, ?_⟩
      refine ⟨by first | with_reducible assumption | omega | assumption, ?_⟩
      refine ⟨by first | with_reducible assumption | omega | assumption, ?_⟩
      exact .inl ⟨(), hn, rfl, rfl, rfl⟩
    have x2 : ia ch j ≤ 12 := by omega
    by_cases x3 : ia od j < 1
    · have hn := bad (fun h => by have := h.2.1; omega)
      refine ⟨[Ans.o (Orc.b true), Ans.o (Orc.val 28 (AV.cptr (ints (List.drop j ch))) H.nil), Ans.o (Orc.val 29 (I (ch.getD j i0)) H.nil), Ans.o (Orc.b false), Ans.o (Orc.b false), Ans.o (Orc.val 39 (AV.cptr (ints (List.drop j od))) H.nil), Ans.o (Orc.val 40 (I (od.getD j i0)) H.nil), Ans.o (Orc.b true)], fun u => of_eq ((↑j : Int) < (↑ch.length : Int) ∧ aIndexAddr Try.prog (36 : Nat) (AV.sl (ints ch) ch.length r) (I (↑j : Int)) = some (AV.cptr (ints (List.drop j ch))) ∧ aLoad Try.prog (3 : Nat) (ints (List.drop j ch)) = some (I (ch.getD j i0)) ∧ (0 : Int) ≤ ch.getD j i0 ∧ ch.getD j i0 ≤ (12 : Int) ∧ aIndexAddr Try.prog (36 : Nat) (AV.sl (ints od) od.length q) (I (↑j : Int)) = some (AV.cptr (ints (List.drop j od))) ∧ aLoad Try.prog (3 : Nat) (ints (List.drop j od)) = some (I (od.getD j i0)) ∧ od.getD j i0 < (1 : Int) ∧ (56 : Nat) = (56 : Nat) ∧ hits [Out.mk Unit AX.ret [(4 : Nat)] (fun x => ¬wiA2 ch od) (fun x => [AV.bool false]) (fun x => H.nil) fun x => [], Out.mk Unit (AX.exit (0 : Nat)) [(5 : Nat)] (fun x => wiA2 ch od) (fun x => [I (sI (ia ch) ch.length)]) (fun x => H.nil) fun x => []] AX.ret [u (0 : Nat), AV.sl (ints od) od.length q, u (2 : Nat), u (3 : Nat), AV.bool false, I (sI (ia ch) j), I (↑j : Int), I (ch.getD j i0), u (8 : Nat), u (9 : Nat), u (10 : Nat), u (11 : Nat), u (12 : Nat), u (13 : Nat), u (14 : Nat), u (15 : Nat), u (16 : Nat), u (17 : Nat), u (18 : Nat), u (19 : Nat), u (20 : Nat), u (21 : Nat), u (22 : Nat), AV.sl (ints ch) ch.length r, I (↑ch.length : Int), I (↑j : Int), AV.bool true, I (↑j : Int), AV.cptr (ints (List.drop j ch)), I (ch.getD j i0), I (ch.getD j i0), AV.bool false, AV.bool false, I (ch.getD j i0), AV.bool false, AV.bool false, AV.bool false, AV.sl (ints od) od.length q, I (↑j : Int), AV.cptr (ints (List.drop j od)), I (od.getD j i0), AV.bool true, AV.bool true, AV.bool true, AV.tup [], AV.tup [], AV.tup [], AV.tup [], AV.tup [], AV.bool true, u (50 : Nat), u (51 : Nat), u (52 : Nat), u (53 : Nat), u (54 : Nat), u (55 : Nat)] (H.mk [] [] [])) (by kernel_rfl) ?_⟩
      refine ⟨by first | with_reducible assumption | omega | assumption, ?_⟩
      refine ⟨by first | exact ix_ints (by kernel_rfl) hz' hr | exact ix_ints (by kernel_rfl) hzo hq, ?_⟩
      refine ⟨by first | exact ld_ints (by kernel_rfl) (by kernel_rfl) hz' | exact ld_ints (by kernel_rfl) (by kernel_rfl) hzo, ?_⟩
      refine ⟨by first | with_reducible assumption | omega | assumption, ?_⟩
      refine ⟨by first | with_reducible assumption | omega | assumption, ?_⟩
      refine ⟨by first | exact ix_ints (by kernel_rfl) hz' hr | exact ix_ints (by kernel_rfl) hzo hq, ?_⟩
      refine ⟨by first | exact ld_ints (by kernel_rfl) (by kernel_rfl) hz' | exact ld_ints (by kernel_rfl) (by kernel_rfl) hzo, ?_⟩
      refine ⟨by first | with_reducible assumption | omega | assumption, ?_⟩
      refine ⟨by first | with_reducible assumption | omega | assumption, ?_⟩
      exact .inl ⟨(), hn, rfl, rfl, rfl⟩
    have x3 : 1 ≤ ia od j := by omega
    by_cases x4 : 12 < ia od j
    · have hn := bad (fun h => by have := h.2.2; omega)
      refine ⟨[Ans.o (Orc.b true), Ans.o (Orc.val 28 (AV.cptr (ints (List.drop j ch))) H.nil), Ans.o (Orc.val 29 (I (ch.getD j i0)) H.nil), Ans.o (Orc.b false), Ans.o (Orc.b false), Ans.o (Orc.val 39 (AV.cptr (ints (List.drop j od))) H.nil), Ans.o (Orc.val 40 (I (od.getD j i0)) H.nil), Ans.o (Orc.b false), Ans.o (Orc.val 46 (AV.cptr (ints (List.drop j od))) H.nil), Ans.o (Orc.val 47 (I (od.getD j i0)) H.nil), Ans.o (Orc.b true)], fun u => of_eq ((↑j : Int) < (↑ch.length : Int) ∧ aIndexAddr Try.prog (36 : Nat) (AV.sl (ints ch) ch.length r) (I (↑j : Int)) = some (AV.cptr (ints (List.drop j ch))) ∧ aLoad Try.prog (3 : Nat) (ints (List.drop j ch)) = some (I (ch.getD j i0)) ∧ (0 : Int) ≤ ch.getD j i0 ∧ ch.getD j i0 ≤ (12 : Int) ∧ aIndexAddr Try.prog (36 : Nat) (AV.sl (ints od) od.length q) (I (↑j : Int)) = some (AV.cptr (ints (List.drop j od))) ∧ aLoad Try.prog (3 : Nat) (ints (List.drop j od)) = some (I (od.getD j i0)) ∧ (1 : Int) ≤ od.getD j i0 ∧ aIndexAddr Try.prog (36 : Nat) (AV.sl (ints od) od.length q) (I (↑j : Int)) = some (AV.cptr (ints (List.drop j od))) ∧ aLoad Try.prog (3 : Nat) (ints (List.drop j od)) = some (I (od.getD j i0)) ∧ (12 : Int) < od.getD j i0 ∧ (56 : Nat) = (56 : Nat) ∧ hits [Out.mk Unit AX.ret [(4 : Nat)] (fun x => ¬wiA2 ch od) (fun x => [AV.bool false]) (fun x => H.nil) fun x => [], Out.mk Unit (AX.exit (0 : Nat)) [(5 : Nat)] (fun x => wiA2 ch od) (fun x => [I (sI (ia ch) ch.length)]) (fun x => H.nil) fun x => []] AX.ret [u (0 : Nat), AV.sl (ints od) od.length q, u (2 : Nat), u (3 : Nat), AV.bool false, I (sI (ia ch) j), I (↑j : Int), I (ch.getD j i0), u (8 : Nat), u (9 : Nat), u (10 : Nat), u (11 : Nat), u (12 : Nat), u (13 : Nat), u (14 : Nat), u (15 : Nat), u (16 : Nat), u (17 : Nat), u (18 : Nat), u (19 : Nat), u (20 : Nat), u (21 : Nat), u (22 : Nat), AV.sl (ints ch) ch.length r, I (↑ch.length : Int), I (↑j : Int), AV.bool true, I (↑j : Int), AV.cptr (ints (List.drop j ch)), I (ch.getD j i0), I (ch.getD j i0), AV.bool false, AV.bool false, I (ch.getD j i0), AV.bool false, AV.bool false, AV.bool false, AV.sl (ints od) od.length q, I (↑j : Int), AV.cptr (ints (List.drop j od)), I (od.getD j i0), AV.bool false, AV.bool false, AV.bool false, AV.sl (ints od) od.length q, I (↑j : Int), AV.cptr (ints (List.drop j od)), I (od.getD j i0), AV.bool true, AV.bool true, u (50 : Nat), u (51 : Nat), u (52 : Nat), u (53 : Nat), u (54 : Nat), u (55 : Nat)] (H.mk [] [] [])) (by kernel_rfl) ?_⟩
      refine ⟨by first | with_reducible assumption | omega | assumption, ?_⟩
      refine ⟨by first | exact ix_ints (by kernel_rfl) hz' hr | exact ix_ints (by kernel_rfl) hzo hq, ?_⟩
      refine ⟨by first | exact ld_ints (by kernel_rfl) (by kernel_rfl) hz' | exact ld_ints (by kernel_rfl) (by kernel_rfl) hzo, ?_⟩
      refine ⟨by first | with_reducible assumption | omega | assumption, ?_⟩
      refine ⟨by first | with_reducible assumption | omega | assumption, ?_⟩
      refine ⟨by first | exact ix_ints (by kernel_rfl) hz' hr | exact ix_ints (by kernel_rfl) hzo hq, ?_⟩
      refine ⟨by first | exact ld_ints (by kernel_rfl) (by kernel_rfl) hz' | exact ld_ints (by kernel_rfl) (by kernel_rfl) hzo, ?_⟩
      refine ⟨by first | with_reducible assumption | omega | assumption, ?_⟩
      refine ⟨by first | exact ix_ints (by kernel_rfl) hz' hr | exact ix_ints (by kernel_rfl) hzo hq, ?_⟩
      refine ⟨by first | exact ld_ints (by kernel_rfl) (by kernel_rfl) hz' | exact ld_ints (by kernel_rfl) (by kernel_rfl) hzo, ?_⟩
      refine ⟨by first | with_reducible assumption | omega | assumption, ?_⟩
      refine ⟨by first | with_reducible assumption | omega | assumption, ?_⟩
      exact .inl ⟨(), hn, rfl, rfl, rfl⟩
    have x4 : ia od j ≤ 12 := by omega
    have hk := all_succ (q := fun i => wiJ ch od i) ha ⟨⟨x1, x2⟩, x3, x4⟩
    have ev1 : IntKind.i64.wrap (sI (ia ch) j + ia ch j) = sI (ia ch) (j + 1) := by show _ = sI (ia ch) j + ia ch j; exact wr _ (by omega) (by omega)
    have hs2 : 0 ≤ sI (ia ch) (j + 1) ∧ sI (ia ch) (j + 1) ≤ ((j + 1 : Nat) : Int) * 12 := by simp only [sI]; omega
    refine ⟨[Ans.o (Orc.b true), Ans.o (Orc.val 28 (AV.cptr (ints (List.drop j ch))) H.nil), Ans.o (Orc.val 29 (I (ch.getD j i0)) H.nil), Ans.o (Orc.b false), Ans.o (Orc.b false), Ans.o (Orc.val 39 (AV.cptr (ints (List.drop j od))) H.nil), Ans.o (Orc.val 40 (I (od.getD j i0)) H.nil), Ans.o (Orc.b false), Ans.o (Orc.val 46 (AV.cptr (ints (List.drop j od))) H.nil), Ans.o (Orc.val 47 (I (od.getD j i0)) H.nil), Ans.o (Orc.b false), Ans.o (Orc.val 52 (I (sI (ia ch) (j + (1 : Nat)))) H.nil), Ans.o (Orc.val 53 (I (↑(j + (1 : Nat)) : Int)) H.nil)], fun u => of_eq ((↑j : Int) < (↑ch.length : Int) ∧ aIndexAddr Try.prog (36 : Nat) (AV.sl (ints ch) ch.length r) (I (↑j : Int)) = some (AV.cptr (ints (List.drop j ch))) ∧ aLoad Try.prog (3 : Nat) (ints (List.drop j ch)) = some (I (ch.getD j i0)) ∧ (0 : Int) ≤ ch.getD j i0 ∧ ch.getD j i0 ≤ (12 : Int) ∧ aIndexAddr Try.prog (36 : Nat) (AV.sl (ints od) od.length q) (I (↑j : Int)) = some (AV.cptr (ints (List.drop j od))) ∧ aLoad Try.prog (3 : Nat) (ints (List.drop j od)) = some (I (od.getD j i0)) ∧ (1 : Int) ≤ od.getD j i0 ∧ aIndexAddr Try.prog (36 : Nat) (AV.sl (ints od) od.length q) (I (↑j : Int)) = some (AV.cptr (ints (List.drop j od))) ∧ aLoad Try.prog (3 : Nat) (ints (List.drop j od)) = some (I (od.getD j i0)) ∧ od.getD j i0 ≤ (12 : Int) ∧ aBin Try.prog BinOp.add (3 : Nat) (I (sI (ia ch) j)) (I (ch.getD j i0)) = some (I (sI (ia ch) (j + (1 : Nat)))) ∧ aBin Try.prog BinOp.add (3 : Nat) (I (↑j : Int)) (I 1) = some (I (↑(j + (1 : Nat)) : Int)) ∧ (56 : Nat) = (56 : Nat) ∧ j < ch.length ∧ Keep (H.mk [] [] [] = H.mk [] [] [] ∧ [AV.sl (ints od) od.length q, I (sI (ia ch) (j + (1 : Nat))), AV.sl (ints ch) ch.length r, I (↑ch.length : Int), I (↑(j + (1 : Nat)) : Int)] = [AV.sl (ints od) od.length q, I (sI (ia ch) (j + (1 : Nat))), AV.sl (ints ch) ch.length r, I (↑ch.length : Int), I (↑(j + (1 : Nat)) : Int)] ∧ ((0 : Int) ≤ sI (ia ch) (j + (1 : Nat)) ∧ sI (ia ch) (j + (1 : Nat)) ≤ (↑(j + (1 : Nat)) : Int) * (12 : Int)) ∧ ∀ (i : Nat), i < j + (1 : Nat) → wiJ ch od i)) (by kernel_rfl) ?_⟩
    refine ⟨by first | with_reducible assumption | omega | assumption, ?_⟩
    refine ⟨by first | exact ix_ints (by kernel_rfl) hz' hr | exact ix_ints (by kernel_rfl) hzo hq, ?_⟩
    refine ⟨by first | exact ld_ints (by kernel_rfl) (by kernel_rfl) hz' | exact ld_ints (by kernel_rfl) (by kernel_rfl) hzo, ?_⟩
    refine ⟨by first | with_reducible assumption | omega | assumption, ?_⟩
    refine ⟨by first | with_reducible assumption | omega | assumption, ?_⟩
    refine ⟨by first | exact ix_ints (by kernel_rfl) hz' hr | exact ix_ints (by kernel_rfl) hzo hq, ?_⟩
    refine ⟨by first | exact ld_ints (by kernel_rfl) (by kernel_rfl) hz' | exact ld_ints (by kernel_rfl) (by kernel_rfl) hzo, ?_⟩
    refine ⟨by first | with_reducible assumption | omega | assumption, ?_⟩
    refine ⟨by first | exact ix_ints (by kernel_rfl) hz' hr | exact ix_ints (by kernel_rfl) hzo hq, ?_⟩
    refine ⟨by first | exact ld_ints (by kernel_rfl) (by kernel_rfl) hz' | exact ld_ints (by kernel_rfl) (by kernel_rfl) hzo, ?_⟩
    refine ⟨by first | with_reducible assumption | omega | assumption, ?_⟩
    refine ⟨told_add (by with_reducible assumption), ?_⟩
    refine ⟨told_add (by with_reducible assumption), ?_⟩
    refine ⟨by first | with_reducible assumption | omega | assumption, ?_⟩
    refine ⟨by first | with_reducible assumption | omega | assumption, ?_⟩
    exact ⟨rfl, rfl, hs2, hk⟩
  · have hz : (ch.length : Int) ≤ j := by omega
    have e : j = ch.length := by omega
    subst e
    refine ⟨[Ans.o (Orc.b false)], fun u => of_eq ((↑ch.length : Int) ≤ (↑ch.length : Int) ∧ (56 : Nat) = (56 : Nat) ∧ hits [Out.mk Unit AX.ret [(4 : Nat)] (fun x => ¬wiA2 ch od) (fun x => [AV.bool false]) (fun x => H.nil) fun x => [], Out.mk Unit (AX.exit (0 : Nat)) [(5 : Nat)] (fun x => wiA2 ch od) (fun x => [I (sI (ia ch) ch.length)]) (fun x => H.nil) fun x => []] (AX.exit (0 : Nat)) [u (0 : Nat), AV.sl (ints od) od.length q, u (2 : Nat), u (3 : Nat), u (4 : Nat), I (sI (ia ch) ch.length), u (6 : Nat), u (7 : Nat), u (8 : Nat), u (9 : Nat), u (10 : Nat), u (11 : Nat), u (12 : Nat), u (13 : Nat), u (14 : Nat), u (15 : Nat), u (16 : Nat), u (17 : Nat), u (18 : Nat), u (19 : Nat), u (20 : Nat), u (21 : Nat), u (22 : Nat), AV.sl (ints ch) ch.length r, I (↑ch.length : Int), I (↑ch.length : Int), AV.bool false, u (27 : Nat), u (28 : Nat), u (29 : Nat), u (30 : Nat), u (31 : Nat), u (32 : Nat), u (33 : Nat), u (34 : Nat), u (35 : Nat), u (36 : Nat), u (37 : Nat), u (38 : Nat), u (39 : Nat), u (40 : Nat), u (41 : Nat), u (42 : Nat), u (43 : Nat), u (44 : Nat), u (45 : Nat), u (46 : Nat), u (47 : Nat), u (48 : Nat), u (49 : Nat), u (50 : Nat), u (51 : Nat), u (52 : Nat), u (53 : Nat), u (54 : Nat), u (55 : Nat)] (H.mk [] [] [])) (by kernel_rfl) ?_⟩
    refine ⟨by first | with_reducible assumption | omega | assumption, ?_⟩
    refine ⟨by first | with_reducible assumption | omega | assumption, ?_⟩
    exact .inr (.inl ⟨(), ha, rfl, rfl, rfl⟩)
theorem ok41 : FokM Try.prog none1 41 Try.f41 := ⟨mixed, by kernel_rfl, by kernel_rfl, by kernel_rfl, by kernel_rfl⟩
theorem r41 (ch : List Int) (r : Room) (od : List Int) (q : Room) (hp : p95 ch r od q) : Body (En6 []) none1 Try.f41 [ls ch r, ls od q] .nil (.bool (raB ch od), .nil) := by
  by_cases h1 : ch.length < 2
  · have h1' : (ch.length : Int) < 2 := by omega
    rw [raB_f (fun q => by have := q.1.1; omega)]
    refine body_s ([Ans.o (Orc.b true)]) ((↑ch.length : Int) < (2 : Int) ∧ (AV.bool false, H.mk [] [] []) = (AV.bool false, H.mk [] [] [])) (by kernel_rfl) ?_
    refine ⟨by first | with_reducible assumption | omega | assumption, ?_⟩
    rfl
  have h1' : (2 : Int) ≤ ch.length := by omega
  by_cases h2 : 5 < ch.length
  · have h2' : (5 : Int) < ch.length := by omega
    rw [raB_f (fun q => by have := q.1.1; omega)]
    refine body_s ([Ans.o (Orc.b false), Ans.o (Orc.b true)]) ((2 : Int) ≤ (↑ch.length : Int) ∧ (5 : Int) < (↑ch.length : Int) ∧ (AV.bool false, H.mk [] [] []) = (AV.bool false, H.mk [] [] [])) (by kernel_rfl) ?_
    refine ⟨by first | with_reducible assumption | omega | assumption, ?_⟩
    refine ⟨by first | with_reducible assumption | omega | assumption, ?_⟩
    rfl
  have h2' : (ch.length : Int) ≤ 5 := by omega
  by_cases h3 : (od.length : Int) = ch.length
  · have hl := lp41 ch od r q (by omega) (by omega) hp.1.2 hp.2.2
    have key : wiA2 ch od → wiL 0 12 ch ∧ wiL 1 12 od := fun h => ⟨fun i hi => (h i hi).1, fun i hi => (h i (by omega)).2⟩
    have key2 : raO ch od → wiA2 ch od := fun h i hi => ⟨h.2.1 i hi, h.2.2.2 i (by omega)⟩
    refine body_s ([Ans.o (Orc.b false), Ans.o (Orc.b false), Ans.o (Orc.b false), Ans.loop [(1 : Nat), (5 : Nat), (23 : Nat), (24 : Nat), (25 : Nat)] [Out.mk Unit AX.ret [(4 : Nat)] (fun x => ¬wiA2 ch od) (fun x => [AV.bool false]) (fun x => H.nil) fun y => [], Out.mk Unit (AX.exit (0 : Nat)) [(5 : Nat)] (fun x => wiA2 ch od) (fun x => [I (sI (ia ch) ch.length)]) (fun x => H.nil) fun y => [Ans.fork [] []]]]) ((2 : Int) ≤ (↑ch.length : Int) ∧ (↑ch.length : Int) ≤ (5 : Int) ∧ (↑od.length : Int) = (↑ch.length : Int) ∧ LoopS (Env.mk Try.prog (Sof (P := Try.prog) []) (Pof (P := Try.prog) []) H.nil.base (300 : Nat)) (loopAt Try.f41 (0 : Nat)) (56 : Nat) [(1 : Nat), (5 : Nat), (23 : Nat), (24 : Nat), (25 : Nat)] [AV.sl (ints od) od.length q, I 0, AV.sl (ints ch) ch.length r, I (↑ch.length : Int), I 0] (H.mk [] [] []) [Out.mk Unit AX.ret [(4 : Nat)] (fun x => ¬wiA2 ch od) (fun x => [AV.bool false]) (fun x => H.nil) fun y => [], Out.mk Unit (AX.exit (0 : Nat)) [(5 : Nat)] (fun x => wiA2 ch od) (fun x => [I (sI (ia ch) ch.length)]) (fun x => H.nil) fun y => [Ans.fork [] []]] ∧ (∀ (y : Unit), ¬wiA2 ch od → ∀ (u : Nat → AV), (AV.bool false, H.mk [] [] []) = (AV.bool (raB ch od), H.mk [] [] [])) ∧ (∀ (y : Unit), (∀ (i : Nat), i < ch.length → ((0 : Int) ≤ ia ch i ∧ ia ch i ≤ (12 : Int)) ∧ (1 : Int) ≤ ia od i ∧ ia od i ≤ (12 : Int)) → ∀ (u : Nat → AV), (sI (ia ch) ch.length = (12 : Int) → (AV.bool true, H.mk [] [] []) = (AV.bool (raB ch od), H.mk [] [] [])) ∧ (sI (ia ch) ch.length ≠ (12 : Int) → (AV.bool false, H.mk [] [] []) = (AV.bool (raB ch od), H.mk [] [] []))) ∧ True) (by kernel_rfl) ?_
    refine ⟨by first | with_reducible assumption | omega | assumption, ?_⟩
    refine ⟨by first | with_reducible assumption | omega | assumption, ?_⟩
    refine ⟨by first | with_reducible assumption | omega | assumption, ?_⟩
    refine ⟨hl, ?_⟩
    refine And.intro ?_ ?_
    · skip
      intro y
      intro w1
      intro u
      first | (rw [raB_t ⟨⟨⟨by omega, by omega⟩, by omega⟩, (key (by assumption)).1, by assumption, (key (by assumption)).2⟩]) | (rw [raB_f (fun q => absurd q.2.2.1 (by assumption))]) | (rw [raB_f (fun q => absurd (key2 q) (by assumption))])
    · skip
      refine And.intro ?_ ?_
      · skip
        intro y
        intro w1
        intro u
        refine And.intro ?_ ?_
        · skip
          intro w3
          first | (rw [raB_t ⟨⟨⟨by omega, by omega⟩, by omega⟩, (key (by assumption)).1, by assumption, (key (by assumption)).2⟩]) | (rw [raB_f (fun q => absurd q.2.2.1 (by assumption))]) | (rw [raB_f (fun q => absurd (key2 q) (by assumption))])
        · skip
          intro w3
          first | (rw [raB_t ⟨⟨⟨by omega, by omega⟩, by omega⟩, (key (by assumption)).1, by assumption, (key (by assumption)).2⟩]) | (rw [raB_f (fun q => absurd q.2.2.1 (by assumption))]) | (rw [raB_f (fun q => absurd (key2 q) (by assumption))])
      · skip
        trivial
  · have h3 : (od.length : Int) ≠ ch.length := h3
    rw [raB_f (fun q => h3 (by have := q.1.2; omega))]
    refine body_s ([Ans.o (Orc.b false), Ans.o (Orc.b false), Ans.o (Orc.b true)]) ((2 : Int) ≤ (↑ch.length : Int) ∧ (↑ch.length : Int) ≤ (5 : Int) ∧ (↑od.length : Int) ≠ (↑ch.length : Int) ∧ (AV.bool false, H.mk [] [] []) = (AV.bool false, H.mk [] [] [])) (by kernel_rfl) ?_
    refine ⟨by first | with_reducible assumption | omega | assumption, ?_⟩
    refine ⟨by first | with_reducible assumption | omega | assumption, ?_⟩
    refine ⟨by first | with_reducible assumption | omega | assumption, ?_⟩
    rfl
noncomputable def c41 : PCtr Try.prog := sctr ok41 (X := (List Int × Room) × List Int × Room) (fun x => [ls x.1.1 x.1.2, ls x.2.1 x.2.2]) (fun x => p95 x.1.1 x.1.2 x.2.1 x.2.2) (fun x => .bool (raB x.1.1 x.2.1))
  (by
    rintro ⟨⟨l, r⟩, m, s⟩ ⟨⟨l', r'⟩, m', s'⟩ e _ _
    simp only [List.cons.injEq, and_true] at e
    simp only [ls_det e.1, ls_det e.2]) (fun x => by simp [AV.bnds, AV.bnd, AV.wk, rm_wk_bnd]) (fun x => rfl)
  (fun x hx => ⟨_, _, _, .nil, r41 x.1.1 x.1.2.wk x.2.1 x.2.2.wk ⟨⟨hx.1.1, by simpa using hx.1.2⟩, hx.2.1, by simpa using hx.2.2⟩⟩)
abbrev stO (n : Nat) (s : List Pr) : Prop := (s.length = n ∧ jOK s) ∧ sI (ia (nums s)) s.length ≤ (dn s s.length : Nat)
open Classical in
noncomputable def stB (n : Nat) (s : List Pr) : Bool := decide (stO n s)
theorem stB_t {n : Nat} {s : List Pr} (h : stO n s) : stB n s = true := by simp only [stB, decide_eq_true_eq]; exact h
theorem stB_f {n : Nat} {s : List Pr} (h : ¬ stO n s) : stB n s = false := by simp only [stB, decide_eq_false_iff_not]; exact h
abbrev pST (n : Nat) (l : List Pr) (r : Room) : Prop := pW l r ∧ n ≤ 5
theorem ok45 : FokM Try.prog none1 45 Try.f45 := ⟨mixed, by kernel_rfl, by kernel_rfl, by kernel_rfl, by kernel_rfl⟩
theorem r45 (n : Nat) (l : List Pr) (r : Room) (hp : pST n l r.wk) : Body ⟨Try.prog, Sof (P := Try.prog) [c25.to, c54.to, c78.to], Pof (P := Try.prog) [], H.nil.base, 300⟩ none1 Try.f45 [I n, pz l r.wk] .nil (.bool (stB n l), .nil) := by
  by_cases h1 : (l.length : Int) = n
  · obtain ⟨⟨hw1, hw2⟩, h5⟩ := hp
    have hM : pM l r.wk := ⟨by omega, hw2⟩
    by_cases h3 : jOK l
    · have hc : chB (n : Int) l = true := chB_t ⟨⟨h1, (jOK_iff.1 h3).1⟩, (jOK_iff.1 h3).2⟩
      have h2 : 2 ^ n ≤ 2 ^ 60 := Nat.pow_le_pow_right (by decide) (by omega)
      have h0 : 1 ≤ 2 ^ n := Nat.one_le_two_pow
      have hn0 : (0 : Int) ≤ n := by omega
      have ev0 : IntKind.i64.wrap (1 * 2 ^ min ((n : Int)).toNat IntKind.i64.bits) = ((2 ^ n : Nat) : Int) := by
        have := i_shl (a := 1) (n := n) (by omega) (by omega)
        rw [Nat.one_mul] at this
        exact this
      have ev1 : IntKind.i64.wrap (((2 ^ n : Nat) : Int) - 1) = ((2 ^ n - 1 : Nat) : Int) := by rw [wr _ (by omega) (by omega)]; omega
      have p78 : pQ l r.wk (2 ^ n - 1) := ⟨⟨hM, by omega⟩, h3, by omega⟩
      have e := mul_t (jOK_iff.1 h3).1
      have es := sS_all (nums l) n (j := l.length) (by omega)
      by_cases hle : sS (nums l) (2 ^ n - 1) l.length ≤ ((mul l : Nat) : Int)
      · rw [stB_t ⟨⟨by omega, h3⟩, by rw [← es, ← e]; exact hle⟩]
        refine body_s ([Ans.o (Orc.b true), Ans.o (Orc.val 12 (AV.bool true) (H.mk [] [] [])), Ans.o (Orc.val 17 (I (↑((2 : Nat) ^ n) : Int)) H.nil), Ans.o (Orc.val 18 (I (↑((2 : Nat) ^ n - (1 : Nat)) : Int)) H.nil), Ans.o (Orc.val 19 (I (sS (nums l) ((2 : Nat) ^ n - (1 : Nat)) l.length)) (H.mk [] [] [])), Ans.o (Orc.val 21 (I (↑(mul l) : Int)) (H.mk [] [] [])), Ans.o (Orc.b true)]) ((↑l.length : Int) = (↑n : Int) ∧ aCall (Sof [c25.to, c54.to, c78.to]) (AV.fn (Fn.func (25 : Nat)) [] []) [I (↑n : Int), AV.sl (pairsA l) l.length r.wk] (H.mk [] [] []) = some (AV.bool true, H.mk [] [] []) ∧ aBin Try.prog BinOp.shl (3 : Nat) (I 1) (I (↑n : Int)) = some (I (↑((2 : Nat) ^ n) : Int)) ∧ aBin Try.prog BinOp.sub (3 : Nat) (I (↑((2 : Nat) ^ n) : Int)) (I 1) = some (I (↑((2 : Nat) ^ n - (1 : Nat)) : Int)) ∧ aCall (Sof [c25.to, c54.to, c78.to]) (AV.fn (Fn.func (78 : Nat)) [] []) [AV.sl (pairsA l) l.length r.wk, I (↑((2 : Nat) ^ n - (1 : Nat)) : Int)] (H.mk [] [] []) = some (I (sS (nums l) ((2 : Nat) ^ n - (1 : Nat)) l.length), H.mk [] [] []) ∧ aCall (Sof [c25.to, c54.to, c78.to]) (AV.fn (Fn.func (54 : Nat)) [] []) [AV.sl (pairsA l) l.length r.wk] (H.mk [] [] []) = some (I (↑(mul l) : Int), H.mk [] [] []) ∧ sS (nums l) ((2 : Nat) ^ n - (1 : Nat)) l.length ≤ (↑(mul l) : Int) ∧ (AV.bool true, H.mk [] [] []) = (AV.bool true, H.mk [] [] [])) (by kernel_rfl) ?_
        refine ⟨by first | with_reducible assumption | omega | assumption, ?_⟩
        refine ⟨acall_b (acall_hit (c := c25.to) ((n : Int), l, r.wk) _ rfl hM) hc, ?_⟩
        refine ⟨by first | exact told_shl (by first | exact Int.natCast_nonneg _ | omega) (by with_reducible assumption) | exact told_shl (by omega) rfl, ?_⟩
        refine ⟨told_sub (by with_reducible assumption), ?_⟩
        refine ⟨acall_hit (c := c78.to) (l, r.wk, 2 ^ n - 1) _ rfl p78, ?_⟩
        refine ⟨acall_hit (c := c54.to) (l, r.wk) _ rfl hM, ?_⟩
        refine ⟨by first | with_reducible assumption | omega | assumption, ?_⟩
        rfl
      · rw [stB_f (fun q => hle (by rw [es, e]; exact q.2))]
        have hle : ((mul l : Nat) : Int) < sS (nums l) (2 ^ n - 1) l.length := by omega
        refine body_s ([Ans.o (Orc.b true), Ans.o (Orc.val 12 (AV.bool true) (H.mk [] [] [])), Ans.o (Orc.val 17 (I (↑((2 : Nat) ^ n) : Int)) H.nil), Ans.o (Orc.val 18 (I (↑((2 : Nat) ^ n - (1 : Nat)) : Int)) H.nil), Ans.o (Orc.val 19 (I (sS (nums l) ((2 : Nat) ^ n - (1 : Nat)) l.length)) (H.mk [] [] [])), Ans.o (Orc.val 21 (I (↑(mul l) : Int)) (H.mk [] [] [])), Ans.o (Orc.b false)]) ((↑l.length : Int) = (↑n : Int) ∧ aCall (Sof [c25.to, c54.to, c78.to]) (AV.fn (Fn.func (25 : Nat)) [] []) [I (↑n : Int), AV.sl (pairsA l) l.length r.wk] (H.mk [] [] []) = some (AV.bool true, H.mk [] [] []) ∧ aBin Try.prog BinOp.shl (3 : Nat) (I 1) (I (↑n : Int)) = some (I (↑((2 : Nat) ^ n) : Int)) ∧ aBin Try.prog BinOp.sub (3 : Nat) (I (↑((2 : Nat) ^ n) : Int)) (I 1) = some (I (↑((2 : Nat) ^ n - (1 : Nat)) : Int)) ∧ aCall (Sof [c25.to, c54.to, c78.to]) (AV.fn (Fn.func (78 : Nat)) [] []) [AV.sl (pairsA l) l.length r.wk, I (↑((2 : Nat) ^ n - (1 : Nat)) : Int)] (H.mk [] [] []) = some (I (sS (nums l) ((2 : Nat) ^ n - (1 : Nat)) l.length), H.mk [] [] []) ∧ aCall (Sof [c25.to, c54.to, c78.to]) (AV.fn (Fn.func (54 : Nat)) [] []) [AV.sl (pairsA l) l.length r.wk] (H.mk [] [] []) = some (I (↑(mul l) : Int), H.mk [] [] []) ∧ (↑(mul l) : Int) < sS (nums l) ((2 : Nat) ^ n - (1 : Nat)) l.length ∧ (AV.bool false, H.mk [] [] []) = (AV.bool false, H.mk [] [] [])) (by kernel_rfl) ?_
        refine ⟨by first | with_reducible assumption | omega | assumption, ?_⟩
        refine ⟨acall_b (acall_hit (c := c25.to) ((n : Int), l, r.wk) _ rfl hM) hc, ?_⟩
        refine ⟨by first | exact told_shl (by first | exact Int.natCast_nonneg _ | omega) (by with_reducible assumption) | exact told_shl (by omega) rfl, ?_⟩
        refine ⟨told_sub (by with_reducible assumption), ?_⟩
        refine ⟨acall_hit (c := c78.to) (l, r.wk, 2 ^ n - 1) _ rfl p78, ?_⟩
        refine ⟨acall_hit (c := c54.to) (l, r.wk) _ rfl hM, ?_⟩
        refine ⟨by first | with_reducible assumption | omega | assumption, ?_⟩
        rfl
    · have hc : chB (n : Int) l = false := chB_f (fun q => h3 (jOK_iff.2 ⟨q.1.2, q.2⟩))
      rw [stB_f (fun q => h3 q.1.2)]
      refine body_s ([Ans.o (Orc.b true), Ans.o (Orc.val 12 (AV.bool false) (H.mk [] [] []))]) ((↑l.length : Int) = (↑n : Int) ∧ aCall (Sof [c25.to, c54.to, c78.to]) (AV.fn (Fn.func (25 : Nat)) [] []) [I (↑n : Int), AV.sl (pairsA l) l.length r.wk] (H.mk [] [] []) = some (AV.bool false, H.mk [] [] []) ∧ (AV.bool false, H.mk [] [] []) = (AV.bool false, H.mk [] [] [])) (by kernel_rfl) ?_
      refine ⟨by first | with_reducible assumption | omega | assumption, ?_⟩
      refine ⟨acall_b (acall_hit (c := c25.to) ((n : Int), l, r.wk) _ rfl hM) hc, ?_⟩
      rfl
  · have h1 : (l.length : Int) ≠ n := h1
    rw [stB_f (fun q => h1 (by have := q.1.1; omega))]
    refine body_s ([Ans.o (Orc.b false)]) ((↑l.length : Int) ≠ (↑n : Int) ∧ (AV.bool false, H.mk [] [] []) = (AV.bool false, H.mk [] [] [])) (by kernel_rfl) ?_
    refine ⟨by first | with_reducible assumption | omega | assumption, ?_⟩
    rfl
noncomputable def c45 : PCtr Try.prog := sctr ok45 (X := Nat × List Pr × Room) (fun x => [I x.1, pz x.2.1 x.2.2]) (fun x => pST x.1 x.2.1 x.2.2) (fun x => .bool (stB x.1 x.2.1)) (by intro x y e _ _; simp [Int.natCast_inj] at e; simp [e]) (fun x => by simp [AV.bnds, AV.bnd, AV.wk, rm_wk_bnd]) (fun x => by first | rfl | (simp [AV.bnd, rm_wk_bnd]; done)  | (simp [AV.bnd, AV.bnds, rm_wk_bnd]; done) | simp [AV.bnd, AV.bnds, Room.bnd, rm_wk_bnd]) (fun x hx => ⟨_, _, _, .pure c25 (.pure c54 (.pure c78 (.nil))), r45 (x.1) (x.2.1) (x.2.2) (by first | exact hx | (simp only [pM, pST, pW, rok_wk] at hx ⊢; exact hx))⟩)
end Go.Proofs.Bts

