/- Layer 2: what a tournament is, by the reference. -/
import Derived.Test.YtnnhomkkggkkfaaDoorRkD
import Derived.KernelRfl
set_option linter.unusedSimpArgs false
set_option linter.unusedVariables false
set_option linter.unnecessarySimpa false
set_option maxHeartbeats 4000000
set_option maxRecDepth 100000
namespace Go.Proofs.Rnk
open Go Go.VM
open Go.Proofs.Sur (andn andn_bit andn_le i_wrap i_and i_or i_andn i_shl i_shr bit_01)

abbrev o21b (t : List Int) (r : Room) (i : Nat) : List Out :=
  [.mk Unit .ret [2] (fun _ => ¬ Q4 t i) (fun _ => [.bool false]) (fun _ => .nil) (fun _ => []), .mk Unit (.exit 2) [0, 3, 15, 16, 17] (fun _ => Q4 t i) (fun _ => [ls t r, I t.length, ls t r, I t.length, I i]) (fun _ => .nil) (fun _ => [])]
theorem simp21b : allSimpleM none1 (loopAt Tryd.f21 1) = true := by kernel_rfl
theorem lp21b (t : List Int) (r : Room) (h1 : sz t) (h2 : rok t r) (i : Nat) (hi : i < t.length) (hq : q1 t i) (hb : ∀ k, k < i → q5 t k) :
    LoopS (En6 []) (loopAt Tryd.f21 1) 55 [0, 3, 4, 5, 15, 16, 17, 37, 38] [ls t r, I t.length, I i, I (ia t i), ls t r, I t.length, I i, I i, I 0] .nil (o21b t r i) := by
  have hR : Rests (En6 []) none1 := rests mixed .nil
  have h8 := h1.2
  have s1 := q1_s8 h8 hq
  refine loop_s hR simp21b none (by intro _ h; cases h) (fun j vs h => h = .nil ∧ vs = [ls t r, I t.length, I i, I (ia t i), ls t r, I t.length, I i, I i, I j] ∧ ∀ k, k < j → q3 t i k) i ⟨rfl, rfl, fun i hi => absurd hi (by omega)⟩ (by intro _ h; cases h) ?_
  rintro j vs h hj ⟨rfl, rfl, ha⟩
  by_cases hz : (j : Int) < i
  · have hz' : j < i := by omega
    have hz2 : j < t.length := by omega
    have hr := rok_idx h2 hz2
    have s2 := q1_s8 h8 (hb j hz').1.1
    have ev0 := wj1 (j := j) (by omega)
    by_cases c : q3 t i j
    · have hk := all_succ (q := q3 t i) ha c
      cases b1 : bi (ia t i) j
      · have b2 : bi (ia t j) i = true := by simp only [q3] at c; rw [b1] at c; revert c; cases bi (ia t j) i <;> simp
        obtain ⟨ev1, ev2⟩ := i_bit0 s1 (show j ≤ 64 by omega) b1
        obtain ⟨ev3, ev4⟩ := i_bit1 s2 (show i ≤ 64 by omega) b2
        refine ⟨[Ans.o (Orc.b true), Ans.o (Orc.val 43 (I (↑((ia t i).toNat >>> j) : Int)) H.nil), Ans.o (Orc.val 44 (I 0) H.nil), Ans.o (Orc.val 47 (AV.cptr (ints (List.drop j t))) H.nil), Ans.o (Orc.val 48 (I (t.getD j i0)) H.nil), Ans.o (Orc.val 50 (I (↑((ia t j).toNat >>> i) : Int)) H.nil), Ans.o (Orc.val 51 (I 1) H.nil), Ans.o Orc.dflt, Ans.o (Orc.val 53 (I (↑(j + (1 : Nat)) : Int)) H.nil)], fun u => of_eq ((↑j : Int) < (↑i : Int) ∧ aBin Tryd.prog BinOp.shr (3 : Nat) (I (ia t i)) (I (↑j : Int)) = some (I (↑((ia t i).toNat >>> j) : Int)) ∧ aBin Tryd.prog BinOp.and (3 : Nat) (I (↑((ia t i).toNat >>> j) : Int)) (I 1) = some (I 0) ∧ aIndexAddr Tryd.prog 22 (ls t r) (I (↑j : Int)) = some (AV.cptr (ints (List.drop j t))) ∧ aLoad Tryd.prog 3 (ints (List.drop j t)) = some (I (t.getD j i0)) ∧ aBin Tryd.prog BinOp.shr (3 : Nat) (I (t.getD j i0)) (I (↑i : Int)) = some (I (↑((ia t j).toNat >>> i) : Int)) ∧ aBin Tryd.prog BinOp.and (3 : Nat) (I (↑((ia t j).toNat >>> i) : Int)) (I 1) = some (I 1) ∧ aBin Tryd.prog BinOp.add (3 : Nat) (I (↑j : Int)) (I 1) = some (I (↑(j + (1 : Nat)) : Int)) ∧ (55 : Nat) = (55 : Nat) ∧ j < i ∧ Keep (H.mk [] [] [] = H.mk [] [] [] ∧ [ls t r, I (↑t.length : Int), I (↑i : Int), I (ia t i), ls t r, I (↑t.length : Int), I (↑i : Int), I (↑i : Int), I (↑(j + (1 : Nat)) : Int)] = [ls t r, I (↑t.length : Int), I (↑i : Int), I (ia t i), ls t r, I (↑t.length : Int), I (↑i : Int), I (↑i : Int), I (↑(j + (1 : Nat)) : Int)] ∧ ∀ (k : Nat), k < j + (1 : Nat) → q3 t i k)) (by kernel_rfl) ?_⟩
        refine ⟨by first | with_reducible assumption | omega | assumption, ?_⟩
        refine ⟨by first | exact told_shr (by first | exact Int.natCast_nonneg _ | omega) (by with_reducible assumption) | exact told_shr (by omega) rfl, ?_⟩
        refine ⟨told_and (by with_reducible assumption), ?_⟩
        refine ⟨ix_ints (by kernel_rfl) hz2 hr, ?_⟩
        refine ⟨by first | exact ld_ints (by kernel_rfl) (by kernel_rfl) (by omega) | exact ldm_ints (by kernel_rfl) (by kernel_rfl) (by first | omega | (simp; omega)), ?_⟩
        refine ⟨by first | exact told_shr (by first | exact Int.natCast_nonneg _ | omega) (by with_reducible assumption) | exact told_shr (by omega) rfl, ?_⟩
        refine ⟨told_and (by with_reducible assumption), ?_⟩
        refine ⟨told_add (by with_reducible assumption), ?_⟩
        refine ⟨by first | with_reducible assumption | omega | assumption, ?_⟩
        refine ⟨by first | with_reducible assumption | omega | assumption, ?_⟩
        exact ⟨rfl, rfl, hk⟩
      · have b2 : bi (ia t j) i = false := by simp only [q3] at c; rw [b1] at c; revert c; cases bi (ia t j) i <;> simp
        obtain ⟨ev1, ev2⟩ := i_bit1 s1 (show j ≤ 64 by omega) b1
        obtain ⟨ev3, ev4⟩ := i_bit0 s2 (show i ≤ 64 by omega) b2
        refine ⟨[Ans.o (Orc.b true), Ans.o (Orc.val 43 (I (↑((ia t i).toNat >>> j) : Int)) H.nil), Ans.o (Orc.val 44 (I 1) H.nil), Ans.o (Orc.val 47 (AV.cptr (ints (List.drop j t))) H.nil), Ans.o (Orc.val 48 (I (t.getD j i0)) H.nil), Ans.o (Orc.val 50 (I (↑((ia t j).toNat >>> i) : Int)) H.nil), Ans.o (Orc.val 51 (I 0) H.nil), Ans.o Orc.dflt, Ans.o (Orc.val 53 (I (↑(j + (1 : Nat)) : Int)) H.nil)], fun u => of_eq ((↑j : Int) < (↑i : Int) ∧ aBin Tryd.prog BinOp.shr (3 : Nat) (I (ia t i)) (I (↑j : Int)) = some (I (↑((ia t i).toNat >>> j) : Int)) ∧ aBin Tryd.prog BinOp.and (3 : Nat) (I (↑((ia t i).toNat >>> j) : Int)) (I 1) = some (I 1) ∧ aIndexAddr Tryd.prog 22 (ls t r) (I (↑j : Int)) = some (AV.cptr (ints (List.drop j t))) ∧ aLoad Tryd.prog 3 (ints (List.drop j t)) = some (I (t.getD j i0)) ∧ aBin Tryd.prog BinOp.shr (3 : Nat) (I (t.getD j i0)) (I (↑i : Int)) = some (I (↑((ia t j).toNat >>> i) : Int)) ∧ aBin Tryd.prog BinOp.and (3 : Nat) (I (↑((ia t j).toNat >>> i) : Int)) (I 1) = some (I 0) ∧ aBin Tryd.prog BinOp.add (3 : Nat) (I (↑j : Int)) (I 1) = some (I (↑(j + (1 : Nat)) : Int)) ∧ (55 : Nat) = (55 : Nat) ∧ j < i ∧ Keep (H.mk [] [] [] = H.mk [] [] [] ∧ [ls t r, I (↑t.length : Int), I (↑i : Int), I (ia t i), ls t r, I (↑t.length : Int), I (↑i : Int), I (↑i : Int), I (↑(j + (1 : Nat)) : Int)] = [ls t r, I (↑t.length : Int), I (↑i : Int), I (ia t i), ls t r, I (↑t.length : Int), I (↑i : Int), I (↑i : Int), I (↑(j + (1 : Nat)) : Int)] ∧ ∀ (k : Nat), k < j + (1 : Nat) → q3 t i k)) (by kernel_rfl) ?_⟩
        refine ⟨by first | with_reducible assumption | omega | assumption, ?_⟩
        refine ⟨by first | exact told_shr (by first | exact Int.natCast_nonneg _ | omega) (by with_reducible assumption) | exact told_shr (by omega) rfl, ?_⟩
        refine ⟨told_and (by with_reducible assumption), ?_⟩
        refine ⟨ix_ints (by kernel_rfl) hz2 hr, ?_⟩
        refine ⟨by first | exact ld_ints (by kernel_rfl) (by kernel_rfl) (by omega) | exact ldm_ints (by kernel_rfl) (by kernel_rfl) (by first | omega | (simp; omega)), ?_⟩
        refine ⟨by first | exact told_shr (by first | exact Int.natCast_nonneg _ | omega) (by with_reducible assumption) | exact told_shr (by omega) rfl, ?_⟩
        refine ⟨told_and (by with_reducible assumption), ?_⟩
        refine ⟨told_add (by with_reducible assumption), ?_⟩
        refine ⟨by first | with_reducible assumption | omega | assumption, ?_⟩
        refine ⟨by first | with_reducible assumption | omega | assumption, ?_⟩
        exact ⟨rfl, rfl, hk⟩
    · have hn : ¬ Q4 t i := fun h => c (h.h j hz')
      have c : bi (ia t i) j = bi (ia t j) i := Decidable.not_not.1 c
      cases b1 : bi (ia t i) j
      · have b2 : bi (ia t j) i = false := by rw [← c]; exact b1
        obtain ⟨ev1, ev2⟩ := i_bit0 s1 (show j ≤ 64 by omega) b1
        obtain ⟨ev3, ev4⟩ := i_bit0 s2 (show i ≤ 64 by omega) b2
        refine ⟨[Ans.o (Orc.b true), Ans.o (Orc.val 43 (I (↑((ia t i).toNat >>> j) : Int)) H.nil), Ans.o (Orc.val 44 (I 0) H.nil), Ans.o (Orc.val 47 (AV.cptr (ints (List.drop j t))) H.nil), Ans.o (Orc.val 48 (I (t.getD j i0)) H.nil), Ans.o (Orc.val 50 (I (↑((ia t j).toNat >>> i) : Int)) H.nil), Ans.o (Orc.val 51 (I 0) H.nil), Ans.o Orc.dflt], fun u => of_eq ((↑j : Int) < (↑i : Int) ∧ aBin Tryd.prog BinOp.shr (3 : Nat) (I (ia t i)) (I (↑j : Int)) = some (I (↑((ia t i).toNat >>> j) : Int)) ∧ aBin Tryd.prog BinOp.and (3 : Nat) (I (↑((ia t i).toNat >>> j) : Int)) (I 1) = some (I 0) ∧ aIndexAddr Tryd.prog 22 (ls t r) (I (↑j : Int)) = some (AV.cptr (ints (List.drop j t))) ∧ aLoad Tryd.prog 3 (ints (List.drop j t)) = some (I (t.getD j i0)) ∧ aBin Tryd.prog BinOp.shr (3 : Nat) (I (t.getD j i0)) (I (↑i : Int)) = some (I (↑((ia t j).toNat >>> i) : Int)) ∧ aBin Tryd.prog BinOp.and (3 : Nat) (I (↑((ia t j).toNat >>> i) : Int)) (I 1) = some (I 0) ∧ (55 : Nat) = (55 : Nat) ∧ hits [Out.mk Unit AX.ret [2] (fun x => ¬Q4 t i) (fun x => [AV.bool false]) (fun x => H.nil) fun x => [], Out.mk Unit (AX.exit 2) [0, 3, 15, 16, 17] (fun x => Q4 t i) (fun x => [ls t r, I (↑t.length : Int), ls t r, I (↑t.length : Int), I (↑i : Int)]) (fun x => H.nil) fun x => []] AX.ret [ls t r, u (1 : Nat), AV.bool false, I (↑t.length : Int), I (↑i : Int), I (ia t i), I (↑j : Int), u (7 : Nat), u (8 : Nat), u (9 : Nat), u (10 : Nat), u (11 : Nat), u (12 : Nat), u (13 : Nat), u (14 : Nat), ls t r, I (↑t.length : Int), I (↑i : Int), u (18 : Nat), u (19 : Nat), u (20 : Nat), u (21 : Nat), u (22 : Nat), u (23 : Nat), u (24 : Nat), u (25 : Nat), u (26 : Nat), u (27 : Nat), u (28 : Nat), u (29 : Nat), u (30 : Nat), u (31 : Nat), u (32 : Nat), u (33 : Nat), u (34 : Nat), u (35 : Nat), u (36 : Nat), I (↑i : Int), I (↑j : Int), AV.bool true, I (↑j : Int), I (ia t i), I (↑j : Int), I (↑((ia t i).toNat >>> j) : Int), I 0, ls t r, I (↑j : Int), AV.cptr (ints (List.drop j t)), I (t.getD j i0), I (↑i : Int), I (↑((ia t j).toNat >>> i) : Int), I 0, AV.bool true, u (53 : Nat), u (54 : Nat)] (H.mk [] [] [])) (by kernel_rfl) ?_⟩
        refine ⟨by first | with_reducible assumption | omega | assumption, ?_⟩
        refine ⟨by first | exact told_shr (by first | exact Int.natCast_nonneg _ | omega) (by with_reducible assumption) | exact told_shr (by omega) rfl, ?_⟩
        refine ⟨told_and (by with_reducible assumption), ?_⟩
        refine ⟨ix_ints (by kernel_rfl) hz2 hr, ?_⟩
        refine ⟨by first | exact ld_ints (by kernel_rfl) (by kernel_rfl) (by omega) | exact ldm_ints (by kernel_rfl) (by kernel_rfl) (by first | omega | (simp; omega)), ?_⟩
        refine ⟨by first | exact told_shr (by first | exact Int.natCast_nonneg _ | omega) (by with_reducible assumption) | exact told_shr (by omega) rfl, ?_⟩
        refine ⟨told_and (by with_reducible assumption), ?_⟩
        refine ⟨by first | with_reducible assumption | omega | assumption, ?_⟩
        exact .inl ⟨(), hn, rfl, rfl, rfl⟩
      · have b2 : bi (ia t j) i = true := by rw [← c]; exact b1
        obtain ⟨ev1, ev2⟩ := i_bit1 s1 (show j ≤ 64 by omega) b1
        obtain ⟨ev3, ev4⟩ := i_bit1 s2 (show i ≤ 64 by omega) b2
        refine ⟨[Ans.o (Orc.b true), Ans.o (Orc.val 43 (I (↑((ia t i).toNat >>> j) : Int)) H.nil), Ans.o (Orc.val 44 (I 1) H.nil), Ans.o (Orc.val 47 (AV.cptr (ints (List.drop j t))) H.nil), Ans.o (Orc.val 48 (I (t.getD j i0)) H.nil), Ans.o (Orc.val 50 (I (↑((ia t j).toNat >>> i) : Int)) H.nil), Ans.o (Orc.val 51 (I 1) H.nil), Ans.o Orc.dflt], fun u => of_eq ((↑j : Int) < (↑i : Int) ∧ aBin Tryd.prog BinOp.shr (3 : Nat) (I (ia t i)) (I (↑j : Int)) = some (I (↑((ia t i).toNat >>> j) : Int)) ∧ aBin Tryd.prog BinOp.and (3 : Nat) (I (↑((ia t i).toNat >>> j) : Int)) (I 1) = some (I 1) ∧ aIndexAddr Tryd.prog 22 (ls t r) (I (↑j : Int)) = some (AV.cptr (ints (List.drop j t))) ∧ aLoad Tryd.prog 3 (ints (List.drop j t)) = some (I (t.getD j i0)) ∧ aBin Tryd.prog BinOp.shr (3 : Nat) (I (t.getD j i0)) (I (↑i : Int)) = some (I (↑((ia t j).toNat >>> i) : Int)) ∧ aBin Tryd.prog BinOp.and (3 : Nat) (I (↑((ia t j).toNat >>> i) : Int)) (I 1) = some (I 1) ∧ (55 : Nat) = (55 : Nat) ∧ hits [Out.mk Unit AX.ret [2] (fun x => ¬Q4 t i) (fun x => [AV.bool false]) (fun x => H.nil) fun x => [], Out.mk Unit (AX.exit 2) [0, 3, 15, 16, 17] (fun x => Q4 t i) (fun x => [ls t r, I (↑t.length : Int), ls t r, I (↑t.length : Int), I (↑i : Int)]) (fun x => H.nil) fun x => []] AX.ret [ls t r, u (1 : Nat), AV.bool false, I (↑t.length : Int), I (↑i : Int), I (ia t i), I (↑j : Int), u (7 : Nat), u (8 : Nat), u (9 : Nat), u (10 : Nat), u (11 : Nat), u (12 : Nat), u (13 : Nat), u (14 : Nat), ls t r, I (↑t.length : Int), I (↑i : Int), u (18 : Nat), u (19 : Nat), u (20 : Nat), u (21 : Nat), u (22 : Nat), u (23 : Nat), u (24 : Nat), u (25 : Nat), u (26 : Nat), u (27 : Nat), u (28 : Nat), u (29 : Nat), u (30 : Nat), u (31 : Nat), u (32 : Nat), u (33 : Nat), u (34 : Nat), u (35 : Nat), u (36 : Nat), I (↑i : Int), I (↑j : Int), AV.bool true, I (↑j : Int), I (ia t i), I (↑j : Int), I (↑((ia t i).toNat >>> j) : Int), I 1, ls t r, I (↑j : Int), AV.cptr (ints (List.drop j t)), I (t.getD j i0), I (↑i : Int), I (↑((ia t j).toNat >>> i) : Int), I 1, AV.bool true, u (53 : Nat), u (54 : Nat)] (H.mk [] [] [])) (by kernel_rfl) ?_⟩
        refine ⟨by first | with_reducible assumption | omega | assumption, ?_⟩
        refine ⟨by first | exact told_shr (by first | exact Int.natCast_nonneg _ | omega) (by with_reducible assumption) | exact told_shr (by omega) rfl, ?_⟩
        refine ⟨told_and (by with_reducible assumption), ?_⟩
        refine ⟨ix_ints (by kernel_rfl) hz2 hr, ?_⟩
        refine ⟨by first | exact ld_ints (by kernel_rfl) (by kernel_rfl) (by omega) | exact ldm_ints (by kernel_rfl) (by kernel_rfl) (by first | omega | (simp; omega)), ?_⟩
        refine ⟨by first | exact told_shr (by first | exact Int.natCast_nonneg _ | omega) (by with_reducible assumption) | exact told_shr (by omega) rfl, ?_⟩
        refine ⟨told_and (by with_reducible assumption), ?_⟩
        refine ⟨by first | with_reducible assumption | omega | assumption, ?_⟩
        exact .inl ⟨(), hn, rfl, rfl, rfl⟩
  · have hz : (i : Int) ≤ j := by omega
    have hj' : j = i := by omega
    subst hj'
    refine ⟨[Ans.o (Orc.b false)], fun u => of_eq ((↑j : Int) ≤ (↑j : Int) ∧ (55 : Nat) = (55 : Nat) ∧ hits [Out.mk Unit AX.ret [2] (fun x => ¬Q4 t j) (fun x => [AV.bool false]) (fun x => H.nil) fun x => [], Out.mk Unit (AX.exit 2) [0, 3, 15, 16, 17] (fun x => Q4 t j) (fun x => [ls t r, I (↑t.length : Int), ls t r, I (↑t.length : Int), I (↑j : Int)]) (fun x => H.nil) fun x => []] (AX.exit 2) [ls t r, u (1 : Nat), u (2 : Nat), I (↑t.length : Int), I (↑j : Int), I (ia t j), u (6 : Nat), u (7 : Nat), u (8 : Nat), u (9 : Nat), u (10 : Nat), u (11 : Nat), u (12 : Nat), u (13 : Nat), u (14 : Nat), ls t r, I (↑t.length : Int), I (↑j : Int), u (18 : Nat), u (19 : Nat), u (20 : Nat), u (21 : Nat), u (22 : Nat), u (23 : Nat), u (24 : Nat), u (25 : Nat), u (26 : Nat), u (27 : Nat), u (28 : Nat), u (29 : Nat), u (30 : Nat), u (31 : Nat), u (32 : Nat), u (33 : Nat), u (34 : Nat), u (35 : Nat), u (36 : Nat), I (↑j : Int), I (↑j : Int), AV.bool false, u (40 : Nat), u (41 : Nat), u (42 : Nat), u (43 : Nat), u (44 : Nat), u (45 : Nat), u (46 : Nat), u (47 : Nat), u (48 : Nat), u (49 : Nat), u (50 : Nat), u (51 : Nat), u (52 : Nat), u (53 : Nat), u (54 : Nat)] (H.mk [] [] [])) (by kernel_rfl) ?_⟩
    refine ⟨by first | with_reducible assumption | omega | assumption, ?_⟩
    refine ⟨by first | with_reducible assumption | omega | assumption, ?_⟩
    exact .inr (.inl ⟨(), ⟨ha⟩, rfl, rfl, rfl⟩)
abbrev o21 (t : List Int) : List Out :=
  [.mk Unit .ret [2] (fun _ => ¬ Q5 t) (fun _ => [.bool false]) (fun _ => .nil) (fun _ => []), .mk Unit (.exit 0) [] (fun _ => Q5 t) (fun _ => []) (fun _ => .nil) (fun _ => [])]
theorem simp21 : allSimpleM none1 (loopAt Tryd.f21 0) = true := by kernel_rfl
theorem lp21 (t : List Int) (r : Room) (h1 : sz t) (h2 : rok t r) :
    LoopS (En6 []) (loopAt Tryd.f21 0) 55 [0, 3, 15, 16, 17] [ls t r, I t.length, ls t r, I t.length, I 0] .nil (o21 t) := by
  have hR : Rests (En6 []) none1 := rests mixed .nil
  have h8 := h1.2
  have ev0 := pw_shl (n := t.length) (by omega)
  refine loop_s hR simp21 none (by intro _ h; cases h) (fun j vs h => h = .nil ∧ vs = [ls t r, I t.length, ls t r, I t.length, I j] ∧ ∀ k, k < j → q5 t k) t.length ⟨rfl, rfl, fun i hi => absurd hi (by omega)⟩ (by intro _ h; cases h) ?_
  rintro j vs h hj ⟨rfl, rfl, ha⟩
  by_cases hz : (j : Int) < t.length
  · have hz2 : j < t.length := by omega
    have hr := rok_idx h2 hz2
    have ev1 := wj1 (j := j) (by omega)
    by_cases c0 : ia t j < 0
    · have hn : ¬ Q5 t := fun h => by have := (h.h j hz2).1.1.1; omega
      refine ⟨[Ans.o (Orc.b true), Ans.o (Orc.val 20 (AV.cptr (ints (List.drop j t))) H.nil), Ans.o (Orc.val 21 (I (t.getD j i0)) H.nil), Ans.o (Orc.b true)], fun u => of_eq ((↑j : Int) < (↑t.length : Int) ∧ aIndexAddr Tryd.prog 22 (ls t r) (I (↑j : Int)) = some (AV.cptr (ints (List.drop j t))) ∧ aLoad Tryd.prog 3 (ints (List.drop j t)) = some (I (t.getD j i0)) ∧ t.getD j i0 < (0 : Int) ∧ (55 : Nat) = (55 : Nat) ∧ hits [Out.mk Unit AX.ret [2] (fun x => ¬Q5 t) (fun x => [AV.bool false]) (fun x => H.nil) fun x => [], Out.mk Unit (AX.exit 0) [] (fun x => Q5 t) (fun x => []) (fun x => H.nil) fun x => []] AX.ret [ls t r, u (1 : Nat), AV.bool false, I (↑t.length : Int), I (↑j : Int), I (t.getD j i0), u (6 : Nat), u (7 : Nat), u (8 : Nat), u (9 : Nat), u (10 : Nat), u (11 : Nat), u (12 : Nat), u (13 : Nat), u (14 : Nat), ls t r, I (↑t.length : Int), I (↑j : Int), AV.bool true, I (↑j : Int), AV.cptr (ints (List.drop j t)), I (t.getD j i0), I (t.getD j i0), AV.bool true, AV.bool true, AV.tup [], AV.tup [], AV.tup [], AV.tup [], AV.bool true, AV.bool true, AV.tup [], AV.tup [], AV.tup [], AV.tup [], AV.tup [], AV.bool true, u (37 : Nat), u (38 : Nat), u (39 : Nat), u (40 : Nat), u (41 : Nat), u (42 : Nat), u (43 : Nat), u (44 : Nat), u (45 : Nat), u (46 : Nat), u (47 : Nat), u (48 : Nat), u (49 : Nat), u (50 : Nat), u (51 : Nat), u (52 : Nat), u (53 : Nat), u (54 : Nat)] (H.mk [] [] [])) (by kernel_rfl) ?_⟩
      refine ⟨by first | with_reducible assumption | omega | assumption, ?_⟩
      refine ⟨ix_ints (by kernel_rfl) hz2 hr, ?_⟩
      refine ⟨by first | exact ld_ints (by kernel_rfl) (by kernel_rfl) (by omega) | exact ldm_ints (by kernel_rfl) (by kernel_rfl) (by first | omega | (simp; omega)), ?_⟩
      refine ⟨by first | with_reducible assumption | omega | assumption, ?_⟩
      refine ⟨by first | with_reducible assumption | omega | assumption, ?_⟩
      exact .inl ⟨(), hn, rfl, rfl, rfl⟩
    have c0 : 0 ≤ ia t j := by omega
    by_cases c1 : ia t j < ((2 ^ t.length : Nat) : Int)
    · have s1 := q1_s8 h8 ⟨c0, c1⟩
      cases b1 : bi (ia t j) j
      · obtain ⟨ev2, ev3⟩ := i_bit0 s1 (show j ≤ 64 by omega) b1
        have lp := lp21b t r h1 h2 j hz2 ⟨c0, c1⟩ ha
        have hk : Q4 t j → ∀ k, k < j + 1 → q5 t k := fun h => all_succ (q := q5 t) ha ⟨⟨⟨c0, c1⟩, b1⟩, h.h⟩
        have hn : ¬ Q4 t j → ¬ Q5 t := fun h h' => h ⟨(h'.h j hz2).2⟩
        refine ⟨[Ans.o (Orc.b true), Ans.o (Orc.val 20 (AV.cptr (ints (List.drop j t))) H.nil), Ans.o (Orc.val 21 (I (t.getD j i0)) H.nil), Ans.o (Orc.b false), Ans.o (Orc.val 27 (I (↑((2 : Nat) ^ t.length) : Int)) H.nil), Ans.o (Orc.b false), Ans.o (Orc.val 33 (I (↑((ia t j).toNat >>> j) : Int)) H.nil), Ans.o (Orc.val 34 (I 0) H.nil), Ans.o Orc.dflt, Ans.loop [0, 3, 4, 5, 15, 16, 17, 37, 38] [Out.mk Unit AX.ret [2] (fun x => ¬Q4 t j) (fun x => [AV.bool false]) (fun x => H.nil) fun y => [], Out.mk Unit (AX.exit 2) [0, 3, 15, 16, 17] (fun x => Q4 t j) (fun x => [ls t r, I (↑t.length : Int), ls t r, I (↑t.length : Int), I (↑j : Int)]) (fun x => H.nil) fun y => [Ans.o (Orc.val 54 (I (↑(j + (1 : Nat)) : Int)) H.nil)]]], fun u => of_eq ((↑j : Int) < (↑t.length : Int) ∧ aIndexAddr Tryd.prog 22 (ls t r) (I (↑j : Int)) = some (AV.cptr (ints (List.drop j t))) ∧ aLoad Tryd.prog 3 (ints (List.drop j t)) = some (I (t.getD j i0)) ∧ (0 : Int) ≤ t.getD j i0 ∧ aBin Tryd.prog BinOp.shl (3 : Nat) (I 1) (I (↑t.length : Int)) = some (I (↑((2 : Nat) ^ t.length) : Int)) ∧ t.getD j i0 < (↑((2 : Nat) ^ t.length) : Int) ∧ aBin Tryd.prog BinOp.shr (3 : Nat) (I (t.getD j i0)) (I (↑j : Int)) = some (I (↑((ia t j).toNat >>> j) : Int)) ∧ aBin Tryd.prog BinOp.and (3 : Nat) (I (↑((ia t j).toNat >>> j) : Int)) (I 1) = some (I 0) ∧ LoopS (Env.mk Tryd.prog (Sof (P := Tryd.prog) []) (Pof (P := Tryd.prog) []) H.nil.base (300 : Nat)) (loopAt Tryd.f21 1) 55 [0, 3, 4, 5, 15, 16, 17, 37, 38] [ls t r, I (↑t.length : Int), I (↑j : Int), I (t.getD j i0), ls t r, I (↑t.length : Int), I (↑j : Int), I (↑j : Int), I 0] (H.mk [] [] []) [Out.mk Unit AX.ret [2] (fun x => ¬Q4 t j) (fun x => [AV.bool false]) (fun x => H.nil) fun y => [], Out.mk Unit (AX.exit 2) [0, 3, 15, 16, 17] (fun x => Q4 t j) (fun x => [ls t r, I (↑t.length : Int), ls t r, I (↑t.length : Int), I (↑j : Int)]) (fun x => H.nil) fun y => [Ans.o (Orc.val 54 (I (↑(j + (1 : Nat)) : Int)) H.nil)]] ∧ (∀ (y : Unit), ¬Q4 t j → ∀ (u : Nat → AV), (55 : Nat) = (55 : Nat) ∧ hits [Out.mk Unit AX.ret [2] (fun x => ¬Q5 t) (fun x => [AV.bool false]) (fun x => H.nil) fun x => [], Out.mk Unit (AX.exit 0) [] (fun x => Q5 t) (fun x => []) (fun x => H.nil) fun x => []] AX.ret [u (0 : Nat), u (1 : Nat), AV.bool false, u (3 : Nat), u (4 : Nat), u (5 : Nat), u (6 : Nat), u (7 : Nat), u (8 : Nat), u (9 : Nat), u (10 : Nat), u (11 : Nat), u (12 : Nat), u (13 : Nat), u (14 : Nat), u (15 : Nat), u (16 : Nat), u (17 : Nat), u (18 : Nat), u (19 : Nat), u (20 : Nat), u (21 : Nat), u (22 : Nat), u (23 : Nat), u (24 : Nat), u (25 : Nat), u (26 : Nat), u (27 : Nat), u (28 : Nat), u (29 : Nat), u (30 : Nat), u (31 : Nat), u (32 : Nat), u (33 : Nat), u (34 : Nat), u (35 : Nat), u (36 : Nat), u (37 : Nat), u (38 : Nat), u (39 : Nat), u (40 : Nat), u (41 : Nat), u (42 : Nat), u (43 : Nat), u (44 : Nat), u (45 : Nat), u (46 : Nat), u (47 : Nat), u (48 : Nat), u (49 : Nat), u (50 : Nat), u (51 : Nat), u (52 : Nat), u (53 : Nat), u (54 : Nat)] (H.mk [] [] [])) ∧ (∀ (y : Unit), Q4 t j → ∀ (u : Nat → AV), aBin Tryd.prog BinOp.add (3 : Nat) (I (↑j : Int)) (I 1) = some (I (↑(j + (1 : Nat)) : Int)) ∧ (55 : Nat) = (55 : Nat) ∧ j < t.length ∧ Keep (H.mk [] [] [] = H.mk [] [] [] ∧ [ls t r, I (↑t.length : Int), ls t r, I (↑t.length : Int), I (↑(j + (1 : Nat)) : Int)] = [ls t r, I (↑t.length : Int), ls t r, I (↑t.length : Int), I (↑(j + (1 : Nat)) : Int)] ∧ ∀ (k : Nat), k < j + (1 : Nat) → q5 t k)) ∧ True) (by kernel_rfl) ?_⟩
        refine ⟨by first | with_reducible assumption | omega | assumption, ?_⟩
        refine ⟨ix_ints (by kernel_rfl) hz2 hr, ?_⟩
        refine ⟨by first | exact ld_ints (by kernel_rfl) (by kernel_rfl) (by omega) | exact ldm_ints (by kernel_rfl) (by kernel_rfl) (by first | omega | (simp; omega)), ?_⟩
        refine ⟨by first | with_reducible assumption | omega | assumption, ?_⟩
        refine ⟨by first | exact told_shl (by first | exact Int.natCast_nonneg _ | omega) (by with_reducible assumption) | exact told_shl (by omega) rfl, ?_⟩
        refine ⟨by first | with_reducible assumption | omega | assumption, ?_⟩
        refine ⟨by first | exact told_shr (by first | exact Int.natCast_nonneg _ | omega) (by with_reducible assumption) | exact told_shr (by omega) rfl, ?_⟩
        refine ⟨told_and (by with_reducible assumption), ?_⟩
        refine ⟨lp, ?_⟩
        refine And.intro ?_ ?_
        · skip
          intro y
          intro w1
          intro u
          refine ⟨by first | with_reducible assumption | omega | assumption, ?_⟩
          exact .inl ⟨(), hn (by assumption), rfl, rfl, rfl⟩
        · skip
          refine And.intro ?_ ?_
          · skip
            intro y
            intro w1
            intro u
            refine ⟨told_add (by with_reducible assumption), ?_⟩
            refine ⟨by first | with_reducible assumption | omega | assumption, ?_⟩
            refine ⟨by first | with_reducible assumption | omega | assumption, ?_⟩
            exact ⟨rfl, rfl, hk (by assumption)⟩
          · skip
            trivial
      · obtain ⟨ev2, ev3⟩ := i_bit1 s1 (show j ≤ 64 by omega) b1
        have hn : ¬ Q5 t := fun h => by have := (h.h j hz2).1.2; simp only [q2] at this; rw [b1] at this; cases this
        refine ⟨[Ans.o (Orc.b true), Ans.o (Orc.val 20 (AV.cptr (ints (List.drop j t))) H.nil), Ans.o (Orc.val 21 (I (t.getD j i0)) H.nil), Ans.o (Orc.b false), Ans.o (Orc.val 27 (I (↑((2 : Nat) ^ t.length) : Int)) H.nil), Ans.o (Orc.b false), Ans.o (Orc.val 33 (I (↑((ia t j).toNat >>> j) : Int)) H.nil), Ans.o (Orc.val 34 (I 1) H.nil), Ans.o Orc.dflt], fun u => of_eq ((↑j : Int) < (↑t.length : Int) ∧ aIndexAddr Tryd.prog 22 (ls t r) (I (↑j : Int)) = some (AV.cptr (ints (List.drop j t))) ∧ aLoad Tryd.prog 3 (ints (List.drop j t)) = some (I (t.getD j i0)) ∧ (0 : Int) ≤ t.getD j i0 ∧ aBin Tryd.prog BinOp.shl (3 : Nat) (I 1) (I (↑t.length : Int)) = some (I (↑((2 : Nat) ^ t.length) : Int)) ∧ t.getD j i0 < (↑((2 : Nat) ^ t.length) : Int) ∧ aBin Tryd.prog BinOp.shr (3 : Nat) (I (t.getD j i0)) (I (↑j : Int)) = some (I (↑((ia t j).toNat >>> j) : Int)) ∧ aBin Tryd.prog BinOp.and (3 : Nat) (I (↑((ia t j).toNat >>> j) : Int)) (I 1) = some (I 1) ∧ (55 : Nat) = (55 : Nat) ∧ hits [Out.mk Unit AX.ret [2] (fun x => ¬Q5 t) (fun x => [AV.bool false]) (fun x => H.nil) fun x => [], Out.mk Unit (AX.exit 0) [] (fun x => Q5 t) (fun x => []) (fun x => H.nil) fun x => []] AX.ret [ls t r, u (1 : Nat), AV.bool false, I (↑t.length : Int), I (↑j : Int), I (t.getD j i0), u (6 : Nat), u (7 : Nat), u (8 : Nat), u (9 : Nat), u (10 : Nat), u (11 : Nat), u (12 : Nat), u (13 : Nat), u (14 : Nat), ls t r, I (↑t.length : Int), I (↑j : Int), AV.bool true, I (↑j : Int), AV.cptr (ints (List.drop j t)), I (t.getD j i0), I (t.getD j i0), AV.bool false, AV.bool false, I (t.getD j i0), I (↑t.length : Int), I (↑((2 : Nat) ^ t.length) : Int), AV.bool false, AV.bool false, AV.bool false, I (t.getD j i0), I (↑j : Int), I (↑((ia t j).toNat >>> j) : Int), I 1, AV.bool true, AV.bool true, u (37 : Nat), u (38 : Nat), u (39 : Nat), u (40 : Nat), u (41 : Nat), u (42 : Nat), u (43 : Nat), u (44 : Nat), u (45 : Nat), u (46 : Nat), u (47 : Nat), u (48 : Nat), u (49 : Nat), u (50 : Nat), u (51 : Nat), u (52 : Nat), u (53 : Nat), u (54 : Nat)] (H.mk [] [] [])) (by kernel_rfl) ?_⟩
        refine ⟨by first | with_reducible assumption | omega | assumption, ?_⟩
        refine ⟨ix_ints (by kernel_rfl) hz2 hr, ?_⟩
        refine ⟨by first | exact ld_ints (by kernel_rfl) (by kernel_rfl) (by omega) | exact ldm_ints (by kernel_rfl) (by kernel_rfl) (by first | omega | (simp; omega)), ?_⟩
        refine ⟨by first | with_reducible assumption | omega | assumption, ?_⟩
        refine ⟨by first | exact told_shl (by first | exact Int.natCast_nonneg _ | omega) (by with_reducible assumption) | exact told_shl (by omega) rfl, ?_⟩
        refine ⟨by first | with_reducible assumption | omega | assumption, ?_⟩
        refine ⟨by first | exact told_shr (by first | exact Int.natCast_nonneg _ | omega) (by with_reducible assumption) | exact told_shr (by omega) rfl, ?_⟩
        refine ⟨told_and (by with_reducible assumption), ?_⟩
        refine ⟨by first | with_reducible assumption | omega | assumption, ?_⟩
        exact .inl ⟨(), hn, rfl, rfl, rfl⟩
    · have c1 : ((2 ^ t.length : Nat) : Int) ≤ ia t j := by omega
      have hn : ¬ Q5 t := fun h => by have := (h.h j hz2).1.1.2; omega
      refine ⟨[Ans.o (Orc.b true), Ans.o (Orc.val 20 (AV.cptr (ints (List.drop j t))) H.nil), Ans.o (Orc.val 21 (I (t.getD j i0)) H.nil), Ans.o (Orc.b false), Ans.o (Orc.val 27 (I (↑((2 : Nat) ^ t.length) : Int)) H.nil), Ans.o (Orc.b true)], fun u => of_eq ((↑j : Int) < (↑t.length : Int) ∧ aIndexAddr Tryd.prog 22 (ls t r) (I (↑j : Int)) = some (AV.cptr (ints (List.drop j t))) ∧ aLoad Tryd.prog 3 (ints (List.drop j t)) = some (I (t.getD j i0)) ∧ (0 : Int) ≤ t.getD j i0 ∧ aBin Tryd.prog BinOp.shl (3 : Nat) (I 1) (I (↑t.length : Int)) = some (I (↑((2 : Nat) ^ t.length) : Int)) ∧ (↑((2 : Nat) ^ t.length) : Int) ≤ t.getD j i0 ∧ (55 : Nat) = (55 : Nat) ∧ hits [Out.mk Unit AX.ret [2] (fun x => ¬Q5 t) (fun x => [AV.bool false]) (fun x => H.nil) fun x => [], Out.mk Unit (AX.exit 0) [] (fun x => Q5 t) (fun x => []) (fun x => H.nil) fun x => []] AX.ret [ls t r, u (1 : Nat), AV.bool false, I (↑t.length : Int), I (↑j : Int), I (t.getD j i0), u (6 : Nat), u (7 : Nat), u (8 : Nat), u (9 : Nat), u (10 : Nat), u (11 : Nat), u (12 : Nat), u (13 : Nat), u (14 : Nat), ls t r, I (↑t.length : Int), I (↑j : Int), AV.bool true, I (↑j : Int), AV.cptr (ints (List.drop j t)), I (t.getD j i0), I (t.getD j i0), AV.bool false, AV.bool false, I (t.getD j i0), I (↑t.length : Int), I (↑((2 : Nat) ^ t.length) : Int), AV.bool true, AV.bool true, AV.bool true, AV.tup [], AV.tup [], AV.tup [], AV.tup [], AV.tup [], AV.bool true, u (37 : Nat), u (38 : Nat), u (39 : Nat), u (40 : Nat), u (41 : Nat), u (42 : Nat), u (43 : Nat), u (44 : Nat), u (45 : Nat), u (46 : Nat), u (47 : Nat), u (48 : Nat), u (49 : Nat), u (50 : Nat), u (51 : Nat), u (52 : Nat), u (53 : Nat), u (54 : Nat)] (H.mk [] [] [])) (by kernel_rfl) ?_⟩
      refine ⟨by first | with_reducible assumption | omega | assumption, ?_⟩
      refine ⟨ix_ints (by kernel_rfl) hz2 hr, ?_⟩
      refine ⟨by first | exact ld_ints (by kernel_rfl) (by kernel_rfl) (by omega) | exact ldm_ints (by kernel_rfl) (by kernel_rfl) (by first | omega | (simp; omega)), ?_⟩
      refine ⟨by first | with_reducible assumption | omega | assumption, ?_⟩
      refine ⟨by first | exact told_shl (by first | exact Int.natCast_nonneg _ | omega) (by with_reducible assumption) | exact told_shl (by omega) rfl, ?_⟩
      refine ⟨by first | with_reducible assumption | omega | assumption, ?_⟩
      refine ⟨by first | with_reducible assumption | omega | assumption, ?_⟩
      exact .inl ⟨(), hn, rfl, rfl, rfl⟩
  · have hz : (t.length : Int) ≤ j := by omega
    have hj' : j = t.length := by omega
    subst hj'
    refine ⟨[Ans.o (Orc.b false)], fun u => of_eq ((↑t.length : Int) ≤ (↑t.length : Int) ∧ (55 : Nat) = (55 : Nat) ∧ hits [Out.mk Unit AX.ret [2] (fun x => ¬Q5 t) (fun x => [AV.bool false]) (fun x => H.nil) fun x => [], Out.mk Unit (AX.exit 0) [] (fun x => Q5 t) (fun x => []) (fun x => H.nil) fun x => []] (AX.exit 0) [ls t r, u (1 : Nat), u (2 : Nat), I (↑t.length : Int), u (4 : Nat), u (5 : Nat), u (6 : Nat), u (7 : Nat), u (8 : Nat), u (9 : Nat), u (10 : Nat), u (11 : Nat), u (12 : Nat), u (13 : Nat), u (14 : Nat), ls t r, I (↑t.length : Int), I (↑t.length : Int), AV.bool false, u (19 : Nat), u (20 : Nat), u (21 : Nat), u (22 : Nat), u (23 : Nat), u (24 : Nat), u (25 : Nat), u (26 : Nat), u (27 : Nat), u (28 : Nat), u (29 : Nat), u (30 : Nat), u (31 : Nat), u (32 : Nat), u (33 : Nat), u (34 : Nat), u (35 : Nat), u (36 : Nat), u (37 : Nat), u (38 : Nat), u (39 : Nat), u (40 : Nat), u (41 : Nat), u (42 : Nat), u (43 : Nat), u (44 : Nat), u (45 : Nat), u (46 : Nat), u (47 : Nat), u (48 : Nat), u (49 : Nat), u (50 : Nat), u (51 : Nat), u (52 : Nat), u (53 : Nat), u (54 : Nat)] (H.mk [] [] [])) (by kernel_rfl) ?_⟩
    refine ⟨by first | with_reducible assumption | omega | assumption, ?_⟩
    refine ⟨by first | with_reducible assumption | omega | assumption, ?_⟩
    exact .inr (.inl ⟨(), ⟨ha⟩, rfl, rfl, rfl⟩)
theorem ok21 : FokM Tryd.prog none1 21 Tryd.f21 := ⟨mixed, by kernel_rfl, by kernel_rfl, by kernel_rfl, by kernel_rfl⟩
theorem r21 (t : List Int) (r : Room) (hp : lim t.length ∧ rok t r) : Body ⟨Tryd.prog, Sof (P := Tryd.prog) [], Pof (P := Tryd.prog) [], H.nil.base, 300⟩ none1 Tryd.f21 [ls t r] .nil (.bool (tnB t), .nil) := by
  obtain ⟨h1, h2⟩ := hp
  by_cases c1 : (t.length : Int) < 1
  · have hn : ¬ Tn t := fun h => by have := h.s.1; omega
    rw [tn_f hn]
    refine body_s ([Ans.o (Orc.b true)]) ((↑t.length : Int) < (1 : Int) ∧ (AV.bool false, H.mk [] [] []) = (AV.bool false, H.mk [] [] [])) (by kernel_rfl) ?_
    refine ⟨by first | with_reducible assumption | omega | assumption, ?_⟩
    first | with_reducible rfl | (refine bleaf_t ?_; omega) | (refine bleaf_f ?_; omega) | (refine ileaf ?_; omega) | rfl | (exfalso; omega)
  by_cases c2 : (8 : Int) < t.length
  · have c1 : 1 ≤ (t.length : Int) := by omega
    have hn : ¬ Tn t := fun h => by have := h.s.2; omega
    rw [tn_f hn]
    refine body_s ([Ans.o (Orc.b false), Ans.o (Orc.b true)]) ((1 : Int) ≤ (↑t.length : Int) ∧ (8 : Int) < (↑t.length : Int) ∧ (AV.bool false, H.mk [] [] []) = (AV.bool false, H.mk [] [] [])) (by kernel_rfl) ?_
    refine ⟨by first | with_reducible assumption | omega | assumption, ?_⟩
    refine ⟨by first | with_reducible assumption | omega | assumption, ?_⟩
    first | with_reducible rfl | (refine bleaf_t ?_; omega) | (refine bleaf_f ?_; omega) | (refine ileaf ?_; omega) | rfl | (exfalso; omega)
  have c1 : 1 ≤ (t.length : Int) := by omega
  have c2 : (t.length : Int) ≤ 8 := by omega
  have hs : sz t := ⟨by omega, by omega⟩
  have lp := lp21 t r hs h2
  have e1 : Q5 t → tnB t = true := fun h => tn_t ⟨hs, h.h⟩
  have e2 : ¬ Q5 t → tnB t = false := fun h => tn_f (fun k => h ⟨k.q⟩)
  refine body_s ([Ans.o (Orc.b false), Ans.o (Orc.b false), Ans.loop [0, 3, 15, 16, 17] [Out.mk Unit AX.ret [2] (fun x => ¬Q5 t) (fun x => [AV.bool false]) (fun x => H.nil) fun y => [], Out.mk Unit (AX.exit 0) [] (fun x => Q5 t) (fun x => []) (fun x => H.nil) fun y => []]]) ((1 : Int) ≤ (↑t.length : Int) ∧ (↑t.length : Int) ≤ (8 : Int) ∧ LoopS (Env.mk Tryd.prog (Sof (P := Tryd.prog) []) (Pof (P := Tryd.prog) []) H.nil.base (300 : Nat)) (loopAt Tryd.f21 0) 55 [0, 3, 15, 16, 17] [ls t r, I (↑t.length : Int), ls t r, I (↑t.length : Int), I 0] (H.mk [] [] []) [Out.mk Unit AX.ret [2] (fun x => ¬Q5 t) (fun x => [AV.bool false]) (fun x => H.nil) fun y => [], Out.mk Unit (AX.exit 0) [] (fun x => Q5 t) (fun x => []) (fun x => H.nil) fun y => []] ∧ (∀ (y : Unit), ¬Q5 t → ∀ (u : Nat → AV), (AV.bool false, H.mk [] [] []) = (AV.bool (tnB t), H.mk [] [] [])) ∧ (∀ (y : Unit), Q5 t → ∀ (u : Nat → AV), (AV.bool true, H.mk [] [] []) = (AV.bool (tnB t), H.mk [] [] [])) ∧ True) (by kernel_rfl) ?_
  refine ⟨by first | with_reducible assumption | omega | assumption, ?_⟩
  refine ⟨by first | with_reducible assumption | omega | assumption, ?_⟩
  refine ⟨lp, ?_⟩
  refine And.intro ?_ ?_
  · skip
    intro y
    intro w1
    intro u
    first | rw [e1 (by assumption)] | rw [e2 (by assumption)]
  · skip
    refine And.intro ?_ ?_
    · skip
      intro y
      intro w1
      intro u
      first | rw [e1 (by assumption)] | rw [e2 (by assumption)]
    · skip
      trivial
noncomputable def c21 : PCtr Tryd.prog := sctr ok21 (X := List Int × Room) (fun x => [ls x.1 x.2]) (fun x => lim x.1.length ∧ rok x.1 x.2) (fun x => .bool (tnB x.1)) (by intro x y e _ _; simp [Int.natCast_inj] at e; simp [e]) (fun x => by simp [AV.bnds, AV.bnd, AV.wk, rm_wk_bnd]) (fun x => by first | rfl | (simp [AV.bnd, rm_wk_bnd]; done)  | (simp [AV.bnd, AV.bnds, rm_wk_bnd]; done) | simp [AV.bnd, AV.bnds, Room.bnd, rm_wk_bnd]) (fun x hx => ⟨_, _, _, .nil, r21 (x.1) (x.2).wk (by first | exact hx | (simp only [rok_wk]; exact hx) | (simp only [rok_wk, lst_wk]; exact hx) | (simp only [rok_wk, lst_wk, lsn_wk]; exact hx))⟩)
end Go.Proofs.Rnk

