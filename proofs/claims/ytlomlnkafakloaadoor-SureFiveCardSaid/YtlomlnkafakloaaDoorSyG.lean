/- Layer 5: the law of the cycle of five, to its end. -/
import Derived.Test.YtlomlnkafakloaaDoorSyF
import Derived.KernelRfl
set_option linter.unusedSimpArgs false
set_option linter.unusedVariables false
set_option linter.unnecessarySimpa false
set_option maxHeartbeats 4000000
set_option maxRecDepth 100000
namespace Go.Proofs.Sur
open Go Go.VM

theorem ev_shr {M : Nat} {x : Int} (h0 : 0 ≤ x) (h4 : x ≤ 4) : (M : Int).fdiv (2 ^ min x.toNat IntKind.i64.bits) = ((M >>> x.toNat : Nat) : Int) := by
  have := i_shr (a := M) (n := x.toNat) (by omega)
  rw [Int.toNat_natCast] at this; exact this
theorem ev_shl {x : Int} (h0 : 0 ≤ x) (h4 : x ≤ 4) : IntKind.i64.wrap (1 * 2 ^ min x.toNat IntKind.i64.bits) = ((2 ^ x.toNat : Nat) : Int) := by
  have := pw_shl (n := x.toNat) (by omega)
  rw [Int.toNat_natCast] at this; exact this
theorem p2_lt {x : Int} (h0 : 0 ≤ x) (h4 : x ≤ 4) : 2 ^ x.toNat < 32 := by
  have : 2 ^ x.toNat < 2 ^ 5 := Nat.pow_lt_pow_right (by decide) (by omega)
  exact this
theorem simp12a : allSimpleM none1 (loopAt Tryd.f12 0) = true := by kernel_rfl
abbrev v12 (o : List Int) (r : Room) (j : Nat) : List AV := [ls o r, I (mtF o j : Nat), ls o r, I o.length, I (j : Nat)]
theorem lp12r (o : List Int) (r : Room) (hr : rok o r) (hl : lim o.length) (hno : ¬ ∀ i, i < o.length → okO o i) :
    LoopS (En6 [c23.to]) (loopAt Tryd.f12 0) 152 [0, 3, 20, 21, 22] (v12 o r 0) .nil [.mk Unit .ret [2] (fun _ => True) (fun _ => [.bool true]) (fun _ => .nil) (fun _ => [])] := by
  have hR : Rests (En6 [c23.to]) none1 := rests mixed (.pure _ .nil)
  refine loop_s hR simp12a none (by intro _ h; cases h) (fun j vs H => H = .nil ∧ vs = v12 o r j ∧ j ≤ o.length ∧ ∀ i, i < j → okO o i) o.length ⟨rfl, rfl, Nat.zero_le _, fun i h => absurd h (Nat.not_lt_zero _)⟩ (by intro _ h; cases h) ?_
  rintro j vs H hj ⟨rfl, rfl, hle, hok⟩
  by_cases hz : (j : Int) < o.length
  · have hz' : j < o.length := by omega
    have hr' := rok_idx hr hz'
    by_cases x0 : at_ o j < 0
    · refine ⟨[Ans.o (Orc.b true), Ans.o (Orc.val 24 (AV.cptr (ints (List.drop j o))) H.nil), Ans.o (Orc.val 25 (I (o.getD j i0)) H.nil), Ans.o (Orc.b true), Ans.o (Orc.val 39 (AV.bool true) (H.mk [] [] []))], fun u => of_eq ((↑j : Int) < (↑o.length : Int) ∧ aIndexAddr Tryd.prog (22 : Nat) (AV.sl (ints o) o.length r) (I (↑j : Int)) = some (AV.cptr (ints (List.drop j o))) ∧ aLoad Tryd.prog (3 : Nat) (ints (List.drop j o)) = some (I (o.getD j i0)) ∧ o.getD j i0 < (0 : Int) ∧ aCall (Sof [c23.to]) (AV.fn (Fn.func (23 : Nat)) [] []) [] (H.mk [] [] []) = some (AV.bool true, H.mk [] [] []) ∧ (152 : Nat) = (152 : Nat) ∧ hits [Out.mk Unit AX.ret [(2 : Nat)] (fun x => True) (fun x => [AV.bool true]) (fun x => H.nil) fun x => []] AX.ret [AV.sl (ints o) o.length r, u (1 : Nat), AV.bool true, I (↑(mtF o j) : Int), u (4 : Nat), I (o.getD j i0), u (6 : Nat), u (7 : Nat), u (8 : Nat), u (9 : Nat), u (10 : Nat), u (11 : Nat), u (12 : Nat), u (13 : Nat), u (14 : Nat), u (15 : Nat), u (16 : Nat), u (17 : Nat), u (18 : Nat), u (19 : Nat), AV.sl (ints o) o.length r, I (↑o.length : Int), I (↑j : Int), AV.bool true, AV.cptr (ints (List.drop j o)), I (o.getD j i0), I (o.getD j i0), AV.bool true, AV.bool true, AV.tup [], AV.tup [], AV.bool true, AV.bool true, AV.tup [], AV.tup [], AV.tup [], AV.tup [], AV.tup [], AV.bool true, AV.bool true, u (40 : Nat), u (41 : Nat), u (42 : Nat), u (43 : Nat), u (44 : Nat), u (45 : Nat), u (46 : Nat), u (47 : Nat), u (48 : Nat), u (49 : Nat), u (50 : Nat), u (51 : Nat), u (52 : Nat), u (53 : Nat), u (54 : Nat), u (55 : Nat), u (56 : Nat), u (57 : Nat), u (58 : Nat), u (59 : Nat), u (60 : Nat), u (61 : Nat), u (62 : Nat), u (63 : Nat), u (64 : Nat), u (65 : Nat), u (66 : Nat), u (67 : Nat), u (68 : Nat), u (69 : Nat), u (70 : Nat), u (71 : Nat), u (72 : Nat), u (73 : Nat), u (74 : Nat), u (75 : Nat), u (76 : Nat), u (77 : Nat), u (78 : Nat), u (79 : Nat), u (80 : Nat), u (81 : Nat), u (82 : Nat), u (83 : Nat), u (84 : Nat), u (85 : Nat), u (86 : Nat), u (87 : Nat), u (88 : Nat), u (89 : Nat), u (90 : Nat), u (91 : Nat), u (92 : Nat), u (93 : Nat), u (94 : Nat), u (95 : Nat), u (96 : Nat), u (97 : Nat), u (98 : Nat), u (99 : Nat), u (100 : Nat), u (101 : Nat), u (102 : Nat), u (103 : Nat), u (104 : Nat), u (105 : Nat), u (106 : Nat), u (107 : Nat), u (108 : Nat), u (109 : Nat), u (110 : Nat), u (111 : Nat), u (112 : Nat), u (113 : Nat), u (114 : Nat), u (115 : Nat), u (116 : Nat), u (117 : Nat), u (118 : Nat), u (119 : Nat), u (120 : Nat), u (121 : Nat), u (122 : Nat), u (123 : Nat), u (124 : Nat), u (125 : Nat), u (126 : Nat), u (127 : Nat), u (128 : Nat), u (129 : Nat), u (130 : Nat), u (131 : Nat), u (132 : Nat), u (133 : Nat), u (134 : Nat), u (135 : Nat), u (136 : Nat), u (137 : Nat), u (138 : Nat), u (139 : Nat), u (140 : Nat), u (141 : Nat), u (142 : Nat), u (143 : Nat), u (144 : Nat), u (145 : Nat), u (146 : Nat), u (147 : Nat), u (148 : Nat), u (149 : Nat), u (150 : Nat), u (151 : Nat)] (H.mk [] [] [])) (by kernel_rfl) ?_⟩
      refine ⟨by first | with_reducible assumption | omega | assumption, ?_⟩
      refine ⟨by first | exact ix_ints (by kernel_rfl) (by omega) (by assumption) | exact ix_ints (by kernel_rfl) (by omega) (rok_idx (by assumption) (by omega)), ?_⟩
      refine ⟨by first | exact ld_ints (by kernel_rfl) (by kernel_rfl) (by omega) | exact ldm_ints (by kernel_rfl) (by kernel_rfl) (by first | omega | (simp; omega)), ?_⟩
      refine ⟨by first | with_reducible assumption | omega | assumption, ?_⟩
      refine ⟨acall_hit (c := c23.to) () _ rfl trivial, ?_⟩
      refine ⟨by first | with_reducible assumption | omega | assumption, ?_⟩
      exact .inl ⟨(), trivial, rfl, rfl, rfl⟩
    · have x0 : 0 ≤ at_ o j := by omega
      by_cases x4 : 4 < at_ o j
      · refine ⟨[Ans.o (Orc.b true), Ans.o (Orc.val 24 (AV.cptr (ints (List.drop j o))) H.nil), Ans.o (Orc.val 25 (I (o.getD j i0)) H.nil), Ans.o (Orc.b false), Ans.o (Orc.b true), Ans.o (Orc.val 39 (AV.bool true) (H.mk [] [] []))], fun u => of_eq ((↑j : Int) < (↑o.length : Int) ∧ aIndexAddr Tryd.prog (22 : Nat) (AV.sl (ints o) o.length r) (I (↑j : Int)) = some (AV.cptr (ints (List.drop j o))) ∧ aLoad Tryd.prog (3 : Nat) (ints (List.drop j o)) = some (I (o.getD j i0)) ∧ (0 : Int) ≤ o.getD j i0 ∧ (4 : Int) < o.getD j i0 ∧ aCall (Sof [c23.to]) (AV.fn (Fn.func (23 : Nat)) [] []) [] (H.mk [] [] []) = some (AV.bool true, H.mk [] [] []) ∧ (152 : Nat) = (152 : Nat) ∧ hits [Out.mk Unit AX.ret [(2 : Nat)] (fun x => True) (fun x => [AV.bool true]) (fun x => H.nil) fun x => []] AX.ret [AV.sl (ints o) o.length r, u (1 : Nat), AV.bool true, I (↑(mtF o j) : Int), u (4 : Nat), I (o.getD j i0), u (6 : Nat), u (7 : Nat), u (8 : Nat), u (9 : Nat), u (10 : Nat), u (11 : Nat), u (12 : Nat), u (13 : Nat), u (14 : Nat), u (15 : Nat), u (16 : Nat), u (17 : Nat), u (18 : Nat), u (19 : Nat), AV.sl (ints o) o.length r, I (↑o.length : Int), I (↑j : Int), AV.bool true, AV.cptr (ints (List.drop j o)), I (o.getD j i0), I (o.getD j i0), AV.bool false, AV.bool false, I (o.getD j i0), AV.bool true, AV.bool true, AV.bool true, AV.tup [], AV.tup [], AV.tup [], AV.tup [], AV.tup [], AV.bool true, AV.bool true, u (40 : Nat), u (41 : Nat), u (42 : Nat), u (43 : Nat), u (44 : Nat), u (45 : Nat), u (46 : Nat), u (47 : Nat), u (48 : Nat), u (49 : Nat), u (50 : Nat), u (51 : Nat), u (52 : Nat), u (53 : Nat), u (54 : Nat), u (55 : Nat), u (56 : Nat), u (57 : Nat), u (58 : Nat), u (59 : Nat), u (60 : Nat), u (61 : Nat), u (62 : Nat), u (63 : Nat), u (64 : Nat), u (65 : Nat), u (66 : Nat), u (67 : Nat), u (68 : Nat), u (69 : Nat), u (70 : Nat), u (71 : Nat), u (72 : Nat), u (73 : Nat), u (74 : Nat), u (75 : Nat), u (76 : Nat), u (77 : Nat), u (78 : Nat), u (79 : Nat), u (80 : Nat), u (81 : Nat), u (82 : Nat), u (83 : Nat), u (84 : Nat), u (85 : Nat), u (86 : Nat), u (87 : Nat), u (88 : Nat), u (89 : Nat), u (90 : Nat), u (91 : Nat), u (92 : Nat), u (93 : Nat), u (94 : Nat), u (95 : Nat), u (96 : Nat), u (97 : Nat), u (98 : Nat), u (99 : Nat), u (100 : Nat), u (101 : Nat), u (102 : Nat), u (103 : Nat), u (104 : Nat), u (105 : Nat), u (106 : Nat), u (107 : Nat), u (108 : Nat), u (109 : Nat), u (110 : Nat), u (111 : Nat), u (112 : Nat), u (113 : Nat), u (114 : Nat), u (115 : Nat), u (116 : Nat), u (117 : Nat), u (118 : Nat), u (119 : Nat), u (120 : Nat), u (121 : Nat), u (122 : Nat), u (123 : Nat), u (124 : Nat), u (125 : Nat), u (126 : Nat), u (127 : Nat), u (128 : Nat), u (129 : Nat), u (130 : Nat), u (131 : Nat), u (132 : Nat), u (133 : Nat), u (134 : Nat), u (135 : Nat), u (136 : Nat), u (137 : Nat), u (138 : Nat), u (139 : Nat), u (140 : Nat), u (141 : Nat), u (142 : Nat), u (143 : Nat), u (144 : Nat), u (145 : Nat), u (146 : Nat), u (147 : Nat), u (148 : Nat), u (149 : Nat), u (150 : Nat), u (151 : Nat)] (H.mk [] [] [])) (by kernel_rfl) ?_⟩
        refine ⟨by first | with_reducible assumption | omega | assumption, ?_⟩
        refine ⟨by first | exact ix_ints (by kernel_rfl) (by omega) (by assumption) | exact ix_ints (by kernel_rfl) (by omega) (rok_idx (by assumption) (by omega)), ?_⟩
        refine ⟨by first | exact ld_ints (by kernel_rfl) (by kernel_rfl) (by omega) | exact ldm_ints (by kernel_rfl) (by kernel_rfl) (by first | omega | (simp; omega)), ?_⟩
        refine ⟨by first | with_reducible assumption | omega | assumption, ?_⟩
        refine ⟨by first | with_reducible assumption | omega | assumption, ?_⟩
        refine ⟨acall_hit (c := c23.to) () _ rfl trivial, ?_⟩
        refine ⟨by first | with_reducible assumption | omega | assumption, ?_⟩
        exact .inl ⟨(), trivial, rfl, rfl, rfl⟩
      · have x4 : at_ o j ≤ 4 := by omega
        have hm := mt_lt j hok
        have ev0 := ev_shr (M := mtF o j) x0 x4
        have ev1 := i_bit (a := mtF o j) (n := (at_ o j).toNat) (by omega)
        cases hb : (mtF o j).testBit (at_ o j).toNat
        · rw [hb] at ev1
          have ev1 : _ = (0 : Int) := ev1
          have hp := p2_lt x0 x4
          have ev2 := ev_shl x0 x4
          have ev3 := i_or (a := mtF o j) (b := 2 ^ (at_ o j).toNat) (by omega) (by omega)
          have ev4 : IntKind.i64.wrap ((j : Int) + 1) = ((j + 1 : Nat) : Int) := by
            have : (j : Int) + 1 = ((j + 1 : Nat) : Int) := by omega
            rw [this]; exact i_wrap (by simp only [lim] at hl; omega)
          have hk : ∀ i, i < j + 1 → okO o i := fun i hi => by
            by_cases e : i = j
            · subst e; exact ⟨x0, x4, hb⟩
            · exact hok i (by omega)
          refine ⟨[Ans.o (Orc.b true), Ans.o (Orc.val 24 (AV.cptr (ints (List.drop j o))) H.nil), Ans.o (Orc.val 25 (I (o.getD j i0)) H.nil), Ans.o (Orc.b false), Ans.o (Orc.b false), Ans.o (Orc.val 35 (I (↑(mtF o j >>> (at_ o j).toNat) : Int)) H.nil), Ans.o (Orc.val 36 (I (↑false.toNat : Int)) H.nil), Ans.o Orc.dflt, Ans.o (Orc.val 42 (I (↑((2 : Nat) ^ (at_ o j).toNat) : Int)) H.nil), Ans.o (Orc.val 43 (I (↑(mtF o j ||| (2 : Nat) ^ (at_ o j).toNat) : Int)) H.nil), Ans.o (Orc.val 44 (I (↑(j + (1 : Nat)) : Int)) H.nil)], fun u => of_eq ((↑j : Int) < (↑o.length : Int) ∧ aIndexAddr Tryd.prog (22 : Nat) (AV.sl (ints o) o.length r) (I (↑j : Int)) = some (AV.cptr (ints (List.drop j o))) ∧ aLoad Tryd.prog (3 : Nat) (ints (List.drop j o)) = some (I (o.getD j i0)) ∧ (0 : Int) ≤ o.getD j i0 ∧ o.getD j i0 ≤ (4 : Int) ∧ aBin Tryd.prog BinOp.shr (3 : Nat) (I (↑(mtF o j) : Int)) (I (o.getD j i0)) = some (I (↑(mtF o j >>> (at_ o j).toNat) : Int)) ∧ aBin Tryd.prog BinOp.and (3 : Nat) (I (↑(mtF o j >>> (at_ o j).toNat) : Int)) (I 1) = some (I 0) ∧ aBin Tryd.prog BinOp.shl (3 : Nat) (I 1) (I (o.getD j i0)) = some (I (↑((2 : Nat) ^ (at_ o j).toNat) : Int)) ∧ aBin Tryd.prog BinOp.or (3 : Nat) (I (↑(mtF o j) : Int)) (I (↑((2 : Nat) ^ (at_ o j).toNat) : Int)) = some (I (↑(mtF o j ||| (2 : Nat) ^ (at_ o j).toNat) : Int)) ∧ aBin Tryd.prog BinOp.add (3 : Nat) (I (↑j : Int)) (I 1) = some (I (↑(j + (1 : Nat)) : Int)) ∧ (152 : Nat) = (152 : Nat) ∧ j < o.length ∧ Keep (H.mk [] [] [] = H.mk [] [] [] ∧ [AV.sl (ints o) o.length r, I (↑(mtF o j ||| (2 : Nat) ^ (at_ o j).toNat) : Int), AV.sl (ints o) o.length r, I (↑o.length : Int), I (↑(j + (1 : Nat)) : Int)] = [AV.sl (ints o) o.length r, I (↑(mtF o (j + (1 : Nat))) : Int), AV.sl (ints o) o.length r, I (↑o.length : Int), I (↑(j + (1 : Nat)) : Int)] ∧ j + (1 : Nat) ≤ o.length ∧ ∀ (i : Nat), i < j + (1 : Nat) → okO o i)) (by kernel_rfl) ?_⟩
          refine ⟨by first | with_reducible assumption | omega | assumption, ?_⟩
          refine ⟨by first | exact ix_ints (by kernel_rfl) (by omega) (by assumption) | exact ix_ints (by kernel_rfl) (by omega) (rok_idx (by assumption) (by omega)), ?_⟩
          refine ⟨by first | exact ld_ints (by kernel_rfl) (by kernel_rfl) (by omega) | exact ldm_ints (by kernel_rfl) (by kernel_rfl) (by first | omega | (simp; omega)), ?_⟩
          refine ⟨by first | with_reducible assumption | omega | assumption, ?_⟩
          refine ⟨by first | with_reducible assumption | omega | assumption, ?_⟩
          refine ⟨by first | exact told_shr (by first | exact Int.natCast_nonneg _ | omega) (by with_reducible assumption) | exact told_shr (by omega) rfl, ?_⟩
          refine ⟨told_and (by with_reducible assumption), ?_⟩
          refine ⟨by first | exact told_shl (by first | exact Int.natCast_nonneg _ | omega) (by with_reducible assumption) | exact told_shl (by omega) rfl, ?_⟩
          refine ⟨told_or (by with_reducible assumption), ?_⟩
          refine ⟨told_add (by with_reducible assumption), ?_⟩
          refine ⟨by first | with_reducible assumption | omega | assumption, ?_⟩
          refine ⟨by first | with_reducible assumption | omega | assumption, ?_⟩
          exact ⟨rfl, rfl, hz', hk⟩
        · rw [hb] at ev1
          have ev1 : _ = (1 : Int) := ev1
          refine ⟨[Ans.o (Orc.b true), Ans.o (Orc.val 24 (AV.cptr (ints (List.drop j o))) H.nil), Ans.o (Orc.val 25 (I (o.getD j i0)) H.nil), Ans.o (Orc.b false), Ans.o (Orc.b false), Ans.o (Orc.val 35 (I (↑(mtF o j >>> (at_ o j).toNat) : Int)) H.nil), Ans.o (Orc.val 36 (I (↑true.toNat : Int)) H.nil), Ans.o Orc.dflt, Ans.o (Orc.val 39 (AV.bool true) (H.mk [] [] []))], fun u => of_eq ((↑j : Int) < (↑o.length : Int) ∧ aIndexAddr Tryd.prog (22 : Nat) (AV.sl (ints o) o.length r) (I (↑j : Int)) = some (AV.cptr (ints (List.drop j o))) ∧ aLoad Tryd.prog (3 : Nat) (ints (List.drop j o)) = some (I (o.getD j i0)) ∧ (0 : Int) ≤ o.getD j i0 ∧ o.getD j i0 ≤ (4 : Int) ∧ aBin Tryd.prog BinOp.shr (3 : Nat) (I (↑(mtF o j) : Int)) (I (o.getD j i0)) = some (I (↑(mtF o j >>> (at_ o j).toNat) : Int)) ∧ aBin Tryd.prog BinOp.and (3 : Nat) (I (↑(mtF o j >>> (at_ o j).toNat) : Int)) (I 1) = some (I 1) ∧ aCall (Sof [c23.to]) (AV.fn (Fn.func (23 : Nat)) [] []) [] (H.mk [] [] []) = some (AV.bool true, H.mk [] [] []) ∧ (152 : Nat) = (152 : Nat) ∧ hits [Out.mk Unit AX.ret [(2 : Nat)] (fun x => True) (fun x => [AV.bool true]) (fun x => H.nil) fun x => []] AX.ret [AV.sl (ints o) o.length r, u (1 : Nat), AV.bool true, I (↑(mtF o j) : Int), u (4 : Nat), I (o.getD j i0), u (6 : Nat), u (7 : Nat), u (8 : Nat), u (9 : Nat), u (10 : Nat), u (11 : Nat), u (12 : Nat), u (13 : Nat), u (14 : Nat), u (15 : Nat), u (16 : Nat), u (17 : Nat), u (18 : Nat), u (19 : Nat), AV.sl (ints o) o.length r, I (↑o.length : Int), I (↑j : Int), AV.bool true, AV.cptr (ints (List.drop j o)), I (o.getD j i0), I (o.getD j i0), AV.bool false, AV.bool false, I (o.getD j i0), AV.bool false, AV.bool false, AV.bool false, I (↑(mtF o j) : Int), I (o.getD j i0), I (↑(mtF o j >>> (at_ o j).toNat) : Int), I 1, AV.bool true, AV.bool true, AV.bool true, u (40 : Nat), u (41 : Nat), u (42 : Nat), u (43 : Nat), u (44 : Nat), u (45 : Nat), u (46 : Nat), u (47 : Nat), u (48 : Nat), u (49 : Nat), u (50 : Nat), u (51 : Nat), u (52 : Nat), u (53 : Nat), u (54 : Nat), u (55 : Nat), u (56 : Nat), u (57 : Nat), u (58 : Nat), u (59 : Nat), u (60 : Nat), u (61 : Nat), u (62 : Nat), u (63 : Nat), u (64 : Nat), u (65 : Nat), u (66 : Nat), u (67 : Nat), u (68 : Nat), u (69 : Nat), u (70 : Nat), u (71 : Nat), u (72 : Nat), u (73 : Nat), u (74 : Nat), u (75 : Nat), u (76 : Nat), u (77 : Nat), u (78 : Nat), u (79 : Nat), u (80 : Nat), u (81 : Nat), u (82 : Nat), u (83 : Nat), u (84 : Nat), u (85 : Nat), u (86 : Nat), u (87 : Nat), u (88 : Nat), u (89 : Nat), u (90 : Nat), u (91 : Nat), u (92 : Nat), u (93 : Nat), u (94 : Nat), u (95 : Nat), u (96 : Nat), u (97 : Nat), u (98 : Nat), u (99 : Nat), u (100 : Nat), u (101 : Nat), u (102 : Nat), u (103 : Nat), u (104 : Nat), u (105 : Nat), u (106 : Nat), u (107 : Nat), u (108 : Nat), u (109 : Nat), u (110 : Nat), u (111 : Nat), u (112 : Nat), u (113 : Nat), u (114 : Nat), u (115 : Nat), u (116 : Nat), u (117 : Nat), u (118 : Nat), u (119 : Nat), u (120 : Nat), u (121 : Nat), u (122 : Nat), u (123 : Nat), u (124 : Nat), u (125 : Nat), u (126 : Nat), u (127 : Nat), u (128 : Nat), u (129 : Nat), u (130 : Nat), u (131 : Nat), u (132 : Nat), u (133 : Nat), u (134 : Nat), u (135 : Nat), u (136 : Nat), u (137 : Nat), u (138 : Nat), u (139 : Nat), u (140 : Nat), u (141 : Nat), u (142 : Nat), u (143 : Nat), u (144 : Nat), u (145 : Nat), u (146 : Nat), u (147 : Nat), u (148 : Nat), u (149 : Nat), u (150 : Nat), u (151 : Nat)] (H.mk [] [] [])) (by kernel_rfl) ?_⟩
          refine ⟨by first | with_reducible assumption | omega | assumption, ?_⟩
          refine ⟨by first | exact ix_ints (by kernel_rfl) (by omega) (by assumption) | exact ix_ints (by kernel_rfl) (by omega) (rok_idx (by assumption) (by omega)), ?_⟩
          refine ⟨by first | exact ld_ints (by kernel_rfl) (by kernel_rfl) (by omega) | exact ldm_ints (by kernel_rfl) (by kernel_rfl) (by first | omega | (simp; omega)), ?_⟩
          refine ⟨by first | with_reducible assumption | omega | assumption, ?_⟩
          refine ⟨by first | with_reducible assumption | omega | assumption, ?_⟩
          refine ⟨by first | exact told_shr (by first | exact Int.natCast_nonneg _ | omega) (by with_reducible assumption) | exact told_shr (by omega) rfl, ?_⟩
          refine ⟨told_and (by with_reducible assumption), ?_⟩
          refine ⟨acall_hit (c := c23.to) () _ rfl trivial, ?_⟩
          refine ⟨by first | with_reducible assumption | omega | assumption, ?_⟩
          exact .inl ⟨(), trivial, rfl, rfl, rfl⟩
  · exact (hno fun i hi => hok i (by omega)).elim
theorem lp12e {cs : List (Ctr Tryd.prog)} {M : FuncId → Bool} (hR : Rests (En6 cs) M) (hM : allSimpleM M (loopAt Tryd.f12 0) = true) (o : List Int) (r : Room) (hr : rok o r) (hl : lim o.length) (hall : ∀ i, i < o.length → okO o i) :
    LoopS (En6 cs) (loopAt Tryd.f12 0) 152 [0, 3, 20, 21, 22] (v12 o r 0) .nil [.mk Unit (.exit 0) [0, 3] (fun _ => True) (fun _ => [ls o r, I (mtF o o.length : Nat)]) (fun _ => .nil) (fun _ => [])] := by
  refine loop_s hR hM none (by intro _ h; cases h) (fun j vs H => H = .nil ∧ vs = v12 o r j ∧ j ≤ o.length) o.length ⟨rfl, rfl, Nat.zero_le _⟩ (by intro _ h; cases h) ?_
  rintro j vs H hj ⟨rfl, rfl, hle⟩
  by_cases hz : (j : Int) < o.length
  · have hz' : j < o.length := by omega
    have hr' := rok_idx hr hz'
    obtain ⟨x0, x4, hb⟩ := hall j hz'
    have hm := mt_lt j (fun i hi => hall i (by omega))
    have ev0 := ev_shr (M := mtF o j) x0 x4
    have ev1 := i_bit (a := mtF o j) (n := (at_ o j).toNat) (by omega)
    rw [hb] at ev1
    have ev1 : _ = (0 : Int) := ev1
    have hp := p2_lt x0 x4
    have ev2 := ev_shl x0 x4
    have ev3 := i_or (a := mtF o j) (b := 2 ^ (at_ o j).toNat) (by omega) (by omega)
    have ev4 : IntKind.i64.wrap ((j : Int) + 1) = ((j + 1 : Nat) : Int) := by
      have : (j : Int) + 1 = ((j + 1 : Nat) : Int) := by omega
      rw [this]; exact i_wrap (by simp only [lim] at hl; omega)
    refine ⟨[Ans.o (Orc.b true), Ans.o (Orc.val 24 (AV.cptr (ints (List.drop j o))) H.nil), Ans.o (Orc.val 25 (I (o.getD j i0)) H.nil), Ans.o (Orc.b false), Ans.o (Orc.b false), Ans.o (Orc.val 35 (I (↑(mtF o j >>> (at_ o j).toNat) : Int)) H.nil), Ans.o (Orc.val 36 (I (↑false.toNat : Int)) H.nil), Ans.o Orc.dflt, Ans.o (Orc.val 42 (I (↑((2 : Nat) ^ (at_ o j).toNat) : Int)) H.nil), Ans.o (Orc.val 43 (I (↑(mtF o j ||| (2 : Nat) ^ (at_ o j).toNat) : Int)) H.nil), Ans.o (Orc.val 44 (I (↑(j + (1 : Nat)) : Int)) H.nil)], fun u => of_eq ((↑j : Int) < (↑o.length : Int) ∧ aIndexAddr Tryd.prog (22 : Nat) (AV.sl (ints o) o.length r) (I (↑j : Int)) = some (AV.cptr (ints (List.drop j o))) ∧ aLoad Tryd.prog (3 : Nat) (ints (List.drop j o)) = some (I (o.getD j i0)) ∧ (0 : Int) ≤ o.getD j i0 ∧ o.getD j i0 ≤ (4 : Int) ∧ aBin Tryd.prog BinOp.shr (3 : Nat) (I (↑(mtF o j) : Int)) (I (o.getD j i0)) = some (I (↑(mtF o j >>> (at_ o j).toNat) : Int)) ∧ aBin Tryd.prog BinOp.and (3 : Nat) (I (↑(mtF o j >>> (at_ o j).toNat) : Int)) (I 1) = some (I 0) ∧ aBin Tryd.prog BinOp.shl (3 : Nat) (I 1) (I (o.getD j i0)) = some (I (↑((2 : Nat) ^ (at_ o j).toNat) : Int)) ∧ aBin Tryd.prog BinOp.or (3 : Nat) (I (↑(mtF o j) : Int)) (I (↑((2 : Nat) ^ (at_ o j).toNat) : Int)) = some (I (↑(mtF o j ||| (2 : Nat) ^ (at_ o j).toNat) : Int)) ∧ aBin Tryd.prog BinOp.add (3 : Nat) (I (↑j : Int)) (I 1) = some (I (↑(j + (1 : Nat)) : Int)) ∧ (152 : Nat) = (152 : Nat) ∧ j < o.length ∧ Keep (H.mk [] [] [] = H.mk [] [] [] ∧ [AV.sl (ints o) o.length r, I (↑(mtF o j ||| (2 : Nat) ^ (at_ o j).toNat) : Int), AV.sl (ints o) o.length r, I (↑o.length : Int), I (↑(j + (1 : Nat)) : Int)] = [AV.sl (ints o) o.length r, I (↑(mtF o (j + (1 : Nat))) : Int), AV.sl (ints o) o.length r, I (↑o.length : Int), I (↑(j + (1 : Nat)) : Int)] ∧ j + (1 : Nat) ≤ o.length)) (by kernel_rfl) ?_⟩
    refine ⟨by first | with_reducible assumption | omega | assumption, ?_⟩
    refine ⟨by first | exact ix_ints (by kernel_rfl) (by omega) (by assumption) | exact ix_ints (by kernel_rfl) (by omega) (rok_idx (by assumption) (by omega)), ?_⟩
    refine ⟨by first | exact ld_ints (by kernel_rfl) (by kernel_rfl) (by omega) | exact ldm_ints (by kernel_rfl) (by kernel_rfl) (by first | omega | (simp; omega)), ?_⟩
    refine ⟨by first | with_reducible assumption | omega | assumption, ?_⟩
    refine ⟨by first | with_reducible assumption | omega | assumption, ?_⟩
    refine ⟨by first | exact told_shr (by first | exact Int.natCast_nonneg _ | omega) (by with_reducible assumption) | exact told_shr (by omega) rfl, ?_⟩
    refine ⟨told_and (by with_reducible assumption), ?_⟩
    refine ⟨by first | exact told_shl (by first | exact Int.natCast_nonneg _ | omega) (by with_reducible assumption) | exact told_shl (by omega) rfl, ?_⟩
    refine ⟨told_or (by with_reducible assumption), ?_⟩
    refine ⟨told_add (by with_reducible assumption), ?_⟩
    refine ⟨by first | with_reducible assumption | omega | assumption, ?_⟩
    refine ⟨by first | with_reducible assumption | omega | assumption, ?_⟩
    exact ⟨rfl, rfl, hz'⟩
  · have hz : (o.length : Int) ≤ j := by omega
    have e : j = o.length := by omega
    subst e
    refine ⟨[Ans.o (Orc.b false)], fun u => of_eq ((↑o.length : Int) ≤ (↑o.length : Int) ∧ (152 : Nat) = (152 : Nat) ∧ hits [Out.mk Unit (AX.exit (0 : Nat)) [(0 : Nat), (3 : Nat)] (fun x => True) (fun x => [ls o r, I (↑(mtF o o.length) : Int)]) (fun x => H.nil) fun x => []] (AX.exit (0 : Nat)) [AV.sl (ints o) o.length r, u (1 : Nat), u (2 : Nat), I (↑(mtF o o.length) : Int), u (4 : Nat), u (5 : Nat), u (6 : Nat), u (7 : Nat), u (8 : Nat), u (9 : Nat), u (10 : Nat), u (11 : Nat), u (12 : Nat), u (13 : Nat), u (14 : Nat), u (15 : Nat), u (16 : Nat), u (17 : Nat), u (18 : Nat), u (19 : Nat), AV.sl (ints o) o.length r, I (↑o.length : Int), I (↑o.length : Int), AV.bool false, u (24 : Nat), u (25 : Nat), u (26 : Nat), u (27 : Nat), u (28 : Nat), u (29 : Nat), u (30 : Nat), u (31 : Nat), u (32 : Nat), u (33 : Nat), u (34 : Nat), u (35 : Nat), u (36 : Nat), u (37 : Nat), u (38 : Nat), u (39 : Nat), u (40 : Nat), u (41 : Nat), u (42 : Nat), u (43 : Nat), u (44 : Nat), u (45 : Nat), u (46 : Nat), u (47 : Nat), u (48 : Nat), u (49 : Nat), u (50 : Nat), u (51 : Nat), u (52 : Nat), u (53 : Nat), u (54 : Nat), u (55 : Nat), u (56 : Nat), u (57 : Nat), u (58 : Nat), u (59 : Nat), u (60 : Nat), u (61 : Nat), u (62 : Nat), u (63 : Nat), u (64 : Nat), u (65 : Nat), u (66 : Nat), u (67 : Nat), u (68 : Nat), u (69 : Nat), u (70 : Nat), u (71 : Nat), u (72 : Nat), u (73 : Nat), u (74 : Nat), u (75 : Nat), u (76 : Nat), u (77 : Nat), u (78 : Nat), u (79 : Nat), u (80 : Nat), u (81 : Nat), u (82 : Nat), u (83 : Nat), u (84 : Nat), u (85 : Nat), u (86 : Nat), u (87 : Nat), u (88 : Nat), u (89 : Nat), u (90 : Nat), u (91 : Nat), u (92 : Nat), u (93 : Nat), u (94 : Nat), u (95 : Nat), u (96 : Nat), u (97 : Nat), u (98 : Nat), u (99 : Nat), u (100 : Nat), u (101 : Nat), u (102 : Nat), u (103 : Nat), u (104 : Nat), u (105 : Nat), u (106 : Nat), u (107 : Nat), u (108 : Nat), u (109 : Nat), u (110 : Nat), u (111 : Nat), u (112 : Nat), u (113 : Nat), u (114 : Nat), u (115 : Nat), u (116 : Nat), u (117 : Nat), u (118 : Nat), u (119 : Nat), u (120 : Nat), u (121 : Nat), u (122 : Nat), u (123 : Nat), u (124 : Nat), u (125 : Nat), u (126 : Nat), u (127 : Nat), u (128 : Nat), u (129 : Nat), u (130 : Nat), u (131 : Nat), u (132 : Nat), u (133 : Nat), u (134 : Nat), u (135 : Nat), u (136 : Nat), u (137 : Nat), u (138 : Nat), u (139 : Nat), u (140 : Nat), u (141 : Nat), u (142 : Nat), u (143 : Nat), u (144 : Nat), u (145 : Nat), u (146 : Nat), u (147 : Nat), u (148 : Nat), u (149 : Nat), u (150 : Nat), u (151 : Nat)] (H.mk [] [] [])) (by kernel_rfl) ?_⟩
    refine ⟨by first | with_reducible assumption | omega | assumption, ?_⟩
    refine ⟨by first | with_reducible assumption | omega | assumption, ?_⟩
    exact .inl ⟨(), trivial, rfl, rfl, rfl⟩
/-! the graph -/
theorem cy_ok {o : List Int} (hr : ∀ i, i < 5 → 0 ≤ at_ o i ∧ at_ o i ≤ 4) : ∀ i, i ≤ 5 → (cyF o i).length = 5 ∧ ∀ k, k < 5 → 0 ≤ at_ (cyF o i) k ∧ at_ (cyF o i) k < 32
  | 0, _ => ⟨rfl, fun k hk => by
    have : k = 0 ∨ k = 1 ∨ k = 2 ∨ k = 3 ∨ k = 4 := by omega
    have h0 : cyF o 0 = [0, 0, 0, 0, 0] := rfl
    rw [h0]
    rcases this with rfl | rfl | rfl | rfl | rfl <;> decide⟩
  | i + 1, hi => by
    obtain ⟨h1, h2⟩ := cy_ok hr i (by omega)
    have hx := hr i (by omega)
    have hy := hr ((i + 1) % 5) (Nat.mod_lt _ (by decide))
    have p1 := p2_lt hx.1 hx.2
    have p2 := p2_lt hy.1 hy.2
    have b1 := h2 (at_ o i).toNat (by omega)
    have or32 : ∀ a b : Nat, a < 32 → b < 32 → a ||| b < 32 := fun a b ha hb => Nat.or_lt_two_pow (n := 5) ha hb
    have set_ok : ∀ (g : List Int) (x : Nat) (v : Nat), g.length = 5 → (∀ k, k < 5 → 0 ≤ at_ g k ∧ at_ g k < 32) → v < 32 → x < 5 → (g.set x (v : Int)).length = 5 ∧ ∀ k, k < 5 → 0 ≤ at_ (g.set x (v : Int)) k ∧ at_ (g.set x (v : Int)) k < 32 := fun g x v hg hk hv hx => by
      refine ⟨by simp [hg], fun k hk5 => ?_⟩
      have := gt_set (B := g) (l := x) (i := k) (x := (v : Int)) (by omega)
      have e : at_ (g.set x (v : Int)) k = if k = x then (v : Int) else at_ g k := this
      rw [e]
      split
      · omega
      · exact hk k hk5
    have s1 := set_ok (cyF o i) (at_ o i).toNat ((at_ (cyF o i) (at_ o i).toNat).toNat ||| 2 ^ (at_ o ((i + 1) % 5)).toNat) h1 h2 (or32 _ _ (by omega) p2) (by omega)
    have b2 := s1.2 (at_ o ((i + 1) % 5)).toNat (by omega)
    exact set_ok _ (at_ o ((i + 1) % 5)).toNat _ s1.1 s1.2 (or32 _ _ (by omega) p1) (by omega)
theorem ixmI {P : Program} {t : TypeId} (hu : (elemT P t).bind (sizeT P) = some 1) {b n c z : Nat} {k : IntKind} {x : Int} (h0 : 0 ≤ x) (h : x.toNat < n) : aIndexAddr P t (.msl b 0 n c z) (.int k x) = some (.ptr b x.toNat) := by
  have := ixm0 (P := P) (t := t) hu (b := b) (n := n) (c := c) (z := z) (k := k) (i := x.toNat) h
  rw [show ((x.toNat : Nat) : Int) = x from by omega] at this
  exact this
theorem ev_or {a : Int} {b : Nat} (h0 : 0 ≤ a) (h1 : a < 32) (hb : b < 32) : IntKind.i64.wrap ((BitVec.ofInt IntKind.i64.bits a ||| BitVec.ofInt IntKind.i64.bits ((b : Nat) : Int)).toNat : Int) = ((a.toNat ||| b : Nat) : Int) := by
  have := i_or (a := a.toNat) (b := b) (by omega) (by omega)
  rw [show ((a.toNat : Nat) : Int) = a from by omega] at this
  exact this
theorem lp12g {cs : List (Ctr Tryd.prog)} {M : FuncId → Bool} (hR : Rests (En6 cs) M) (hM : allSimpleM M (loopAt Tryd.f12 1) = true) (o : List Int) (r : Room) (hr : rok o r) (h5 : o.length = 5) (ho : ∀ i, i < 5 → 0 ≤ at_ o i ∧ at_ o i ≤ 4) :
    LoopS (En6 cs) (loopAt Tryd.f12 1) 152 [0, 6, 49, 50, 51] [ls o r, .msl 0 0 5 5 1, ls o r, I o.length, I 0] ⟨[ints (cyF o 0)], [], []⟩ [.mk Unit (.exit 2) [6] (fun _ => True) (fun _ => [.msl 0 0 5 5 1]) (fun _ => ⟨[ints (cyF o 5)], [], []⟩) (fun _ => [])] := by
  refine loop_s hR hM none (by intro _ h; cases h) (fun j vs H => H = ⟨[ints (cyF o j)], [], []⟩ ∧ vs = [ls o r, .msl 0 0 5 5 1, ls o r, I o.length, I (j : Nat)] ∧ j ≤ 5) 5 ⟨rfl, rfl, Nat.zero_le _⟩ (by intro _ h; cases h) ?_
  rintro j vs H hj ⟨rfl, rfl, hle⟩
  by_cases hz : (j : Int) < o.length
  · have hz' : j < o.length := by omega
    have hr' := rok_idx hr hz'
    obtain ⟨hl, hc⟩ := cy_ok ho j (by omega)
    have hs : cyF o (j + 1) = cyS o (cyF o j) j := rfl
    have hy5 : (j + 1) % 5 < 5 := Nat.mod_lt _ (by decide)
    have hy5' : (j + 1) % 5 < o.length := by omega
    obtain ⟨x0, x4⟩ := ho j (by omega)
    obtain ⟨y0, y4⟩ := ho ((j + 1) % 5) hy5
    have p1 := p2_lt x0 x4
    have p2 := p2_lt y0 y4
    simp only [cyS] at hs
    generalize cyF o j = G at *
    have b1 := hc (at_ o j).toNat (by omega)
    have ev0 := w_suc (i := j) (by omega)
    have ev1 : ((j + 1 : Nat) : Int).tmod 5 = (((j + 1) % 5 : Nat) : Int) := by
      have := Int.ofNat_tmod (j + 1) 5
      exact this.symm
    have ev2 := ev_shl x0 x4
    have ev3 := ev_shl y0 y4
    have ev4 := ev_or (b := 2 ^ (at_ o ((j + 1) % 5)).toNat) b1.1 b1.2 p2
    have i1 : (at_ o j).toNat < G.length := by omega
    have i1' : (at_ o j).toNat < 5 := by omega
    have i2' : (at_ o ((j + 1) % 5)).toNat < 5 := by omega
    have hG1 : ∀ v : Nat, v < 32 → 0 ≤ at_ (G.set (at_ o j).toNat (v : Int)) (at_ o ((j + 1) % 5)).toNat ∧ at_ (G.set (at_ o j).toNat (v : Int)) (at_ o ((j + 1) % 5)).toNat < 32 := fun v hv => by
      have := gt_set (B := G) (l := (at_ o j).toNat) (i := (at_ o ((j + 1) % 5)).toNat) (x := (v : Int)) i1
      have e : at_ (G.set (at_ o j).toNat (v : Int)) (at_ o ((j + 1) % 5)).toNat = if (at_ o ((j + 1) % 5)).toNat = (at_ o j).toNat then (v : Int) else at_ G (at_ o ((j + 1) % 5)).toNat := this
      rw [e]
      split
      · omega
      · exact hc _ (by omega)
    have or32 : (at_ G (at_ o j).toNat).toNat ||| 2 ^ (at_ o ((j + 1) % 5)).toNat < 32 := Nat.or_lt_two_pow (n := 5) (by omega) p2
    have b2 := hG1 _ or32
    have ev5 := ev_or (b := 2 ^ (at_ o j).toNat) b2.1 b2.2 p1
    have i2 : (at_ o ((j + 1) % 5)).toNat < (G.set (at_ o j).toNat (((at_ G (at_ o j).toNat).toNat ||| 2 ^ (at_ o ((j + 1) % 5)).toNat : Nat) : Int)).length := by rw [List.length_set]; omega
    refine ⟨[Ans.o (Orc.b true), Ans.o (Orc.val 54 (AV.cptr (ints (List.drop j o))) H.nil), Ans.o (Orc.val 55 (I (o.getD j i0)) H.nil), Ans.o (Orc.val 58 (I (↑(j + (1 : Nat)) : Int)) H.nil), Ans.o (Orc.val 59 (I (↑((j + (1 : Nat)) % (5 : Nat)) : Int)) H.nil), Ans.o (Orc.val 60 (AV.cptr (ints (List.drop ((j + (1 : Nat)) % (5 : Nat)) o))) H.nil), Ans.o (Orc.val 61 (I (o.getD ((j + (1 : Nat)) % (5 : Nat)) i0)) H.nil), Ans.o (Orc.val 64 (AV.ptr 0 (o.getD j i0).toNat) H.nil), Ans.o (Orc.val 65 (I (G.getD (o.getD j i0).toNat i0)) H.nil), Ans.o (Orc.val 67 (I (↑((2 : Nat) ^ (at_ o ((j + (1 : Nat)) % (5 : Nat))).toNat) : Int)) H.nil), Ans.o (Orc.val 68 (I (↑((at_ G (at_ o j).toNat).toNat ||| (2 : Nat) ^ (at_ o ((j + (1 : Nat)) % (5 : Nat))).toNat) : Int)) H.nil), Ans.o (Orc.val 69 (AV.ptr 0 (o.getD j i0).toNat) H.nil), Ans.o (Orc.val 9999 (AV.tup []) (H.mk [ints (G.set (o.getD j i0).toNat (↑((at_ G (at_ o j).toNat).toNat ||| (2 : Nat) ^ (at_ o ((j + (1 : Nat)) % (5 : Nat))).toNat) : Int))] [] [])), Ans.o (Orc.val 72 (AV.ptr 0 (o.getD ((j + (1 : Nat)) % (5 : Nat)) i0).toNat) H.nil), Ans.o (Orc.val 73 (I ((G.set (o.getD j i0).toNat (↑((at_ G (at_ o j).toNat).toNat ||| (2 : Nat) ^ (at_ o ((j + (1 : Nat)) % (5 : Nat))).toNat) : Int)).getD (o.getD ((j + (1 : Nat)) % (5 : Nat)) i0).toNat i0)) H.nil), Ans.o (Orc.val 75 (I (↑((2 : Nat) ^ (at_ o j).toNat) : Int)) H.nil), Ans.o (Orc.val 76 (I (↑((at_ (G.set (at_ o j).toNat (↑((at_ G (at_ o j).toNat).toNat ||| (2 : Nat) ^ (at_ o ((j + (1 : Nat)) % (5 : Nat))).toNat) : Int)) (at_ o ((j + (1 : Nat)) % (5 : Nat))).toNat).toNat ||| (2 : Nat) ^ (at_ o j).toNat) : Int)) H.nil), Ans.o (Orc.val 77 (AV.ptr 0 (o.getD ((j + (1 : Nat)) % (5 : Nat)) i0).toNat) H.nil), Ans.o (Orc.val 9999 (AV.tup []) (H.mk [ints ((G.set (o.getD j i0).toNat (↑((at_ G (at_ o j).toNat).toNat ||| (2 : Nat) ^ (at_ o ((j + (1 : Nat)) % (5 : Nat))).toNat) : Int)).set (o.getD ((j + (1 : Nat)) % (5 : Nat)) i0).toNat (↑((at_ (G.set (at_ o j).toNat (↑((at_ G (at_ o j).toNat).toNat ||| (2 : Nat) ^ (at_ o ((j + (1 : Nat)) % (5 : Nat))).toNat) : Int)) (at_ o ((j + (1 : Nat)) % (5 : Nat))).toNat).toNat ||| (2 : Nat) ^ (at_ o j).toNat) : Int))] [] [])), Ans.o (Orc.val 78 (I (↑(j + (1 : Nat)) : Int)) H.nil)], fun u => of_eq ((↑j : Int) < (↑o.length : Int) ∧ aIndexAddr Tryd.prog (22 : Nat) (AV.sl (ints o) o.length r) (I (↑j : Int)) = some (AV.cptr (ints (List.drop j o))) ∧ aLoad Tryd.prog (3 : Nat) (ints (List.drop j o)) = some (I (o.getD j i0)) ∧ aBin Tryd.prog BinOp.add (3 : Nat) (I (↑j : Int)) (I 1) = some (I (↑(j + (1 : Nat)) : Int)) ∧ aBin Tryd.prog BinOp.rem (3 : Nat) (I (↑(j + (1 : Nat)) : Int)) (I 5) = some (I (↑((j + (1 : Nat)) % (5 : Nat)) : Int)) ∧ aIndexAddr Tryd.prog (22 : Nat) (AV.sl (ints o) o.length r) (I (↑((j + (1 : Nat)) % (5 : Nat)) : Int)) = some (AV.cptr (ints (List.drop ((j + (1 : Nat)) % (5 : Nat)) o))) ∧ aLoad Tryd.prog (3 : Nat) (ints (List.drop ((j + (1 : Nat)) % (5 : Nat)) o)) = some (I (o.getD ((j + (1 : Nat)) % (5 : Nat)) i0)) ∧ aIndexAddr Tryd.prog (22 : Nat) (AV.msl 0 0 (5 : Nat) (5 : Nat) (1 : Nat)) (I (o.getD j i0)) = some (AV.ptr 0 (o.getD j i0).toNat) ∧ aLoad Tryd.prog (3 : Nat) (List.drop (o.getD j i0).toNat (ints G)) = some (I (G.getD (o.getD j i0).toNat i0)) ∧ aBin Tryd.prog BinOp.shl (3 : Nat) (I 1) (I (o.getD ((j + (1 : Nat)) % (5 : Nat)) i0)) = some (I (↑((2 : Nat) ^ (at_ o ((j + (1 : Nat)) % (5 : Nat))).toNat) : Int)) ∧ aBin Tryd.prog BinOp.or (3 : Nat) (I (G.getD (o.getD j i0).toNat i0)) (I (↑((2 : Nat) ^ (at_ o ((j + (1 : Nat)) % (5 : Nat))).toNat) : Int)) = some (I (↑((at_ G (at_ o j).toNat).toNat ||| (2 : Nat) ^ (at_ o ((j + (1 : Nat)) % (5 : Nat))).toNat) : Int)) ∧ aIndexAddr Tryd.prog (22 : Nat) (AV.msl 0 0 (5 : Nat) (5 : Nat) (1 : Nat)) (I (o.getD j i0)) = some (AV.ptr 0 (o.getD j i0).toNat) ∧ aStore Tryd.prog H.nil.base (3 : Nat) (AV.ptr 0 (o.getD j i0).toNat) (I (↑((at_ G (at_ o j).toNat).toNat ||| (2 : Nat) ^ (at_ o ((j + (1 : Nat)) % (5 : Nat))).toNat) : Int)) (H.mk [ints G] [] []) = some (H.mk [ints (G.set (o.getD j i0).toNat (↑((at_ G (at_ o j).toNat).toNat ||| (2 : Nat) ^ (at_ o ((j + (1 : Nat)) % (5 : Nat))).toNat) : Int))] [] []) ∧ aIndexAddr Tryd.prog (22 : Nat) (AV.msl 0 0 (5 : Nat) (5 : Nat) (1 : Nat)) (I (o.getD ((j + (1 : Nat)) % (5 : Nat)) i0)) = some (AV.ptr 0 (o.getD ((j + (1 : Nat)) % (5 : Nat)) i0).toNat) ∧ aLoad Tryd.prog (3 : Nat) (List.drop (o.getD ((j + (1 : Nat)) % (5 : Nat)) i0).toNat (ints (G.set (o.getD j i0).toNat (↑((at_ G (at_ o j).toNat).toNat ||| (2 : Nat) ^ (at_ o ((j + (1 : Nat)) % (5 : Nat))).toNat) : Int)))) = some (I ((G.set (o.getD j i0).toNat (↑((at_ G (at_ o j).toNat).toNat ||| (2 : Nat) ^ (at_ o ((j + (1 : Nat)) % (5 : Nat))).toNat) : Int)).getD (o.getD ((j + (1 : Nat)) % (5 : Nat)) i0).toNat i0)) ∧ aBin Tryd.prog BinOp.shl (3 : Nat) (I 1) (I (o.getD j i0)) = some (I (↑((2 : Nat) ^ (at_ o j).toNat) : Int)) ∧ aBin Tryd.prog BinOp.or (3 : Nat) (I ((G.set (o.getD j i0).toNat (↑((at_ G (at_ o j).toNat).toNat ||| (2 : Nat) ^ (at_ o ((j + (1 : Nat)) % (5 : Nat))).toNat) : Int)).getD (o.getD ((j + (1 : Nat)) % (5 : Nat)) i0).toNat i0)) (I (↑((2 : Nat) ^ (at_ o j).toNat) : Int)) = some (I (↑((at_ (G.set (at_ o j).toNat (↑((at_ G (at_ o j).toNat).toNat ||| (2 : Nat) ^ (at_ o ((j + (1 : Nat)) % (5 : Nat))).toNat) : Int)) (at_ o ((j + (1 : Nat)) % (5 : Nat))).toNat).toNat ||| (2 : Nat) ^ (at_ o j).toNat) : Int)) ∧ aIndexAddr Tryd.prog (22 : Nat) (AV.msl 0 0 (5 : Nat) (5 : Nat) (1 : Nat)) (I (o.getD ((j + (1 : Nat)) % (5 : Nat)) i0)) = some (AV.ptr 0 (o.getD ((j + (1 : Nat)) % (5 : Nat)) i0).toNat) ∧ aStore Tryd.prog H.nil.base (3 : Nat) (AV.ptr 0 (o.getD ((j + (1 : Nat)) % (5 : Nat)) i0).toNat) (I (↑((at_ (G.set (at_ o j).toNat (↑((at_ G (at_ o j).toNat).toNat ||| (2 : Nat) ^ (at_ o ((j + (1 : Nat)) % (5 : Nat))).toNat) : Int)) (at_ o ((j + (1 : Nat)) % (5 : Nat))).toNat).toNat ||| (2 : Nat) ^ (at_ o j).toNat) : Int)) (H.mk [ints (G.set (o.getD j i0).toNat (↑((at_ G (at_ o j).toNat).toNat ||| (2 : Nat) ^ (at_ o ((j + (1 : Nat)) % (5 : Nat))).toNat) : Int))] [] []) = some (H.mk [ints ((G.set (o.getD j i0).toNat (↑((at_ G (at_ o j).toNat).toNat ||| (2 : Nat) ^ (at_ o ((j + (1 : Nat)) % (5 : Nat))).toNat) : Int)).set (o.getD ((j + (1 : Nat)) % (5 : Nat)) i0).toNat (↑((at_ (G.set (at_ o j).toNat (↑((at_ G (at_ o j).toNat).toNat ||| (2 : Nat) ^ (at_ o ((j + (1 : Nat)) % (5 : Nat))).toNat) : Int)) (at_ o ((j + (1 : Nat)) % (5 : Nat))).toNat).toNat ||| (2 : Nat) ^ (at_ o j).toNat) : Int))] [] []) ∧ aBin Tryd.prog BinOp.add (3 : Nat) (I (↑j : Int)) (I 1) = some (I (↑(j + (1 : Nat)) : Int)) ∧ (152 : Nat) = (152 : Nat) ∧ j < (5 : Nat) ∧ Keep (H.mk [ints ((G.set (o.getD j i0).toNat (↑((at_ G (at_ o j).toNat).toNat ||| (2 : Nat) ^ (at_ o ((j + (1 : Nat)) % (5 : Nat))).toNat) : Int)).set (o.getD ((j + (1 : Nat)) % (5 : Nat)) i0).toNat (↑((at_ (G.set (at_ o j).toNat (↑((at_ G (at_ o j).toNat).toNat ||| (2 : Nat) ^ (at_ o ((j + (1 : Nat)) % (5 : Nat))).toNat) : Int)) (at_ o ((j + (1 : Nat)) % (5 : Nat))).toNat).toNat ||| (2 : Nat) ^ (at_ o j).toNat) : Int))] [] [] = H.mk [ints (cyF o (j + (1 : Nat)))] [] [] ∧ [AV.sl (ints o) o.length r, AV.msl 0 0 (5 : Nat) (5 : Nat) (1 : Nat), AV.sl (ints o) o.length r, I (↑o.length : Int), I (↑(j + (1 : Nat)) : Int)] = [AV.sl (ints o) o.length r, AV.msl 0 0 (5 : Nat) (5 : Nat) (1 : Nat), AV.sl (ints o) o.length r, I (↑o.length : Int), I (↑(j + (1 : Nat)) : Int)] ∧ j + (1 : Nat) ≤ (5 : Nat))) (by kernel_rfl) ?_⟩
    refine ⟨by first | with_reducible assumption | omega | assumption, ?_⟩
    refine ⟨by first | exact ix_ints (by kernel_rfl) hz' hr' | exact ix_ints (by kernel_rfl) hy5' hr', ?_⟩
    refine ⟨by first | exact ld_ints (by kernel_rfl) (by kernel_rfl) hz' | exact ld_ints (by kernel_rfl) (by kernel_rfl) hy5' | exact ldm_ints (by kernel_rfl) (by kernel_rfl) i1 | exact ldm_ints (by kernel_rfl) (by kernel_rfl) i2, ?_⟩
    refine ⟨told_add (by with_reducible assumption), ?_⟩
    refine ⟨told_rem (by first | decide | omega) (by with_reducible assumption), ?_⟩
    refine ⟨by first | exact ix_ints (by kernel_rfl) hz' hr' | exact ix_ints (by kernel_rfl) hy5' hr', ?_⟩
    refine ⟨by first | exact ld_ints (by kernel_rfl) (by kernel_rfl) hz' | exact ld_ints (by kernel_rfl) (by kernel_rfl) hy5' | exact ldm_ints (by kernel_rfl) (by kernel_rfl) i1 | exact ldm_ints (by kernel_rfl) (by kernel_rfl) i2, ?_⟩
    refine ⟨by first | exact ixmI (by kernel_rfl) x0 i1' | exact ixmI (by kernel_rfl) y0 i2', ?_⟩
    refine ⟨by first | exact ld_ints (by kernel_rfl) (by kernel_rfl) hz' | exact ld_ints (by kernel_rfl) (by kernel_rfl) hy5' | exact ldm_ints (by kernel_rfl) (by kernel_rfl) i1 | exact ldm_ints (by kernel_rfl) (by kernel_rfl) i2, ?_⟩
    refine ⟨by first | exact told_shl (by first | exact Int.natCast_nonneg _ | omega) (by with_reducible assumption) | exact told_shl (by omega) rfl, ?_⟩
    refine ⟨told_or (by with_reducible assumption), ?_⟩
    refine ⟨by first | exact ixmI (by kernel_rfl) x0 i1' | exact ixmI (by kernel_rfl) y0 i2', ?_⟩
    refine ⟨by first | exact st_ints (by kernel_rfl) rfl i1 | exact st_ints (by kernel_rfl) rfl i2, ?_⟩
    refine ⟨by first | exact ixmI (by kernel_rfl) x0 i1' | exact ixmI (by kernel_rfl) y0 i2', ?_⟩
    refine ⟨by first | exact ld_ints (by kernel_rfl) (by kernel_rfl) hz' | exact ld_ints (by kernel_rfl) (by kernel_rfl) hy5' | exact ldm_ints (by kernel_rfl) (by kernel_rfl) i1 | exact ldm_ints (by kernel_rfl) (by kernel_rfl) i2, ?_⟩
    refine ⟨by first | exact told_shl (by first | exact Int.natCast_nonneg _ | omega) (by with_reducible assumption) | exact told_shl (by omega) rfl, ?_⟩
    refine ⟨told_or (by with_reducible assumption), ?_⟩
    refine ⟨by first | exact ixmI (by kernel_rfl) x0 i1' | exact ixmI (by kernel_rfl) y0 i2', ?_⟩
    refine ⟨by first | exact st_ints (by kernel_rfl) rfl i1 | exact st_ints (by kernel_rfl) rfl i2, ?_⟩
    refine ⟨told_add (by with_reducible assumption), ?_⟩
    refine ⟨by first | with_reducible assumption | omega | assumption, ?_⟩
    refine ⟨by first | with_reducible assumption | omega | assumption, ?_⟩
    exact ⟨by rw [hs], rfl, by omega⟩
  · have hz : (o.length : Int) ≤ j := by omega
    have e : j = 5 := by omega
    refine ⟨[Ans.o (Orc.b false)], fun u => of_eq ((↑o.length : Int) ≤ (↑j : Int) ∧ (152 : Nat) = (152 : Nat) ∧ hits [Out.mk Unit (AX.exit (2 : Nat)) [(6 : Nat)] (fun x => True) (fun x => [AV.msl 0 0 (5 : Nat) (5 : Nat) (1 : Nat)]) (fun x => H.mk [ints (cyF o (5 : Nat))] [] []) fun x => []] (AX.exit (2 : Nat)) [AV.sl (ints o) o.length r, u (1 : Nat), u (2 : Nat), u (3 : Nat), u (4 : Nat), u (5 : Nat), AV.msl 0 0 (5 : Nat) (5 : Nat) (1 : Nat), u (7 : Nat), u (8 : Nat), u (9 : Nat), u (10 : Nat), u (11 : Nat), u (12 : Nat), u (13 : Nat), u (14 : Nat), u (15 : Nat), u (16 : Nat), u (17 : Nat), u (18 : Nat), u (19 : Nat), u (20 : Nat), u (21 : Nat), u (22 : Nat), u (23 : Nat), u (24 : Nat), u (25 : Nat), u (26 : Nat), u (27 : Nat), u (28 : Nat), u (29 : Nat), u (30 : Nat), u (31 : Nat), u (32 : Nat), u (33 : Nat), u (34 : Nat), u (35 : Nat), u (36 : Nat), u (37 : Nat), u (38 : Nat), u (39 : Nat), u (40 : Nat), u (41 : Nat), u (42 : Nat), u (43 : Nat), u (44 : Nat), u (45 : Nat), u (46 : Nat), u (47 : Nat), u (48 : Nat), AV.sl (ints o) o.length r, I (↑o.length : Int), I (↑j : Int), AV.bool false, u (53 : Nat), u (54 : Nat), u (55 : Nat), u (56 : Nat), u (57 : Nat), u (58 : Nat), u (59 : Nat), u (60 : Nat), u (61 : Nat), u (62 : Nat), u (63 : Nat), u (64 : Nat), u (65 : Nat), u (66 : Nat), u (67 : Nat), u (68 : Nat), u (69 : Nat), u (70 : Nat), u (71 : Nat), u (72 : Nat), u (73 : Nat), u (74 : Nat), u (75 : Nat), u (76 : Nat), u (77 : Nat), u (78 : Nat), u (79 : Nat), u (80 : Nat), u (81 : Nat), u (82 : Nat), u (83 : Nat), u (84 : Nat), u (85 : Nat), u (86 : Nat), u (87 : Nat), u (88 : Nat), u (89 : Nat), u (90 : Nat), u (91 : Nat), u (92 : Nat), u (93 : Nat), u (94 : Nat), u (95 : Nat), u (96 : Nat), u (97 : Nat), u (98 : Nat), u (99 : Nat), u (100 : Nat), u (101 : Nat), u (102 : Nat), u (103 : Nat), u (104 : Nat), u (105 : Nat), u (106 : Nat), u (107 : Nat), u (108 : Nat), u (109 : Nat), u (110 : Nat), u (111 : Nat), u (112 : Nat), u (113 : Nat), u (114 : Nat), u (115 : Nat), u (116 : Nat), u (117 : Nat), u (118 : Nat), u (119 : Nat), u (120 : Nat), u (121 : Nat), u (122 : Nat), u (123 : Nat), u (124 : Nat), u (125 : Nat), u (126 : Nat), u (127 : Nat), u (128 : Nat), u (129 : Nat), u (130 : Nat), u (131 : Nat), u (132 : Nat), u (133 : Nat), u (134 : Nat), u (135 : Nat), u (136 : Nat), u (137 : Nat), u (138 : Nat), u (139 : Nat), u (140 : Nat), u (141 : Nat), u (142 : Nat), u (143 : Nat), u (144 : Nat), u (145 : Nat), u (146 : Nat), u (147 : Nat), u (148 : Nat), u (149 : Nat), u (150 : Nat), u (151 : Nat)] (H.mk [ints (cyF o j)] [] [])) (by kernel_rfl) ?_⟩
    refine ⟨by first | with_reducible assumption | omega | assumption, ?_⟩
    refine ⟨by first | with_reducible assumption | omega | assumption, ?_⟩
    (subst e; exact .inl ⟨(), trivial, rfl, rfl, rfl⟩)
end Go.Proofs.Sur

