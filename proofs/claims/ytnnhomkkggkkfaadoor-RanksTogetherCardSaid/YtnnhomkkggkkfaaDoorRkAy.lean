/- Layer 2: the law that parts stand together. -/
import Derived.Test.YtnnhomkkggkkfaaDoorRkAx
import Derived.KernelRfl
set_option linter.unusedSimpArgs false
set_option linter.unusedVariables false
set_option linter.unnecessarySimpa false
set_option maxHeartbeats 4000000
set_option maxRecDepth 100000
namespace Go.Proofs.Rnk
open Go Go.VM
open Go.Proofs.Sur (andn andn_bit andn_le i_wrap i_and i_or i_xor i_andn i_shl i_shr bit_01)

theorem pts_len (t : List Int) : (pts t).length = mP t := pl_len t _
theorem pts_get {t : List Int} {k : Nat} (hk : k < mP t) : (pts t).getD k i0 = ((pp t (rst t k) : Nat) : Int) := by
  simp [pts, pl, List.getD_eq_getElem?_getD, hk]
theorem pts_rok (t : List Int) : rok (pts t) (pR t) := by
  simp only [rok_wk]
  intro hne
  cases hq : pts t with
  | nil => exact absurd hq hne
  | cons x l => simp [rm]
theorem ops_ok {t : List Int} (h : Tn t) : OPs t (oT t) (pts t) (oR t) (pR t) := ⟨oL_len _ _, fun k hk => oL_get hk, (oR_rok t).1, pts_len t, fun k hk => pts_get hk, pts_rok t⟩
abbrev o16a (t o : List Int) (ro : Room) : List Out := [.mk Unit .ret [2] (fun _ => False) (fun _ => [.bool false]) (fun _ => .nil) (fun _ => []), .mk Unit (.exit 0) [5, 7] (fun _ => True) (fun _ => [ls o ro, I t.length]) (fun _ => .nil) (fun _ => [])]
theorem simp16a : allSimpleM none1 (loopAt Tryd.f16 0) = true := by kernel_rfl
theorem lp16a (t o l : List Int) (r ro rl : Room) (hop : OPs t o l ro rl) (h : Tn t) (hr : rok t r) :
    LoopS (En6 cs16) (loopAt Tryd.f16 0) 133 [0, 5, 7, 8, 50, 51, 52] [ls t r, ls o ro, I 0, I 0, ls l rl, I l.length, I 0] .nil (o16a t o ro) := by
  have hR : Rests (En6 cs16) none1 := rests mixed ct16
  have h8 := h.s.2
  have hlen := hop.ll
  have hm := (mP_spec h).1
  refine loop_s hR simp16a none (by intro _ h; cases h) (fun k vs H => H = .nil ∧ vs = [ls t r, ls o ro, I (pa t k : Nat), I (mtv t k : Nat), ls l rl, I l.length, I k]) (mP t) ⟨rfl, rfl⟩ (by intro _ h; cases h) ?_
  rintro k vs h' hj ⟨rfl, rfl⟩
  by_cases hz : (k : Int) < l.length
  · have hz' : k < l.length := by omega
    have hk : k < mP t := by omega
    have hri := rok_idx hop.lr hz'
    have ev0 := wj1 (j := k) (by omega)
    have hx := hop.lg k hk
    have hP : pp t (rst t k) < 256 := pA_lt (t := t) (j := t.length) (rst_lt h k)
    have hs8 : s8 (l.getD k i0) := by rw [hx]; simp only [s8]; omega
    have h0 := (mP_spec h).2.2 k hk
    have hpos := pp_pos h h0
    have hpos2 : 0 < pp t (rst t k) := Nat.pos_of_ne_zero fun e => by rw [e] at hpos; exact absurd hpos (by decide)
    have c1 : 1 ≤ l.getD k i0 := by rw [hx]; omega
    have ev5 := pw_shl (n := t.length) (by omega)
    have hp2 : pp t (rst t k) < 2 ^ t.length := lt_of_bits fun i hi => (pp_mem.1 hi).1
    have c2 : l.getD k i0 < ((2 ^ t.length : Nat) : Int) := by rw [hx]; exact Int.ofNat_lt.2 hp2
    have hM := mtv_lt h k
    have ev6 : IntKind.i64.wrap ((BitVec.ofInt IntKind.i64.bits (l.getD k i0) &&& BitVec.ofInt IntKind.i64.bits ((mtv t k : Nat) : Int)).toNat : Int) = 0 := by
      rw [hx, i_and (by omega) (by omega), pp_mtv h]; rfl
    have hseg := seg_next h h0 (pa_br h k (by omega)).1
    have hxn : (l.getD k i0).toNat = pp t (rst t k) := by rw [hx]; rfl
    have lpb := lp16b t o l r ro rl hop h (pa t k) (mtv t k) k (l.getD k i0) (by rw [hxn]; exact hseg.1)
    have c3 : ((sO (bo t) (pa t k) (pc (l.getD k i0).toNat) : Nat) : Int) = l.getD k i0 := by rw [hxn, hseg.2.2, hx]
    have ev7 : IntKind.i64.wrap ((BitVec.ofInt IntKind.i64.bits ((mtv t k : Nat) : Int) ||| BitVec.ofInt IntKind.i64.bits (l.getD k i0)).toNat : Int) = ((mtv t (k + 1) : Nat) : Int) := by
      rw [hx, i_or (by omega) (by omega)]; rfl
    have e8 : pa t (k + 1) = pa t k + pc (l.getD k i0).toNat := by rw [hxn]; rfl
    have lpc := lp16c t o l r ro rl hop h hr (pa t k + pc (l.getD k i0).toNat) k (l.getD k i0) hx
    refine ⟨[Ans.o (Orc.b true), Ans.o (Orc.val 54 (AV.cptr (ints (List.drop k l))) H.nil), Ans.o (Orc.val 55 (I (l.getD k i0)) H.nil), Ans.o (Orc.b false), Ans.o (Orc.val 62 (I (↑((2 : Nat) ^ t.length) : Int)) H.nil), Ans.o (Orc.b false), Ans.o (Orc.val 68 (I 0) H.nil), Ans.o Orc.dflt, Ans.o (Orc.val 72 (I (↑(pc (l.getD k i0).toNat) : Int)) (H.mk [] [] [])), Ans.loop [(0 : Nat), (5 : Nat), (7 : Nat), (8 : Nat), (10 : Nat), (11 : Nat), (50 : Nat), (51 : Nat), (52 : Nat), (72 : Nat), (73 : Nat)] [Out.mk Unit AX.ret [(2 : Nat)] (fun x => False) (fun x => [AV.bool false]) (fun x => H.nil) fun y => [], Out.mk Unit (AX.exit (2 : Nat)) [(0 : Nat), (5 : Nat), (7 : Nat), (8 : Nat), (10 : Nat), (11 : Nat), (50 : Nat), (51 : Nat), (52 : Nat)] (fun x => True) (fun x => [ls t r, ls o ro, I (↑(pa t k + pc (l.getD k i0).toNat) : Int), I (↑(mtv t k) : Int), I (l.getD k i0), I (↑(sO (bo t) (pa t k) (pc (l.getD k i0).toNat)) : Int), ls l rl, I (↑l.length : Int), I (↑k : Int)]) (fun x => H.nil) fun y => [Ans.o (Orc.b false), Ans.o (Orc.val 94 (I (↑(mtv t (k + (1 : Nat))) : Int)) H.nil), Ans.loop [(0 : Nat), (5 : Nat), (7 : Nat), (8 : Nat), (10 : Nat), (50 : Nat), (51 : Nat), (52 : Nat), (95 : Nat), (96 : Nat), (97 : Nat)] [Out.mk Unit AX.ret [(2 : Nat)] (fun x => False) (fun x => [AV.bool false]) (fun x => H.nil) fun y => [], Out.mk Unit (AX.exit (4 : Nat)) [(0 : Nat), (5 : Nat), (7 : Nat), (8 : Nat), (50 : Nat), (51 : Nat), (52 : Nat)] (fun x => True) (fun x => [ls t r, ls o ro, I (↑(pa t k + pc (l.getD k i0).toNat) : Int), I (↑(mtv t (k + (1 : Nat))) : Int), ls l rl, I (↑l.length : Int), I (↑k : Int)]) (fun x => H.nil) fun y => [Ans.o (Orc.val 125 (I (↑(k + (1 : Nat)) : Int)) H.nil)]]]]], fun u => of_eq ((↑k : Int) < (↑l.length : Int) ∧ aIndexAddr Tryd.prog (22 : Nat) (AV.sl (ints l) l.length rl) (I (↑k : Int)) = some (AV.cptr (ints (List.drop k l))) ∧ aLoad Tryd.prog (3 : Nat) (ints (List.drop k l)) = some (I (l.getD k i0)) ∧ (1 : Int) ≤ l.getD k i0 ∧ aBin Tryd.prog BinOp.shl (3 : Nat) (I 1) (I (↑t.length : Int)) = some (I (↑((2 : Nat) ^ t.length) : Int)) ∧ l.getD k i0 < (↑((2 : Nat) ^ t.length) : Int) ∧ aBin Tryd.prog BinOp.and (3 : Nat) (I (l.getD k i0)) (I (↑(mtv t k) : Int)) = some (I 0) ∧ aCall (Sof cs16) (AV.fn (Fn.func (27 : Nat)) [] []) [I (l.getD k i0)] (H.mk [] [] []) = some (I (↑(pc (l.getD k i0).toNat) : Int), H.mk [] [] []) ∧ LoopS (Env.mk Tryd.prog (Sof cs16) (Pof (P := Tryd.prog) []) H.nil.base (300 : Nat)) (loopAt Tryd.f16 (1 : Nat)) (133 : Nat) [(0 : Nat), (5 : Nat), (7 : Nat), (8 : Nat), (10 : Nat), (11 : Nat), (50 : Nat), (51 : Nat), (52 : Nat), (72 : Nat), (73 : Nat)] [AV.sl (ints t) t.length r, AV.sl (ints o) o.length ro, I (↑(pa t k) : Int), I (↑(mtv t k) : Int), I (l.getD k i0), I 0, AV.sl (ints l) l.length rl, I (↑l.length : Int), I (↑k : Int), I (↑(pc (l.getD k i0).toNat) : Int), I 0] (H.mk [] [] []) [Out.mk Unit AX.ret [(2 : Nat)] (fun x => False) (fun x => [AV.bool false]) (fun x => H.nil) fun y => [], Out.mk Unit (AX.exit (2 : Nat)) [(0 : Nat), (5 : Nat), (7 : Nat), (8 : Nat), (10 : Nat), (11 : Nat), (50 : Nat), (51 : Nat), (52 : Nat)] (fun x => True) (fun x => [ls t r, ls o ro, I (↑(pa t k + pc (l.getD k i0).toNat) : Int), I (↑(mtv t k) : Int), I (l.getD k i0), I (↑(sO (bo t) (pa t k) (pc (l.getD k i0).toNat)) : Int), ls l rl, I (↑l.length : Int), I (↑k : Int)]) (fun x => H.nil) fun y => [Ans.o (Orc.b false), Ans.o (Orc.val 94 (I (↑(mtv t (k + (1 : Nat))) : Int)) H.nil), Ans.loop [(0 : Nat), (5 : Nat), (7 : Nat), (8 : Nat), (10 : Nat), (50 : Nat), (51 : Nat), (52 : Nat), (95 : Nat), (96 : Nat), (97 : Nat)] [Out.mk Unit AX.ret [(2 : Nat)] (fun x => False) (fun x => [AV.bool false]) (fun x => H.nil) fun y => [], Out.mk Unit (AX.exit (4 : Nat)) [(0 : Nat), (5 : Nat), (7 : Nat), (8 : Nat), (50 : Nat), (51 : Nat), (52 : Nat)] (fun x => True) (fun x => [ls t r, ls o ro, I (↑(pa t k + pc (l.getD k i0).toNat) : Int), I (↑(mtv t (k + (1 : Nat))) : Int), ls l rl, I (↑l.length : Int), I (↑k : Int)]) (fun x => H.nil) fun y => [Ans.o (Orc.val 125 (I (↑(k + (1 : Nat)) : Int)) H.nil)]]]] ∧ (∀ (y : Unit), False → ∀ (u : Nat → AV), (133 : Nat) = (133 : Nat) ∧ hits [Out.mk Unit AX.ret [(2 : Nat)] (fun x => False) (fun x => [AV.bool false]) (fun x => H.nil) fun x => [], Out.mk Unit (AX.exit (0 : Nat)) [(5 : Nat), (7 : Nat)] (fun x => True) (fun x => [ls o ro, I (↑t.length : Int)]) (fun x => H.nil) fun x => []] AX.ret [u (0 : Nat), u (1 : Nat), AV.bool false, u (3 : Nat), u (4 : Nat), u (5 : Nat), u (6 : Nat), u (7 : Nat), u (8 : Nat), u (9 : Nat), u (10 : Nat), u (11 : Nat), u (12 : Nat), u (13 : Nat), u (14 : Nat), u (15 : Nat), u (16 : Nat), u (17 : Nat), u (18 : Nat), u (19 : Nat), u (20 : Nat), u (21 : Nat), u (22 : Nat), u (23 : Nat), u (24 : Nat), u (25 : Nat), u (26 : Nat), u (27 : Nat), u (28 : Nat), u (29 : Nat), u (30 : Nat), u (31 : Nat), u (32 : Nat), u (33 : Nat), u (34 : Nat), u (35 : Nat), u (36 : Nat), u (37 : Nat), u (38 : Nat), u (39 : Nat), u (40 : Nat), u (41 : Nat), u (42 : Nat), u (43 : Nat), u (44 : Nat), u (45 : Nat), u (46 : Nat), u (47 : Nat), u (48 : Nat), u (49 : Nat), u (50 : Nat), u (51 : Nat), u (52 : Nat), u (53 : Nat), u (54 : Nat), u (55 : Nat), u (56 : Nat), u (57 : Nat), u (58 : Nat), u (59 : Nat), u (60 : Nat), u (61 : Nat), u (62 : Nat), u (63 : Nat), u (64 : Nat), u (65 : Nat), u (66 : Nat), u (67 : Nat), u (68 : Nat), u (69 : Nat), u (70 : Nat), u (71 : Nat), u (72 : Nat), u (73 : Nat), u (74 : Nat), u (75 : Nat), u (76 : Nat), u (77 : Nat), u (78 : Nat), u (79 : Nat), u (80 : Nat), u (81 : Nat), u (82 : Nat), u (83 : Nat), u (84 : Nat), u (85 : Nat), u (86 : Nat), u (87 : Nat), u (88 : Nat), u (89 : Nat), u (90 : Nat), u (91 : Nat), u (92 : Nat), u (93 : Nat), u (94 : Nat), u (95 : Nat), u (96 : Nat), u (97 : Nat), u (98 : Nat), u (99 : Nat), u (100 : Nat), u (101 : Nat), u (102 : Nat), u (103 : Nat), u (104 : Nat), u (105 : Nat), u (106 : Nat), u (107 : Nat), u (108 : Nat), u (109 : Nat), u (110 : Nat), u (111 : Nat), u (112 : Nat), u (113 : Nat), u (114 : Nat), u (115 : Nat), u (116 : Nat), u (117 : Nat), u (118 : Nat), u (119 : Nat), u (120 : Nat), u (121 : Nat), u (122 : Nat), u (123 : Nat), u (124 : Nat), u (125 : Nat), u (126 : Nat), u (127 : Nat), u (128 : Nat), u (129 : Nat), u (130 : Nat), u (131 : Nat), u (132 : Nat)] (H.mk [] [] [])) ∧ (∀ (y : Unit), True → ∀ (u : Nat → AV), (↑(sO (bo t) (pa t k) (pc (l.getD k i0).toNat)) : Int) = l.getD k i0 ∧ aBin Tryd.prog BinOp.or (3 : Nat) (I (↑(mtv t k) : Int)) (I (l.getD k i0)) = some (I (↑(mtv t (k + (1 : Nat))) : Int)) ∧ LoopS (Env.mk Tryd.prog (Sof cs16) (Pof (P := Tryd.prog) []) H.nil.base (300 : Nat)) (loopAt Tryd.f16 (2 : Nat)) (133 : Nat) [(0 : Nat), (5 : Nat), (7 : Nat), (8 : Nat), (10 : Nat), (50 : Nat), (51 : Nat), (52 : Nat), (95 : Nat), (96 : Nat), (97 : Nat)] [AV.sl (ints t) t.length r, AV.sl (ints o) o.length ro, I (↑(pa t k + pc (l.getD k i0).toNat) : Int), I (↑(mtv t (k + (1 : Nat))) : Int), I (l.getD k i0), AV.sl (ints l) l.length rl, I (↑l.length : Int), I (↑k : Int), AV.sl (ints t) t.length r, I (↑t.length : Int), I 0] (H.mk [] [] []) [Out.mk Unit AX.ret [(2 : Nat)] (fun x => False) (fun x => [AV.bool false]) (fun x => H.nil) fun y => [], Out.mk Unit (AX.exit (4 : Nat)) [(0 : Nat), (5 : Nat), (7 : Nat), (8 : Nat), (50 : Nat), (51 : Nat), (52 : Nat)] (fun x => True) (fun x => [ls t r, ls o ro, I (↑(pa t k + pc (l.getD k i0).toNat) : Int), I (↑(mtv t (k + (1 : Nat))) : Int), ls l rl, I (↑l.length : Int), I (↑k : Int)]) (fun x => H.nil) fun y => [Ans.o (Orc.val 125 (I (↑(k + (1 : Nat)) : Int)) H.nil)]] ∧ (∀ (y : Unit), False → ∀ (u : Nat → AV), (133 : Nat) = (133 : Nat) ∧ hits [Out.mk Unit AX.ret [(2 : Nat)] (fun x => False) (fun x => [AV.bool false]) (fun x => H.nil) fun x => [], Out.mk Unit (AX.exit (0 : Nat)) [(5 : Nat), (7 : Nat)] (fun x => True) (fun x => [ls o ro, I (↑t.length : Int)]) (fun x => H.nil) fun x => []] AX.ret [u (0 : Nat), u (1 : Nat), AV.bool false, u (3 : Nat), u (4 : Nat), u (5 : Nat), u (6 : Nat), u (7 : Nat), u (8 : Nat), u (9 : Nat), u (10 : Nat), u (11 : Nat), u (12 : Nat), u (13 : Nat), u (14 : Nat), u (15 : Nat), u (16 : Nat), u (17 : Nat), u (18 : Nat), u (19 : Nat), u (20 : Nat), u (21 : Nat), u (22 : Nat), u (23 : Nat), u (24 : Nat), u (25 : Nat), u (26 : Nat), u (27 : Nat), u (28 : Nat), u (29 : Nat), u (30 : Nat), u (31 : Nat), u (32 : Nat), u (33 : Nat), u (34 : Nat), u (35 : Nat), u (36 : Nat), u (37 : Nat), u (38 : Nat), u (39 : Nat), u (40 : Nat), u (41 : Nat), u (42 : Nat), u (43 : Nat), u (44 : Nat), u (45 : Nat), u (46 : Nat), u (47 : Nat), u (48 : Nat), u (49 : Nat), u (50 : Nat), u (51 : Nat), u (52 : Nat), u (53 : Nat), u (54 : Nat), u (55 : Nat), u (56 : Nat), u (57 : Nat), u (58 : Nat), u (59 : Nat), u (60 : Nat), u (61 : Nat), u (62 : Nat), u (63 : Nat), u (64 : Nat), u (65 : Nat), u (66 : Nat), u (67 : Nat), u (68 : Nat), u (69 : Nat), u (70 : Nat), u (71 : Nat), u (72 : Nat), u (73 : Nat), u (74 : Nat), u (75 : Nat), u (76 : Nat), u (77 : Nat), u (78 : Nat), u (79 : Nat), u (80 : Nat), u (81 : Nat), u (82 : Nat), u (83 : Nat), u (84 : Nat), u (85 : Nat), u (86 : Nat), u (87 : Nat), u (88 : Nat), u (89 : Nat), u (90 : Nat), u (91 : Nat), u (92 : Nat), u (93 : Nat), u (94 : Nat), u (95 : Nat), u (96 : Nat), u (97 : Nat), u (98 : Nat), u (99 : Nat), u (100 : Nat), u (101 : Nat), u (102 : Nat), u (103 : Nat), u (104 : Nat), u (105 : Nat), u (106 : Nat), u (107 : Nat), u (108 : Nat), u (109 : Nat), u (110 : Nat), u (111 : Nat), u (112 : Nat), u (113 : Nat), u (114 : Nat), u (115 : Nat), u (116 : Nat), u (117 : Nat), u (118 : Nat), u (119 : Nat), u (120 : Nat), u (121 : Nat), u (122 : Nat), u (123 : Nat), u (124 : Nat), u (125 : Nat), u (126 : Nat), u (127 : Nat), u (128 : Nat), u (129 : Nat), u (130 : Nat), u (131 : Nat), u (132 : Nat)] (H.mk [] [] [])) ∧ (∀ (y : Unit), True → ∀ (u : Nat → AV), aBin Tryd.prog BinOp.add (3 : Nat) (I (↑k : Int)) (I 1) = some (I (↑(k + (1 : Nat)) : Int)) ∧ (133 : Nat) = (133 : Nat) ∧ k < mP t ∧ Keep (H.mk [] [] [] = H.mk [] [] [] ∧ [AV.sl (ints t) t.length r, AV.sl (ints o) o.length ro, I (↑(pa t k + pc (l.getD k i0).toNat) : Int), I (↑(mtv t (k + (1 : Nat))) : Int), AV.sl (ints l) l.length rl, I (↑l.length : Int), I (↑(k + (1 : Nat)) : Int)] = [AV.sl (ints t) t.length r, AV.sl (ints o) o.length ro, I (↑(pa t (k + (1 : Nat))) : Int), I (↑(mtv t (k + (1 : Nat))) : Int), AV.sl (ints l) l.length rl, I (↑l.length : Int), I (↑(k + (1 : Nat)) : Int)])) ∧ True) ∧ True) (by kernel_rfl) ?_⟩
    refine ⟨by first | with_reducible assumption | omega | assumption, ?_⟩
    refine ⟨ix_ints (by kernel_rfl) hz' hri, ?_⟩
    refine ⟨ld_ints (by kernel_rfl) (by kernel_rfl) hz', ?_⟩
    refine ⟨by first | with_reducible assumption | omega | assumption, ?_⟩
    refine ⟨by first | exact told_shl (by first | exact Int.natCast_nonneg _ | omega) (by with_reducible assumption) | exact told_shl (by omega) rfl, ?_⟩
    refine ⟨by first | with_reducible assumption | omega | assumption, ?_⟩
    refine ⟨told_and (by with_reducible assumption), ?_⟩
    refine ⟨acall_hit (c := c27.to) (l.getD k i0) _ rfl hs8, ?_⟩
    refine ⟨lpb, ?_⟩
    refine And.intro ?_ ?_
    · skip
      intro y
      intro w1
      intro u
      refine ⟨by first | with_reducible assumption | omega | assumption, ?_⟩
      (exfalso; assumption)
    · skip
      refine And.intro ?_ ?_
      · skip
        intro y
        intro w1
        intro u
        refine ⟨by first | with_reducible assumption | omega | assumption, ?_⟩
        refine ⟨told_or (by with_reducible assumption), ?_⟩
        refine ⟨lpc, ?_⟩
        refine And.intro ?_ ?_
        · skip
          intro y
          intro w4
          intro u
          refine ⟨by first | with_reducible assumption | omega | assumption, ?_⟩
          (exfalso; assumption)
        · skip
          refine And.intro ?_ ?_
          · skip
            intro y
            intro w4
            intro u
            refine ⟨told_add (by with_reducible assumption), ?_⟩
            refine ⟨by first | with_reducible assumption | omega | assumption, ?_⟩
            refine ⟨by first | with_reducible assumption | omega | assumption, ?_⟩
            exact ⟨rfl, by rw [e8]⟩
          · skip
            trivial
      · skip
        trivial
  · have hz : (l.length : Int) ≤ k := by omega
    have e : k = mP t := by omega
    subst e
    have e2 := pa_end h
    refine ⟨[Ans.o (Orc.b false)], fun u => of_eq ((↑l.length : Int) ≤ (↑(mP t) : Int) ∧ (133 : Nat) = (133 : Nat) ∧ hits [Out.mk Unit AX.ret [(2 : Nat)] (fun x => False) (fun x => [AV.bool false]) (fun x => H.nil) fun x => [], Out.mk Unit (AX.exit (0 : Nat)) [(5 : Nat), (7 : Nat)] (fun x => True) (fun x => [ls o ro, I (↑t.length : Int)]) (fun x => H.nil) fun x => []] (AX.exit (0 : Nat)) [AV.sl (ints t) t.length r, u (1 : Nat), u (2 : Nat), u (3 : Nat), u (4 : Nat), AV.sl (ints o) o.length ro, u (6 : Nat), I (↑(pa t (mP t)) : Int), I (↑(mtv t (mP t)) : Int), u (9 : Nat), u (10 : Nat), u (11 : Nat), u (12 : Nat), u (13 : Nat), u (14 : Nat), u (15 : Nat), u (16 : Nat), u (17 : Nat), u (18 : Nat), u (19 : Nat), u (20 : Nat), u (21 : Nat), u (22 : Nat), u (23 : Nat), u (24 : Nat), u (25 : Nat), u (26 : Nat), u (27 : Nat), u (28 : Nat), u (29 : Nat), u (30 : Nat), u (31 : Nat), u (32 : Nat), u (33 : Nat), u (34 : Nat), u (35 : Nat), u (36 : Nat), u (37 : Nat), u (38 : Nat), u (39 : Nat), u (40 : Nat), u (41 : Nat), u (42 : Nat), u (43 : Nat), u (44 : Nat), u (45 : Nat), u (46 : Nat), u (47 : Nat), u (48 : Nat), u (49 : Nat), AV.sl (ints l) l.length rl, I (↑l.length : Int), I (↑(mP t) : Int), AV.bool false, u (54 : Nat), u (55 : Nat), u (56 : Nat), u (57 : Nat), u (58 : Nat), u (59 : Nat), u (60 : Nat), u (61 : Nat), u (62 : Nat), u (63 : Nat), u (64 : Nat), u (65 : Nat), u (66 : Nat), u (67 : Nat), u (68 : Nat), u (69 : Nat), u (70 : Nat), u (71 : Nat), u (72 : Nat), u (73 : Nat), u (74 : Nat), u (75 : Nat), u (76 : Nat), u (77 : Nat), u (78 : Nat), u (79 : Nat), u (80 : Nat), u (81 : Nat), u (82 : Nat), u (83 : Nat), u (84 : Nat), u (85 : Nat), u (86 : Nat), u (87 : Nat), u (88 : Nat), u (89 : Nat), u (90 : Nat), u (91 : Nat), u (92 : Nat), u (93 : Nat), u (94 : Nat), u (95 : Nat), u (96 : Nat), u (97 : Nat), u (98 : Nat), u (99 : Nat), u (100 : Nat), u (101 : Nat), u (102 : Nat), u (103 : Nat), u (104 : Nat), u (105 : Nat), u (106 : Nat), u (107 : Nat), u (108 : Nat), u (109 : Nat), u (110 : Nat), u (111 : Nat), u (112 : Nat), u (113 : Nat), u (114 : Nat), u (115 : Nat), u (116 : Nat), u (117 : Nat), u (118 : Nat), u (119 : Nat), u (120 : Nat), u (121 : Nat), u (122 : Nat), u (123 : Nat), u (124 : Nat), u (125 : Nat), u (126 : Nat), u (127 : Nat), u (128 : Nat), u (129 : Nat), u (130 : Nat), u (131 : Nat), u (132 : Nat)] (H.mk [] [] [])) (by kernel_rfl) ?_⟩
    refine ⟨by first | with_reducible assumption | omega | assumption, ?_⟩
    refine ⟨by first | with_reducible assumption | omega | assumption, ?_⟩
    exact .inr (.inl ⟨(), trivial, rfl, by rw [e2]; rfl, rfl⟩)
theorem ok16 : FokM Tryd.prog none1 16 Tryd.f16 := ⟨mixed, by kernel_rfl, by kernel_rfl, by kernel_rfl, by kernel_rfl⟩
theorem r16t (t : List Int) (r : Room) (hp : pL t r) (h : Tn t) : Body (En6 cs16) none1 Tryd.f16 [ls t r] .nil (.bool true, .nil) := by
  obtain ⟨h1, h2⟩ := hp
  have h8 := h.s.2
  have h0 := h.s.1
  have hr := h1.2.1
  have hb := tn_t h
  have hn : rok t .no := fun _ => no_ne
  have hne : t ≠ [] := fun e => by rw [e] at h0; simp at h0
  have p19 : ((lim t.length ∧ rok t r ∧ em t r) ∧ t.length ≤ 11) ∧ t ≠ [] := ⟨⟨h1, by omega⟩, hne⟩
  have p37 : Tn t ∧ rok t .no := ⟨h, hn⟩
  have p21 : lim t.length ∧ rok t r := ⟨h1.1, hr⟩
  have p39 : t.length ≤ 8 ∧ OB t.length (oT t) ∧ rok (oT t) (oR t) := ⟨h8, oT_ob h, (oR_rok t).1⟩
  have lp := lp16a t (oT t) (pts t) r (oR t) (pR t) (ops_ok h) h hr
  have c0 : (t.length : Int) = ((oT t).length : Int) := by rw [oL_len]
  refine body_s ([Ans.o (Orc.val 16 (AV.sl (ints t) t.length Room.no) (H.mk [] [] [])), Ans.o (Orc.val 17 (AV.tup [AV.sl (ints (pts t)) (pts t).length (pR t), I 0]) (H.mk [] [] [])), Ans.o (Orc.val 22 (AV.sl (ints t) t.length Room.no) (H.mk [] [] [])), Ans.o (Orc.val 23 (AV.tup [AV.sl (ints (oT t)) (oT t).length (oR t), I 0]) (H.mk [] [] [])), Ans.o Orc.dflt, Ans.o (Orc.val 30 (AV.bool true) (H.mk [] [] [])), Ans.o Orc.dflt, Ans.o (Orc.val 47 (AV.bool true) (H.mk [] [] [])), Ans.loop [(0 : Nat), (5 : Nat), (7 : Nat), (8 : Nat), (50 : Nat), (51 : Nat), (52 : Nat)] [Out.mk Unit AX.ret [(2 : Nat)] (fun x => False) (fun x => [AV.bool false]) (fun x => H.nil) fun y => [], Out.mk Unit (AX.exit (0 : Nat)) [(5 : Nat), (7 : Nat)] (fun x => True) (fun x => [ls (oT t) (oR t), I (↑t.length : Int)]) (fun x => H.nil) fun y => [Ans.o (Orc.b true), Ans.o (Orc.val 131 (AV.bool true) (H.mk [] [] []))]]]) (aCall (Sof cs16) (AV.fn (Fn.func (19 : Nat)) [] []) [AV.sl (ints t) t.length r] (H.mk [] [] []) = some (AV.sl (ints t) t.length Room.no, H.mk [] [] []) ∧ aCall (Sof cs16) (AV.fn (Fn.func (33 : Nat)) [] []) [AV.sl (ints t) t.length Room.no] (H.mk [] [] []) = some (AV.tup [AV.sl (ints (pts t)) (pts t).length (pR t), I 0], H.mk [] [] []) ∧ aCall (Sof cs16) (AV.fn (Fn.func (19 : Nat)) [] []) [AV.sl (ints t) t.length r] (H.mk [] [] []) = some (AV.sl (ints t) t.length Room.no, H.mk [] [] []) ∧ aCall (Sof cs16) (AV.fn (Fn.func (37 : Nat)) [] []) [AV.sl (ints t) t.length Room.no] (H.mk [] [] []) = some (AV.tup [AV.sl (ints (oT t)) (oT t).length (oR t), I 0], H.mk [] [] []) ∧ aCall (Sof cs16) (AV.fn (Fn.func (21 : Nat)) [] []) [AV.sl (ints t) t.length r] (H.mk [] [] []) = some (AV.bool true, H.mk [] [] []) ∧ aCall (Sof cs16) (AV.fn (Fn.func (39 : Nat)) [] []) [AV.sl (ints t) t.length r, AV.sl (ints (oT t)) (oT t).length (oR t)] (H.mk [] [] []) = some (AV.bool true, H.mk [] [] []) ∧ LoopS (Env.mk Tryd.prog (Sof cs16) (Pof (P := Tryd.prog) []) H.nil.base (300 : Nat)) (loopAt Tryd.f16 (0 : Nat)) (133 : Nat) [(0 : Nat), (5 : Nat), (7 : Nat), (8 : Nat), (50 : Nat), (51 : Nat), (52 : Nat)] [AV.sl (ints t) t.length r, AV.sl (ints (oT t)) (oT t).length (oR t), I 0, I 0, AV.sl (ints (pts t)) (pts t).length (pR t), I (↑(pts t).length : Int), I 0] (H.mk [] [] []) [Out.mk Unit AX.ret [(2 : Nat)] (fun x => False) (fun x => [AV.bool false]) (fun x => H.nil) fun y => [], Out.mk Unit (AX.exit (0 : Nat)) [(5 : Nat), (7 : Nat)] (fun x => True) (fun x => [ls (oT t) (oR t), I (↑t.length : Int)]) (fun x => H.nil) fun y => [Ans.o (Orc.b true), Ans.o (Orc.val 131 (AV.bool true) (H.mk [] [] []))]] ∧ (∀ (y : Unit), False → ∀ (u : Nat → AV), (AV.bool false, H.mk [] [] []) = (AV.bool true, H.mk [] [] [])) ∧ (∀ (y : Unit), True → ∀ (u : Nat → AV), (↑t.length : Int) = (↑(oT t).length : Int) ∧ aCall (Sof cs16) (AV.fn (Fn.func (24 : Nat)) [] []) [] (H.mk [] [] []) = some (AV.bool true, H.mk [] [] []) ∧ (AV.bool true, H.mk [] [] []) = (AV.bool true, H.mk [] [] [])) ∧ True) (by kernel_rfl) ?_
  refine ⟨acall_hit (c := c19q.to) (t, r) _ rfl p19, ?_⟩
  refine ⟨acall_hit (c := c33t.to) t _ rfl h, ?_⟩
  refine ⟨acall_hit (c := c19q.to) (t, r) _ rfl p19, ?_⟩
  refine ⟨acall_hit (c := c37t.to) (t, .no) _ rfl p37, ?_⟩
  refine ⟨acall_b (acall_hit (c := c21.to) (t, r) _ rfl p21) hb, ?_⟩
  refine ⟨acall_hit (c := c39.to) ((t, r), oT t, oR t) _ rfl p39, ?_⟩
  refine ⟨lp, ?_⟩
  refine And.intro ?_ ?_
  · skip
    intro y
    intro w1
    intro u
    first | rfl | (exfalso; assumption)
  · skip
    refine And.intro ?_ ?_
    · skip
      intro y
      intro w1
      intro u
      refine ⟨by first | with_reducible assumption | omega | assumption, ?_⟩
      refine ⟨acall_hit (c := c24.to) () _ rfl trivial, ?_⟩
      first | rfl | (exfalso; assumption)
    · skip
      trivial
theorem r16f (t : List Int) (r : Room) (hp : pL t r) (h : ¬ Tn t) : Body (En6 [c19.to, c33f.to, c37f.to, c24.to]) none1 Tryd.f16 [ls t r] .nil (.bool true, .nil) := by
  obtain ⟨h1, h2⟩ := hp
  have p37 : (lim (cut t).length ∧ rok (cut t) (rcl r) ∧ inI (cut t)) ∧ ¬ Tn (cut t) := ⟨⟨cut_lim t, fun hne => rcl_rok h1.2.1 (fun e => hne (by rw [e]; rfl)), cut_in h2⟩, cut_tn h⟩
  refine body_s ([Ans.o (Orc.val 16 (AV.sl (ints (cut t)) (cut t).length (rcl r)) (H.mk [] [] [])), Ans.o (Orc.val 17 (AV.tup [AV.sl [] (0 : Nat) Room.nil, I 2]) (H.mk [] [] [])), Ans.o (Orc.val 22 (AV.sl (ints (cut t)) (cut t).length (rcl r)) (H.mk [] [] [])), Ans.o (Orc.val 23 (AV.tup [AV.sl [] (0 : Nat) Room.nil, I 2]) (H.mk [] [] [])), Ans.o Orc.dflt, Ans.o Orc.dflt, Ans.o Orc.dflt, Ans.o (Orc.val 40 (AV.bool true) (H.mk [] [] []))]) (aCall (Sof [c19.to, c33f.to, c37f.to, c24.to]) (AV.fn (Fn.func (19 : Nat)) [] []) [AV.sl (ints t) t.length r] (H.mk [] [] []) = some (AV.sl (ints (cut t)) (cut t).length (rcl r), H.mk [] [] []) ∧ aCall (Sof [c19.to, c33f.to, c37f.to, c24.to]) (AV.fn (Fn.func (33 : Nat)) [] []) [AV.sl (ints (cut t)) (cut t).length (rcl r)] (H.mk [] [] []) = some (AV.tup [AV.sl [] (0 : Nat) Room.nil, I 2], H.mk [] [] []) ∧ aCall (Sof [c19.to, c33f.to, c37f.to, c24.to]) (AV.fn (Fn.func (19 : Nat)) [] []) [AV.sl (ints t) t.length r] (H.mk [] [] []) = some (AV.sl (ints (cut t)) (cut t).length (rcl r), H.mk [] [] []) ∧ aCall (Sof [c19.to, c33f.to, c37f.to, c24.to]) (AV.fn (Fn.func (37 : Nat)) [] []) [AV.sl (ints (cut t)) (cut t).length (rcl r)] (H.mk [] [] []) = some (AV.tup [AV.sl [] (0 : Nat) Room.nil, I 2], H.mk [] [] []) ∧ aCall (Sof [c19.to, c33f.to, c37f.to, c24.to]) (AV.fn (Fn.func (24 : Nat)) [] []) [] (H.mk [] [] []) = some (AV.bool true, H.mk [] [] []) ∧ (AV.bool true, H.mk [] [] []) = (AV.bool true, H.mk [] [] [])) (by kernel_rfl) ?_
  refine ⟨acall_hit (c := c19.to) (t, r) _ rfl h1, ?_⟩
  refine ⟨acall_hit (c := c33f.to) (cut t, rcl r) _ rfl p37, ?_⟩
  refine ⟨acall_hit (c := c19.to) (t, r) _ rfl h1, ?_⟩
  refine ⟨acall_hit (c := c37f.to) (cut t, rcl r) _ rfl p37, ?_⟩
  refine ⟨acall_hit (c := c24.to) () _ rfl trivial, ?_⟩
  first | with_reducible rfl | (refine bleaf_t ?_; omega) | (refine bleaf_f ?_; omega) | (refine ileaf ?_; omega) | rfl | (exfalso; omega)
theorem together_ok (t : List Int) (q : RK) (h1 : t.length ≤ Go.maxLen) (h2 : q.mt = true → t = []) (h3 : inI t) : CallOk Tryd.prog 16 [ls t (rr q)] .nil (.bool true) .nil := by
  have hp := pL_rr h1 h2 h3
  by_cases h : Tn t
  · exact (r16t t _ hp h).run ok16 ct16 rfl
  · exact (r16f t _ hp h).run ok16 (.pure _ (.pure _ (.pure _ (.pure _ .nil)))) rfl
end Go.Proofs.Rnk

