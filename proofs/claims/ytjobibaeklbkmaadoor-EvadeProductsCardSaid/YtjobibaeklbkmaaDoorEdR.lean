/- Layer 8: Sum and Dual. -/
import Derived.Test.YtjobibaeklbkmaaDoorEdL
import Derived.Test.YtjobibaeklbkmaaDoorEdP
import Derived.KernelRfl
set_option linter.unusedSimpArgs false
set_option linter.unusedVariables false
set_option linter.unnecessarySimpa false
set_option maxHeartbeats 4000000
set_option maxRecDepth 100000
namespace Go.Proofs.Evd
open Go Go.VM
open Go.Proofs.Sur (W w_wrap w_nat w_inj w_eq0 w_and w_or w_andn w_shl w_shr neg_nat sub_nat tz tz_ok cl bits_cons bits_0 bits_len andn andn_bit andn_le i_wrap i_and i_or i_andn i_shl i_shr bit_01)

abbrev b38 (R : Nat) (F : W) : H := ⟨[[I R, u64A F]], [], []⟩
abbrev o38 (R : Nat) (F : W) : List Out := [.mk Unit (.exit 0) [8] (fun _ => True) (fun _ => [I (suL (elts F))]) (fun _ => b38 R F) (fun _ => [])]
theorem simp38 : allSimpleM none1 (loopAt Tryd.f38 0) = true := by kernel_rfl
theorem lp38 (R : Nat) (F : W) :
    LoopS (En6 [c74g.to, c67.to, c84i.to]) (loopAt Tryd.f38 0) 36 [8, 20, 21, 22] [I 0, ls (lst F) (rn (lst F)), I (lst F).length, I 0] (b38 R F) (o38 R F) := by
  have hR : Rests (En6 [c74g.to, c67.to, c84i.to]) none1 := rests mixed (.pure _ (.pure _ (.pure _ .nil)))
  have hle : (lst F).length = (elts F).length := ic_len _
  have h64 := lst_len F
  refine loop_s hR simp38 none (by intro _ h; cases h) (fun j vs h => h = b38 R F ∧ vs = [I (suL ((elts F).take j)), ls (lst F) (rn (lst F)), I (lst F).length, I j]) (elts F).length ⟨rfl, rfl⟩ (by intro _ h; cases h) ?_
  rintro j vs h hj ⟨rfl, rfl⟩
  by_cases hz : (j : Int) < (lst F).length
  · have hz' : j < (elts F).length := by omega
    have hzl : j < (lst F).length := by omega
    have hr := rok_idx (rn_rok (lst F)) hzl
    have ha := ia_ic hz'
    have hl := elts_sml F j hz'
    have hs := take_s hz'
    have hsu := suL_app ((elts F).take j) ((elts F).getD j 0)
    have hab := suL_abs ((elts F).take j)
    have hg := sg_abs ((elts F).getD j 0)
    have hlt : ((elts F).take j).length ≤ 64 := by rw [List.length_take]; omega
    have e1 : (ia (lst F) j).toNat = (elts F).getD j 0 := by rw [ha]; rfl
    have hq : 0 ≤ ia (lst F) j ∧ ia (lst F) j < 64 := by rw [ha]; omega
    rw [← e1] at hs hsu hg
    obtain ⟨s, hsn⟩ : ∃ s, s = (ia (lst F) j).toNat := ⟨_, rfl⟩
    rw [← hsn] at hs hsu hg
    have evp : pc (ia (lst F) j).toNat = pc s := by rw [hsn]
    have ev4 : IntKind.u64.wrap (ia (lst F) j) = ia (lst F) j := by
      rw [ha]; exact w_wrap (by omega)
    have ev0 : ((pc (ia (lst F) j).toNat : Nat) : Int).tmod 2 = ((pc s % 2 : Nat) : Int) := by rw [evp]; rfl
    have ev1 : IntKind.i64.wrap (2 * ((pc s % 2 : Nat) : Int)) = 2 * ((pc s % 2 : Nat) : Int) := wr _ (by omega) (by omega)
    have ev2 : IntKind.i64.wrap (1 - 2 * ((pc s % 2 : Nat) : Int)) = sg s := wr _ (by omega) (by omega)
    have ev3 : IntKind.i64.wrap (suL ((elts F).take j) + sg s) = suL ((elts F).take (j + 1)) := by rw [wr _ (by omega) (by omega), hs, hsu]
    have ev5 : IntKind.i64.wrap ((j : Int) + 1) = ((j + 1 : Nat) : Int) := by rw [wr _ (by omega) (by omega)]; omega
    clear e1 hsn evp hs hsu
    refine ⟨[Ans.o (Orc.b true), Ans.o (Orc.val 24 (AV.cptr (ints (List.drop j (lst F)))) H.nil), Ans.o (Orc.val 25 (I ((lst F).getD j i0)) H.nil), Ans.o (Orc.val 28 (AV.int IntKind.u64 (ia (lst F) j)) H.nil), Ans.o (Orc.val 29 (I (↑(pc (ia (lst F) j).toNat) : Int)) (H.mk [[I (↑R : Int), u64A F]] [] [])), Ans.o (Orc.val 30 (I (↑(pc s % (2 : Nat)) : Int)) H.nil), Ans.o (Orc.val 31 (I ((2 : Int) * (↑(pc s % (2 : Nat)) : Int))) H.nil), Ans.o (Orc.val 32 (I (sg s)) H.nil), Ans.o (Orc.val 33 (I (suL (List.take (j + (1 : Nat)) (elts F)))) H.nil), Ans.o (Orc.val 34 (I (↑(j + (1 : Nat)) : Int)) H.nil)], fun u => of_eq ((↑j : Int) < (↑(lst F).length : Int) ∧ aIndexAddr Tryd.prog (22 : Nat) (AV.sl (ints (lst F)) (lst F).length (rn (lst F))) (I (↑j : Int)) = some (AV.cptr (ints (List.drop j (lst F)))) ∧ aLoad Tryd.prog (3 : Nat) (ints (List.drop j (lst F))) = some (I ((lst F).getD j i0)) ∧ aConvert Tryd.prog (3 : Nat) (65 : Nat) (I ((lst F).getD j i0)) = some (AV.int IntKind.u64 (ia (lst F) j)) ∧ aCall (Sof [c74g.to, c67.to, c84i.to]) (AV.fn (Fn.func (84 : Nat)) [] []) [AV.int IntKind.u64 (ia (lst F) j)] (H.mk [[I (↑R : Int), u64A F]] [] []) = some (I (↑(pc (ia (lst F) j).toNat) : Int), H.mk [[I (↑R : Int), u64A F]] [] []) ∧ aBin Tryd.prog BinOp.rem (3 : Nat) (I (↑(pc (ia (lst F) j).toNat) : Int)) (I 2) = some (I (↑(pc s % (2 : Nat)) : Int)) ∧ aBin Tryd.prog BinOp.mul (3 : Nat) (I 2) (I (↑(pc s % (2 : Nat)) : Int)) = some (I ((2 : Int) * (↑(pc s % (2 : Nat)) : Int))) ∧ aBin Tryd.prog BinOp.sub (3 : Nat) (I 1) (I ((2 : Int) * (↑(pc s % (2 : Nat)) : Int))) = some (I (sg s)) ∧ aBin Tryd.prog BinOp.add (3 : Nat) (I (suL (List.take j (elts F)))) (I (sg s)) = some (I (suL (List.take (j + (1 : Nat)) (elts F)))) ∧ aBin Tryd.prog BinOp.add (3 : Nat) (I (↑j : Int)) (I 1) = some (I (↑(j + (1 : Nat)) : Int)) ∧ (36 : Nat) = (36 : Nat) ∧ j < (elts F).length ∧ Keep (H.mk [[I (↑R : Int), u64A F]] [] [] = H.mk [[I (↑R : Int), u64A F]] [] [] ∧ [I (suL (List.take (j + (1 : Nat)) (elts F))), AV.sl (ints (lst F)) (lst F).length (rn (lst F)), I (↑(lst F).length : Int), I (↑(j + (1 : Nat)) : Int)] = [I (suL (List.take (j + (1 : Nat)) (elts F))), AV.sl (ints (lst F)) (lst F).length (rn (lst F)), I (↑(lst F).length : Int), I (↑(j + (1 : Nat)) : Int)])) (by kernel_rfl) ?_⟩
    refine ⟨by first | with_reducible assumption | omega | assumption, ?_⟩
    refine ⟨ix_ints (by kernel_rfl) (by omega) hr, ?_⟩
    refine ⟨by first | exact ld_ints (by kernel_rfl) (by kernel_rfl) (by omega) | exact ldm_ints (by kernel_rfl) (by kernel_rfl) (by first | omega | (simp; omega)), ?_⟩
    refine ⟨by first | exact told_conv (by kernel_rfl) (by kernel_rfl) (by with_reducible assumption) | exact told_conv (by kernel_rfl) (by kernel_rfl) ev0 | exact told_conv (by kernel_rfl) (by kernel_rfl) ev1 | exact told_conv (by kernel_rfl) (by kernel_rfl) ev2 | exact told_conv (by kernel_rfl) (by kernel_rfl) ev3 | exact told_conv (by kernel_rfl) (by kernel_rfl) ev4 | exact told_conv (by kernel_rfl) (by kernel_rfl) ev5 | exact told_conv (by kernel_rfl) (by kernel_rfl) ev6 | exact told_conv (by kernel_rfl) (by kernel_rfl) ev7 | exact told_conv (by kernel_rfl) (by kernel_rfl) ev8 | exact told_conv (by kernel_rfl) (by kernel_rfl) ev9 | exact told_conv (by kernel_rfl) (by kernel_rfl) ev10 | exact told_conv (by kernel_rfl) (by kernel_rfl) ev11, ?_⟩
    refine ⟨acall_hit (c := c84i.to) (ia (lst F) j) _ rfl hq, ?_⟩
    refine ⟨told_rem (by first | decide | omega) (by with_reducible assumption), ?_⟩
    refine ⟨told_mul (by with_reducible assumption), ?_⟩
    refine ⟨told_sub (by with_reducible assumption), ?_⟩
    refine ⟨told_add (by with_reducible assumption), ?_⟩
    refine ⟨told_add (by with_reducible assumption), ?_⟩
    refine ⟨by first | with_reducible assumption | omega | assumption, ?_⟩
    refine ⟨by first | with_reducible assumption | omega | assumption, ?_⟩
    exact ⟨rfl, rfl⟩
  · have hz : ((lst F).length : Int) ≤ j := by omega
    have hj' : j = (elts F).length := by omega
    subst hj'
    refine ⟨[Ans.o (Orc.b false)], fun u => of_eq ((↑(lst F).length : Int) ≤ (↑(elts F).length : Int) ∧ (36 : Nat) = (36 : Nat) ∧ hits [Out.mk Unit (AX.exit (0 : Nat)) [(8 : Nat)] (fun x => True) (fun x => [I (suL (elts F))]) (fun x => b38 R F) fun x => []] (AX.exit (0 : Nat)) [u (0 : Nat), u (1 : Nat), u (2 : Nat), u (3 : Nat), u (4 : Nat), u (5 : Nat), u (6 : Nat), u (7 : Nat), I (suL (List.take (elts F).length (elts F))), u (9 : Nat), u (10 : Nat), u (11 : Nat), u (12 : Nat), u (13 : Nat), u (14 : Nat), u (15 : Nat), u (16 : Nat), u (17 : Nat), u (18 : Nat), u (19 : Nat), AV.sl (ints (lst F)) (lst F).length (rn (lst F)), I (↑(lst F).length : Int), I (↑(elts F).length : Int), AV.bool false, u (24 : Nat), u (25 : Nat), u (26 : Nat), u (27 : Nat), u (28 : Nat), u (29 : Nat), u (30 : Nat), u (31 : Nat), u (32 : Nat), u (33 : Nat), u (34 : Nat), u (35 : Nat)] (H.mk [[I (↑R : Int), u64A F]] [] [])) (by kernel_rfl) ?_⟩
    refine ⟨by first | with_reducible assumption | omega | assumption, ?_⟩
    refine ⟨by first | with_reducible assumption | omega | assumption, ?_⟩
    exact .inl ⟨(), trivial, rfl, by rw [List.take_length]; rfl, rfl⟩
theorem ok38g : FokM Tryd.prog none1 38 Tryd.f38 := ⟨mixed, by kernel_rfl, by kernel_rfl, by kernel_rfl, by kernel_rfl⟩
theorem r38g (n : Int) (F : W) (r : Room) (hp : Fm n (lst F) F ∧ rok (lst F) r) : Body ⟨Tryd.prog, Sof (P := Tryd.prog) [c74g.to, c67.to, c84i.to], Pof (P := Tryd.prog) [], H.nil.base, 300⟩ none1 Tryd.f38 [I n, ls (lst F) r] .nil (.tup [I (sm F), I 0], .nil) := by
  have hl := lp38 (2 ^ n.toNat - 1) F
  rw [← suL_elts]
  refine body_s ([Ans.o (Orc.val 14 (AV.tup [AV.agg [I (↑((2 : Nat) ^ n.toNat - (1 : Nat)) : Int), u64A F], AV.bool true]) (H.mk [] [] [])), Ans.o (Orc.val 20 (AV.sl (ints (lst F)) (lst F).length (rn (lst F))) (H.mk [[I (↑((2 : Nat) ^ n.toNat - (1 : Nat)) : Int), u64A F]] [] [])), Ans.loop [(8 : Nat), (20 : Nat), (21 : Nat), (22 : Nat)] [Out.mk Unit (AX.exit (0 : Nat)) [(8 : Nat)] (fun x => True) (fun x => [I (suL (elts F))]) (fun x => b38 ((2 : Nat) ^ n.toNat - (1 : Nat)) F) fun y => []]]) (aCall (Sof [c74g.to, c67.to, c84i.to]) (AV.fn (Fn.func (74 : Nat)) [] []) [I n, AV.sl (ints (lst F)) (lst F).length r] (H.mk [] [] []) = some (AV.tup [AV.agg [I (↑((2 : Nat) ^ n.toNat - (1 : Nat)) : Int), u64A F], AV.bool true], H.mk [] [] []) ∧ aCall (Sof [c74g.to, c67.to, c84i.to]) (AV.fn (Fn.func (67 : Nat)) [] []) [AV.agg [I (↑((2 : Nat) ^ n.toNat - (1 : Nat)) : Int), u64A F]] (H.mk [[I (↑((2 : Nat) ^ n.toNat - (1 : Nat)) : Int), u64A F]] [] []) = some (AV.sl (ints (lst F)) (lst F).length (rn (lst F)), H.mk [[I (↑((2 : Nat) ^ n.toNat - (1 : Nat)) : Int), u64A F]] [] []) ∧ LoopS (Env.mk Tryd.prog (Sof [c74g.to, c67.to, c84i.to]) (Pof (P := Tryd.prog) []) H.nil.base (300 : Nat)) (loopAt Tryd.f38 (0 : Nat)) (36 : Nat) [(8 : Nat), (20 : Nat), (21 : Nat), (22 : Nat)] [I 0, AV.sl (ints (lst F)) (lst F).length (rn (lst F)), I (↑(lst F).length : Int), I 0] (H.mk [[I (↑((2 : Nat) ^ n.toNat - (1 : Nat)) : Int), u64A F]] [] []) [Out.mk Unit (AX.exit (0 : Nat)) [(8 : Nat)] (fun x => True) (fun x => [I (suL (elts F))]) (fun x => b38 ((2 : Nat) ^ n.toNat - (1 : Nat)) F) fun y => []] ∧ (∀ (y : Unit), True → ∀ (u : Nat → AV), (AV.tup [I (suL (elts F)), I 0], H.mk [] [] []) = (AV.tup [I (suL (elts F)), I 0], H.mk [] [] [])) ∧ True) (by kernel_rfl) ?_
  refine ⟨acall_hit (c := c74g.to) (n, F, r) _ rfl hp, ?_⟩
  refine ⟨acall_hit (c := c67.to) (2 ^ n.toNat - 1, F) _ rfl trivial, ?_⟩
  refine ⟨hl, ?_⟩
  refine And.intro ?_ ?_
  · skip
    intro y
    intro w1
    intro u
    first | with_reducible rfl | (refine bleaf_t ?_; omega) | (refine bleaf_f ?_; omega) | (refine ileaf ?_; omega) | rfl | (exfalso; omega)
  · skip
    trivial
noncomputable def c38g : PCtr Tryd.prog := sctr ok38g (X := Int × W × Room) (fun x => [I x.1, ls (lst x.2.1) x.2.2]) (fun x => Fm x.1 (lst x.2.1) x.2.1 ∧ rok (lst x.2.1) x.2.2) (fun x => .tup [I (sm x.2.1), I 0]) (by intro x y e _ _; simp [Int.natCast_inj] at e; simp [e]) (fun x => by simp [AV.bnds, AV.bnd, AV.wk, rm_wk_bnd]) (fun x => by first | rfl | (simp [AV.bnd, rm_wk_bnd]; done)  | (simp [AV.bnd, AV.bnds, rm_wk_bnd]; done) | simp [AV.bnd, AV.bnds, Room.bnd, rm_wk_bnd]) (fun x hx => ⟨_, _, _, .pure c74g (.pure c67 (.pure c84i (.nil))), r38g (x.1) (x.2.1) (x.2.2).wk (by first | exact hx | (simp only [rok_wk]; exact hx) | (simp only [rok_wk, lst_wk]; exact hx) | (simp only [rok_wk, lst_wk, lsn_wk]; exact hx))⟩)
end Go.Proofs.Evd

