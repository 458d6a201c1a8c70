/- Layer 5: the law of the least chance. -/
import Derived.Test.YtlomlnkafakloaaDoorSzH
import Derived.Test.YtlomlnkafakloaaDoorSuJ0
import Derived.KernelRfl
set_option linter.unusedSimpArgs false
set_option linter.unusedVariables false
set_option linter.unnecessarySimpa false
set_option maxHeartbeats 4000000
set_option maxRecDepth 100000
namespace Go.Proofs.Sur
open Go Go.VM

theorem rd_oneb {g : List Int} (hg : Gr g) : rdE g 1 = 0 := (rd_some ⟨grB_t hg, by omega, by omega⟩ rfl).1
theorem co_oneb {g : List Int} (hg : Gr g) : (coV g 1).length = al g := by
  rw [(co_len (rd_oneb hg)).1]
  show msV (nrV g) (ful (nrV g).length) = _
  rw [nrV_len]; rfl
open Classical in
noncomputable def bkN (l : List Int) : Int := if Chn l then (bkP l).2 else 0
open Classical in
noncomputable def bkD (l : List Int) : Int := if Chn l then (bkP l).1 else 0
open Classical in
noncomputable def bkE (l : List Int) : Int := if Chn l then 0 else 2
theorem ok20 : FokM Tryd.prog none1 20 Tryd.f20 := ⟨mixed, by kernel_rfl, by kernel_rfl, by kernel_rfl, by kernel_rfl⟩
theorem r20 (l : List Int) (r : Room) (hp : lim l.length ∧ rok l r) : Body ⟨Tryd.prog, Sof (P := Tryd.prog) [c57.to, c59.to, c58.to], Pof (P := Tryd.prog) [], H.nil.base, 300⟩ none1 Tryd.f20 [ls l r] .nil (.tup [.agg [I (bkN l), I (bkD l)], I (bkE l)], .nil) := by
  by_cases hc : Chn l
  · have hb : chB l = true := chB_t hc
    have h1 : bkN l = (bkP l).2 := if_pos hc
    have h2 : bkD l = (bkP l).1 := if_pos hc
    have h3 : bkE l = 0 := if_pos hc
    rw [h1, h2, h3]
    have p59 : Chn l ∧ rok l r := ⟨hc, hp.2⟩
    have p58 : rok (meV l) (rn (meV l)) ∧ nm l.length (meV l).length ∧ setsOk l.length (meV l).length (meV l) ∧ 1 ≤ (meV l).length ∧ reach l.length (meV l).length (meV l) := ⟨rn_rok _, me_nm hc, me_sets hc, me_pos hc, me_reach hc⟩
    refine body_s ([Ans.o (Orc.val 6 (AV.bool true) (H.mk [[I 0, I 0]] [] [])), Ans.o (Orc.val 12 (AV.sl (ints (meV l)) (meV l).length (rn (meV l))) (H.mk [[I 0, I 0]] [] [])), Ans.o (Orc.val 13 (AV.agg [I (lpV l.length (meV l).length (bS (meV l))).fst, I (lpV l.length (meV l).length (bS (meV l))).snd]) (H.mk [[I 0, I 0]] [] []))]) (aCall (Sof [c57.to, c59.to, c58.to]) (AV.fn (Fn.func (57 : Nat)) [] []) [AV.sl (ints l) l.length r] (H.mk [[I 0, I 0]] [] []) = some (AV.bool true, H.mk [[I 0, I 0]] [] []) ∧ aCall (Sof [c57.to, c59.to, c58.to]) (AV.fn (Fn.func (59 : Nat)) [] []) [AV.sl (ints l) l.length r] (H.mk [[I 0, I 0]] [] []) = some (AV.sl (ints (meV l)) (meV l).length (rn (meV l)), H.mk [[I 0, I 0]] [] []) ∧ aCall (Sof [c57.to, c59.to, c58.to]) (AV.fn (Fn.func (58 : Nat)) [] []) [I (↑l.length : Int), AV.sl (ints (meV l)) (meV l).length (rn (meV l))] (H.mk [[I 0, I 0]] [] []) = some (AV.agg [I (lpV l.length (meV l).length (bS (meV l))).fst, I (lpV l.length (meV l).length (bS (meV l))).snd], H.mk [[I 0, I 0]] [] []) ∧ (AV.tup [AV.agg [I (lpV l.length (meV l).length (bS (meV l))).snd, I (lpV l.length (meV l).length (bS (meV l))).fst], I 0], H.mk [] [] []) = (AV.tup [AV.agg [I (bkP l).snd, I (bkP l).fst], I 0], H.mk [] [] [])) (by kernel_rfl) ?_
    refine ⟨acall_b (acall_hit (c := c57.to) (l, r) _ rfl hp) hb, ?_⟩
    refine ⟨acall_hit (c := c59.to) (l, r) _ rfl p59, ?_⟩
    refine ⟨acall_hit (c := c58.to) (l.length, meV l, rn (meV l)) _ rfl p58, ?_⟩
    rfl
  · have hb : chB l = false := chB_f hc
    have h1 : bkN l = 0 := if_neg hc
    have h2 : bkD l = 0 := if_neg hc
    have h3 : bkE l = 2 := if_neg hc
    rw [h1, h2, h3]
    refine body_s ([Ans.o (Orc.val 6 (AV.bool false) (H.mk [[I 0, I 0]] [] []))]) (aCall (Sof [c57.to, c59.to, c58.to]) (AV.fn (Fn.func (57 : Nat)) [] []) [AV.sl (ints l) l.length r] (H.mk [[I 0, I 0]] [] []) = some (AV.bool false, H.mk [[I 0, I 0]] [] []) ∧ (AV.tup [AV.agg [I 0, I 0], I 2], H.mk [] [] []) = (AV.tup [AV.agg [I 0, I 0], I 2], H.mk [] [] [])) (by kernel_rfl) ?_
    refine ⟨acall_b (acall_hit (c := c57.to) (l, r) _ rfl hp) hb, ?_⟩
    rfl
noncomputable def c20 : PCtr Tryd.prog := sctr ok20 (X := List Int × Room) (fun x => [ls x.1 x.2]) (fun x => lim x.1.length ∧ rok x.1 x.2) (fun x => .tup [.agg [I (bkN x.1), I (bkD x.1)], I (bkE x.1)]) (by intro x y e _ _; simp at e; simp [e]) (fun x => by simp [AV.bnds, AV.bnd, AV.wk, rm_wk_bnd]) (fun x => by first | rfl | (simp [AV.bnd, rm_wk_bnd]; done)  | (simp [AV.bnd, AV.bnds, rm_wk_bnd]; done) | simp [AV.bnd, AV.bnds, Room.bnd, rm_wk_bnd]) (fun x hx => ⟨_, _, _, .pure c57 (.pure c59 (.pure c58 (.nil))), r20 (x.1) (x.2).wk (by first | exact hx | (simp only [rok_wk]; exact hx) | (simp only [rok_wk, lst_wk]; exact hx) | (simp only [rok_wk, lst_wk, lsn_wk]; exact hx))⟩)
theorem ok14 : FokM Tryd.prog none1 14 Tryd.f14 := ⟨mixed, by kernel_rfl, by kernel_rfl, by kernel_rfl, by kernel_rfl⟩
theorem r14b (l : List Int) (q : RK) (hp : pl l q) (hn : ¬ Chn (cut l)) : Body (En6 [c19.to, c20.to, c23.to]) none1 Tryd.f14 [ls l (rr q)] .nil (.bool true, .nil) := by
  have p19 := pl_19 hp
  have p20 := pl_c hp
  have e0 : bkE (cut l) = 2 := if_neg hn
  have e1 : bkE (cut l) ≠ 0 := by omega
  refine body_s ([Ans.o (Orc.val 14 (AV.sl (ints (cut l)) (cut l).length (rcl (rr q))) (H.mk [] [] [])), Ans.o (Orc.val 15 (AV.tup [AV.agg [I (bkN (cut l)), I (bkD (cut l))], I (bkE (cut l))]) (H.mk [] [] [])), Ans.o (Orc.b true), Ans.o (Orc.b true), Ans.o (Orc.val 28 (AV.bool true) (H.mk [[I (bkN (cut l)), I (bkD (cut l))]] [] []))]) (aCall (Sof [c19.to, c20.to, c23.to]) (AV.fn (Fn.func (19 : Nat)) [] []) [AV.sl (ints l) l.length (rr q)] (H.mk [] [] []) = some (AV.sl (ints (cut l)) (cut l).length (rcl (rr q)), H.mk [] [] []) ∧ aCall (Sof [c19.to, c20.to, c23.to]) (AV.fn (Fn.func (20 : Nat)) [] []) [AV.sl (ints (cut l)) (cut l).length (rcl (rr q))] (H.mk [] [] []) = some (AV.tup [AV.agg [I (bkN (cut l)), I (bkD (cut l))], I (bkE (cut l))], H.mk [] [] []) ∧ bkE (cut l) ≠ (0 : Int) ∧ bkE (cut l) = (2 : Int) ∧ aCall (Sof [c19.to, c20.to, c23.to]) (AV.fn (Fn.func (23 : Nat)) [] []) [] (H.mk [[I (bkN (cut l)), I (bkD (cut l))]] [] []) = some (AV.bool true, H.mk [[I (bkN (cut l)), I (bkD (cut l))]] [] []) ∧ (AV.bool true, H.mk [] [] []) = (AV.bool true, H.mk [] [] [])) (by kernel_rfl) ?_
  refine ⟨acall_hit (c := c19.to) (l, rr q) _ rfl p19, ?_⟩
  refine ⟨acall_hit (c := c20.to) (cut l, rcl (rr q)) _ rfl p20, ?_⟩
  refine ⟨by first | with_reducible assumption | omega | assumption, ?_⟩
  refine ⟨by first | with_reducible assumption | omega | assumption, ?_⟩
  refine ⟨acall_hit (c := c23.to) () _ rfl trivial, ?_⟩
  first | with_reducible rfl | (refine bleaf_t ?_; omega) | (refine bleaf_f ?_; omega) | (refine ileaf ?_; omega) | rfl | (exfalso; omega)
/-! all outputs at once -/
theorem simp14 : allSimpleM none1 (loopAt Tryd.f14 0) = true := by kernel_rfl
abbrev v14 (l : List Int) (r : Room) (c : AV) (j : Nat) : List AV := [ls l r, .ptr 0 0, I 0, c, I 0, I (alN l j : Nat), ls l r, I l.length, I (j : Nat)]
abbrev o14 (l : List Int) (r : Room) (c : AV) (a b : Int) : List Out := [.mk Unit (.exit 0) [0, 3, 6, 7, 8, 9] (fun _ => True) (fun _ => [ls l r, .ptr 0 0, I 0, c, I 0, I (alN l l.length : Nat)]) (fun _ => ⟨[[I a, I b]], [], []⟩) (fun _ => [])]
noncomputable abbrev E14 : Env := En6 [c19.to, c20.to, c21.to, c18.to, c28.to, c23.to]
theorem lp14 (l : List Int) (r : Room) (hc : Chn l) (hr : rok l r) (c : AV) (a b : Int) :
    LoopS E14 (loopAt Tryd.f14 0) 110 [0, 3, 6, 7, 8, 9, 41, 42, 43] (v14 l r c 0) ⟨[[I a, I b]], [], []⟩ (o14 l r c a b) := by
  have hR : Rests E14 none1 := rests mixed (.pure _ (.pure _ (.pure _ (.pure _ (.pure _ (.pure _ .nil))))))
  have h6 := hc.1.2
  refine loop_s hR simp14 none (by intro _ h; cases h) (fun j vs h => h = ⟨[[I a, I b]], [], []⟩ ∧ vs = v14 l r c j ∧ j ≤ l.length) l.length ⟨rfl, rfl, Nat.zero_le _⟩ (by intro _ h; cases h) ?_
  rintro j vs h hj ⟨rfl, rfl, hle⟩
  by_cases hz : (j : Int) < l.length
  · have hz' : j < l.length := by omega
    have hr' := rok_idx hr hz'
    have hb := hc.2 j hz'
    have ha := alN_lt l j
    have ev0 := i_andI (a := ((alN l j : Nat) : Int)) (b := at_ l j) (by omega) (by omega)
    rw [Int.toNat_natCast] at ev0
    have ev1 : IntKind.i64.wrap ((j : Int) + 1) = ((j + 1 : Nat) : Int) := by
      have : (j : Int) + 1 = ((j + 1 : Nat) : Int) := by omega
      rw [this]; exact i_wrap (by omega)
    refine ⟨[Ans.o (Orc.b true), Ans.o (Orc.val 45 (AV.cptr (ints (List.drop j l))) H.nil), Ans.o (Orc.val 46 (I (l.getD j i0)) H.nil), Ans.o (Orc.val 49 (I (↑(alN l j &&& (at_ l j).toNat) : Int)) H.nil), Ans.o (Orc.val 50 (I (↑(j + (1 : Nat)) : Int)) H.nil)], fun u => of_eq ((↑j : Int) < (↑l.length : Int) ∧ aIndexAddr Tryd.prog (22 : Nat) (AV.sl (ints l) l.length r) (I (↑j : Int)) = some (AV.cptr (ints (List.drop j l))) ∧ aLoad Tryd.prog (3 : Nat) (ints (List.drop j l)) = some (I (l.getD j i0)) ∧ aBin Tryd.prog BinOp.and (3 : Nat) (I (↑(alN l j) : Int)) (I (l.getD j i0)) = some (I (↑(alN l j &&& (at_ l j).toNat) : Int)) ∧ aBin Tryd.prog BinOp.add (3 : Nat) (I (↑j : Int)) (I 1) = some (I (↑(j + (1 : Nat)) : Int)) ∧ (110 : Nat) = (110 : Nat) ∧ j < l.length ∧ Keep (H.mk [[I a, I b]] [] [] = H.mk [[I a, I b]] [] [] ∧ [AV.sl (ints l) l.length r, AV.ptr 0 0, I 0, c, I 0, I (↑(alN l j &&& (at_ l j).toNat) : Int), AV.sl (ints l) l.length r, I (↑l.length : Int), I (↑(j + (1 : Nat)) : Int)] = [AV.sl (ints l) l.length r, AV.ptr 0 0, I 0, c, I 0, I (↑(alN l (j + (1 : Nat))) : Int), AV.sl (ints l) l.length r, I (↑l.length : Int), I (↑(j + (1 : Nat)) : Int)] ∧ j + (1 : Nat) ≤ l.length)) (by kernel_rfl) ?_⟩
    refine ⟨by first | with_reducible assumption | omega | assumption, ?_⟩
    refine ⟨by first | exact ix_ints (by kernel_rfl) (by omega) (by assumption) | exact ix_ints (by kernel_rfl) (by omega) (rok_idx (by assumption) (by omega)), ?_⟩
    refine ⟨by first | exact ld_ints (by kernel_rfl) (by kernel_rfl) (by omega) | exact ldm_ints (by kernel_rfl) (by kernel_rfl) (by first | omega | (simp; omega)), ?_⟩
    refine ⟨told_and (by with_reducible assumption), ?_⟩
    refine ⟨told_add (by with_reducible assumption), ?_⟩
    refine ⟨by first | with_reducible assumption | omega | assumption, ?_⟩
    refine ⟨by first | with_reducible assumption | omega | assumption, ?_⟩
    exact ⟨rfl, rfl, hz'⟩
  · have hz : (l.length : Int) ≤ j := by omega
    have e : j = l.length := by omega
    subst e
    refine ⟨[Ans.o (Orc.b false)], fun u => of_eq ((↑l.length : Int) ≤ (↑l.length : Int) ∧ (110 : Nat) = (110 : Nat) ∧ hits [Out.mk Unit (AX.exit (0 : Nat)) [(0 : Nat), (3 : Nat), (6 : Nat), (7 : Nat), (8 : Nat), (9 : Nat)] (fun x => True) (fun x => [ls l r, AV.ptr 0 0, I 0, c, I 0, I (↑(alN l l.length) : Int)]) (fun x => H.mk [[I a, I b]] [] []) fun x => []] (AX.exit (0 : Nat)) [AV.sl (ints l) l.length r, u (1 : Nat), u (2 : Nat), AV.ptr 0 0, u (4 : Nat), u (5 : Nat), I 0, c, I 0, I (↑(alN l l.length) : Int), u (10 : Nat), u (11 : Nat), u (12 : Nat), u (13 : Nat), u (14 : Nat), u (15 : Nat), u (16 : Nat), u (17 : Nat), u (18 : Nat), u (19 : Nat), u (20 : Nat), u (21 : Nat), u (22 : Nat), u (23 : Nat), u (24 : Nat), u (25 : Nat), u (26 : Nat), u (27 : Nat), u (28 : Nat), u (29 : Nat), u (30 : Nat), u (31 : Nat), u (32 : Nat), u (33 : Nat), u (34 : Nat), u (35 : Nat), u (36 : Nat), u (37 : Nat), u (38 : Nat), u (39 : Nat), u (40 : Nat), AV.sl (ints l) l.length r, I (↑l.length : Int), I (↑l.length : Int), AV.bool false, u (45 : Nat), u (46 : Nat), u (47 : Nat), u (48 : Nat), u (49 : Nat), u (50 : Nat), u (51 : Nat), u (52 : Nat), u (53 : Nat), u (54 : Nat), u (55 : Nat), u (56 : Nat), u (57 : Nat), u (58 : Nat), u (59 : Nat), u (60 : Nat), u (61 : Nat), u (62 : Nat), u (63 : Nat), u (64 : Nat), u (65 : Nat), u (66 : Nat), u (67 : Nat), u (68 : Nat), u (69 : Nat), u (70 : Nat), u (71 : Nat), u (72 : Nat), u (73 : Nat), u (74 : Nat), u (75 : Nat), u (76 : Nat), u (77 : Nat), u (78 : Nat), u (79 : Nat), u (80 : Nat), u (81 : Nat), u (82 : Nat), u (83 : Nat), u (84 : Nat), u (85 : Nat), u (86 : Nat), u (87 : Nat), u (88 : Nat), u (89 : Nat), u (90 : Nat), u (91 : Nat), u (92 : Nat), u (93 : Nat), u (94 : Nat), u (95 : Nat), u (96 : Nat), u (97 : Nat), u (98 : Nat), u (99 : Nat), u (100 : Nat), u (101 : Nat), u (102 : Nat), u (103 : Nat), u (104 : Nat), u (105 : Nat), u (106 : Nat), u (107 : Nat), u (108 : Nat), u (109 : Nat)] (H.mk [[I a, I b]] [] [])) (by kernel_rfl) ?_⟩
    refine ⟨by first | with_reducible assumption | omega | assumption, ?_⟩
    refine ⟨by first | with_reducible assumption | omega | assumption, ?_⟩
    exact .inl ⟨(), trivial, rfl, rfl, rfl⟩
structure Good14 (l : List Int) (q : RK) : Prop where
  p19 : lim l.length ∧ rok l (rr q) ∧ em l (rr q)
  p20 : lim (cut l).length ∧ rok (cut l) (rcl (rr q))
  p21 : lim l.length ∧ rok l (rr q)
  p18 : (lim (cut l).length ∧ rok (cut l) (rcl (rr q))) ∧ Chn (cut l)
  p28 : lim (cfV (cut l)).length ∧ rok (cfV (cut l)) .no
  b21 : chB l = true
  e : bkE (cut l) = 0
  rd : rdE (cfV (cut l)) 1 = 0
  n1 : 1 ≤ bkN (cut l)
  n2 : bkN (cut l) ≤ bkD (cut l)
  d1 : bkD (cut l) ≤ 720
  len : (l.length : Int) ≤ 6
  sum : bkD (cut l) ≤ bkN (cut l) * (l.length : Int)
  cd : ((coV (cfV (cut l)) 1).length : Int) * bkN (cut l) ≤ bkD (cut l)
  c0 : 0 ≤ ((coV (cfV (cut l)) 1).length : Int) * bkN (cut l)
  lp : LoopS E14 (loopAt Tryd.f14 0) 110 [0, 3, 6, 7, 8, 9, 41, 42, 43] (v14 l (rr q) (ls (coV (cfV (cut l)) 1) (rn (coV (cfV (cut l)) 1))) 0) ⟨[[I (bkN (cut l)), I (bkD (cut l))]], [], []⟩ (o14 l (rr q) (ls (coV (cfV (cut l)) 1) (rn (coV (cfV (cut l)) 1))) (bkN (cut l)) (bkD (cut l)))
theorem good14 {l : List Int} {q : RK} (hp : pl l q) (hc : Chn (cut l)) : Good14 l q ∧ Chn l ∧ cut l = l ∧ (bkD (cut l) = bkN (cut l) → bkN (cut l) = 1 ∧ bkD (cut l) = 1 ∧ ((alN l l.length : Nat) : Int) ≠ 0) ∧ (bkD (cut l) ≠ bkN (cut l) → ((alN l l.length : Nat) : Int) = 0) := by
  have hcut : cut l = l := cut_g5 hc.1
  have hcl : Chn l := hcut ▸ hc
  have h1 : bkN (cut l) = (bkP l).2 := by rw [hcut]; exact if_pos hcl
  have h2 : bkD (cut l) = (bkP l).1 := by rw [hcut]; exact if_pos hcl
  have h3 : bkE (cut l) = 0 := if_pos hc
  obtain ⟨_, a1, a2, a3, a4, a5⟩ := bk_ok hcl
  have hg := cf_gr hc
  have one := bk_one hcl
  have eq1 := bk_eq1 hcl
  have ne := alN_ne (l := l)
  have h6 := hcl.1.2
  have code := bk_code hcl
  refine ⟨⟨pl_19 hp, pl_c hp, ⟨hp.1, pl_rok hp⟩, ⟨pl_c hp, hc⟩, ⟨by rw [cfV_len]; exact (pl_c hp).1, fun _ => no_ne⟩, chB_t hcl, h3, rd_oneb hg, by omega, by omega, by omega, by omega, ?_, ?_, ?_, ?_⟩, hcl, hcut, ?_, ?_⟩
  · rw [h1, h2, Int.mul_comm]; exact a4
  · rw [co_oneb hg, h1, h2, hcut]; exact code
  · exact Int.mul_nonneg (by omega) (by omega)
  · exact lp14 l (rr q) hcl (pl_rok hp) _ _ _
  · intro e
    rw [h1, h2] at e
    obtain ⟨e1, e2⟩ := eq1 e
    have := ne.2 (one.1 e)
    exact ⟨by omega, by omega, by omega⟩
  · intro e
    rw [h1, h2] at e
    have : ¬ alN l l.length ≠ 0 := fun h => e (one.2 (ne.1 h))
    omega
noncomputable abbrev vr14 (l : List Int) (q : RK) : List AV := [ls l (rr q), .ptr 0 0, I 0, ls (coV (cfV (cut l)) 1) (rn (coV (cfV (cut l)) 1)), I (rdE (cfV (cut l)) 1), I 255, ls l (rr q), I l.length, I 0]
theorem r14e (l : List Int) (q : RK) (h : Good14 l q) (hN : bkN (cut l) = 1) (hD : bkD (cut l) = 1) (ha : ((alN l l.length : Nat) : Int) ≠ 0) : Body E14 none1 Tryd.f14 [ls l (rr q)] .nil (.bool true, .nil) := by
  obtain ⟨p19, p20, p21, p18, p28, b21, e, rd, n1, n2, d1, len, sum, cd, c0, lp⟩ := h
  rw [hN] at n1 n2 sum cd c0 lp
  rw [hD] at n2 d1 sum cd lp
  have lp' : LoopS E14 (loopAt Tryd.f14 0) 110 [0, 3, 6, 7, 8, 9, 41, 42, 43] (vr14 l q) ⟨[[I (bkN (cut l)), I (bkD (cut l))]], [], []⟩ (o14 l (rr q) (ls (coV (cfV (cut l)) 1) (rn (coV (cfV (cut l)) 1))) 1 1) := by
    simp only [vr14]
    rw [rd, hN, hD]; exact lp
  have l1 : 1 ≤ (l.length : Int) := by omega
  have ev0 : IntKind.i64.wrap (1 * (l.length : Int)) = (l.length : Int) := by rw [Int.one_mul]; exact wr _ (by omega) (by omega)
  have ev1 : IntKind.i64.wrap (((coV (cfV (cut l)) 1).length : Int) * 1) = ((coV (cfV (cut l)) 1).length : Int) := by rw [Int.mul_one]; exact wr _ (by omega) (by omega)
  rw [Int.mul_one] at cd
  refine body_s ([Ans.o (Orc.val 14 (AV.sl (ints (cut l)) (cut l).length (rcl (rr q))) (H.mk [] [] [])), Ans.o (Orc.val 15 (AV.tup [AV.agg [I (bkN (cut l)), I (bkD (cut l))], I (bkE (cut l))]) (H.mk [] [] [])), Ans.o (Orc.b false), Ans.o (Orc.val 22 (AV.bool true) (H.mk [[I (bkN (cut l)), I (bkD (cut l))]] [] [])), Ans.o (Orc.val 32 (AV.sl (ints (cut l)) (cut l).length (rcl (rr q))) (H.mk [[I (bkN (cut l)), I (bkD (cut l))]] [] [])), Ans.o (Orc.val 33 (AV.tup [AV.sl (ints (cfV (cut l))) (cfV (cut l)).length Room.no, I 0]) (H.mk [[I (bkN (cut l)), I (bkD (cut l))]] [] [])), Ans.o (Orc.val 38 (AV.tup [AV.sl (ints (coV (cfV (cut l)) (1 : Int))) (coV (cfV (cut l)) (1 : Int)).length (rn (coV (cfV (cut l)) (1 : Int))), I (rdE (cfV (cut l)) (1 : Int))]) (H.mk [[I (bkN (cut l)), I (bkD (cut l))]] [] [])), Ans.loop [(0 : Nat), (3 : Nat), (6 : Nat), (7 : Nat), (8 : Nat), (9 : Nat), (41 : Nat), (42 : Nat), (43 : Nat)] [Out.mk Unit (AX.exit (0 : Nat)) [(0 : Nat), (3 : Nat), (6 : Nat), (7 : Nat), (8 : Nat), (9 : Nat)] (fun x => True) (fun x => [ls l (rr q), AV.ptr 0 0, I 0, ls (coV (cfV (cut l)) (1 : Int)) (rn (coV (cfV (cut l)) (1 : Int))), I 0, I (↑(alN l l.length) : Int)]) (fun x => H.mk [[I 1, I 1]] [] []) fun y => [Ans.o Orc.dflt, Ans.o Orc.dflt, Ans.o Orc.dflt, Ans.o Orc.dflt, Ans.o Orc.dflt, Ans.o Orc.dflt, Ans.o (Orc.val 84 (I (↑l.length : Int)) H.nil), Ans.o (Orc.b true), Ans.o (Orc.b true), Ans.o (Orc.val 102 (I (↑(coV (cfV (cut l)) (1 : Int)).length : Int)) H.nil), Ans.o (Orc.b true), Ans.o (Orc.val 108 (AV.bool true) (H.mk [[I 1, I 1]] [] []))]]]) (aCall (Sof [c19.to, c20.to, c21.to, c18.to, c28.to, c23.to]) (AV.fn (Fn.func (19 : Nat)) [] []) [AV.sl (ints l) l.length (rr q)] (H.mk [] [] []) = some (AV.sl (ints (cut l)) (cut l).length (rcl (rr q)), H.mk [] [] []) ∧ aCall (Sof [c19.to, c20.to, c21.to, c18.to, c28.to, c23.to]) (AV.fn (Fn.func (20 : Nat)) [] []) [AV.sl (ints (cut l)) (cut l).length (rcl (rr q))] (H.mk [] [] []) = some (AV.tup [AV.agg [I (bkN (cut l)), I (bkD (cut l))], I (bkE (cut l))], H.mk [] [] []) ∧ bkE (cut l) = (0 : Int) ∧ aCall (Sof [c19.to, c20.to, c21.to, c18.to, c28.to, c23.to]) (AV.fn (Fn.func (21 : Nat)) [] []) [AV.sl (ints l) l.length (rr q)] (H.mk [[I (bkN (cut l)), I (bkD (cut l))]] [] []) = some (AV.bool true, H.mk [[I (bkN (cut l)), I (bkD (cut l))]] [] []) ∧ aCall (Sof [c19.to, c20.to, c21.to, c18.to, c28.to, c23.to]) (AV.fn (Fn.func (19 : Nat)) [] []) [AV.sl (ints l) l.length (rr q)] (H.mk [[I (bkN (cut l)), I (bkD (cut l))]] [] []) = some (AV.sl (ints (cut l)) (cut l).length (rcl (rr q)), H.mk [[I (bkN (cut l)), I (bkD (cut l))]] [] []) ∧ aCall (Sof [c19.to, c20.to, c21.to, c18.to, c28.to, c23.to]) (AV.fn (Fn.func (18 : Nat)) [] []) [AV.sl (ints (cut l)) (cut l).length (rcl (rr q))] (H.mk [[I (bkN (cut l)), I (bkD (cut l))]] [] []) = some (AV.tup [AV.sl (ints (cfV (cut l))) (cfV (cut l)).length Room.no, I 0], H.mk [[I (bkN (cut l)), I (bkD (cut l))]] [] []) ∧ aCall (Sof [c19.to, c20.to, c21.to, c18.to, c28.to, c23.to]) (AV.fn (Fn.func (28 : Nat)) [] []) [AV.sl (ints (cfV (cut l))) (cfV (cut l)).length Room.no, I 1] (H.mk [[I (bkN (cut l)), I (bkD (cut l))]] [] []) = some (AV.tup [AV.sl (ints (coV (cfV (cut l)) (1 : Int))) (coV (cfV (cut l)) (1 : Int)).length (rn (coV (cfV (cut l)) (1 : Int))), I (rdE (cfV (cut l)) (1 : Int))], H.mk [[I (bkN (cut l)), I (bkD (cut l))]] [] []) ∧ LoopS (Env.mk Tryd.prog (Sof [c19.to, c20.to, c21.to, c18.to, c28.to, c23.to]) (Pof (P := Tryd.prog) []) H.nil.base (300 : Nat)) (loopAt Tryd.f14 (0 : Nat)) (110 : Nat) [(0 : Nat), (3 : Nat), (6 : Nat), (7 : Nat), (8 : Nat), (9 : Nat), (41 : Nat), (42 : Nat), (43 : Nat)] [AV.sl (ints l) l.length (rr q), AV.ptr 0 0, I 0, AV.sl (ints (coV (cfV (cut l)) (1 : Int))) (coV (cfV (cut l)) (1 : Int)).length (rn (coV (cfV (cut l)) (1 : Int))), I (rdE (cfV (cut l)) (1 : Int)), I 255, AV.sl (ints l) l.length (rr q), I (↑l.length : Int), I 0] (H.mk [[I (bkN (cut l)), I (bkD (cut l))]] [] []) [Out.mk Unit (AX.exit (0 : Nat)) [(0 : Nat), (3 : Nat), (6 : Nat), (7 : Nat), (8 : Nat), (9 : Nat)] (fun x => True) (fun x => [ls l (rr q), AV.ptr 0 0, I 0, ls (coV (cfV (cut l)) (1 : Int)) (rn (coV (cfV (cut l)) (1 : Int))), I 0, I (↑(alN l l.length) : Int)]) (fun x => H.mk [[I 1, I 1]] [] []) fun y => [Ans.o Orc.dflt, Ans.o Orc.dflt, Ans.o Orc.dflt, Ans.o Orc.dflt, Ans.o Orc.dflt, Ans.o Orc.dflt, Ans.o (Orc.val 84 (I (↑l.length : Int)) H.nil), Ans.o (Orc.b true), Ans.o (Orc.b true), Ans.o (Orc.val 102 (I (↑(coV (cfV (cut l)) (1 : Int)).length : Int)) H.nil), Ans.o (Orc.b true), Ans.o (Orc.val 108 (AV.bool true) (H.mk [[I 1, I 1]] [] []))]] ∧ (∀ (y : Unit), True → ∀ (u : Nat → AV), aBin Tryd.prog BinOp.mul (3 : Nat) (I 1) (I (↑l.length : Int)) = some (I (↑l.length : Int)) ∧ (1 : Int) ≤ (↑l.length : Int) ∧ (↑(alN l l.length) : Int) ≠ (0 : Int) ∧ aBin Tryd.prog BinOp.mul (3 : Nat) (I (↑(coV (cfV (cut l)) (1 : Int)).length : Int)) (I 1) = some (I (↑(coV (cfV (cut l)) (1 : Int)).length : Int)) ∧ (↑(coV (cfV (cut l)) (1 : Int)).length : Int) ≤ (1 : Int) ∧ aCall (Sof [c19.to, c20.to, c21.to, c18.to, c28.to, c23.to]) (AV.fn (Fn.func (23 : Nat)) [] []) [] (H.mk [[I 1, I 1]] [] []) = some (AV.bool true, H.mk [[I 1, I 1]] [] []) ∧ (AV.bool true, H.mk [] [] []) = (AV.bool true, H.mk [] [] [])) ∧ True) (by kernel_rfl) ?_
  refine ⟨acall_hit (c := c19.to) (l, rr q) _ rfl p19, ?_⟩
  refine ⟨acall_hit (c := c20.to) (cut l, rcl (rr q)) _ rfl p20, ?_⟩
  refine ⟨by first | with_reducible assumption | omega | assumption, ?_⟩
  refine ⟨acall_b (acall_hit (c := c21.to) (l, rr q) _ rfl p21) b21, ?_⟩
  refine ⟨acall_hit (c := c19.to) (l, rr q) _ rfl p19, ?_⟩
  refine ⟨acall_hit (c := c18.to) (cut l, rcl (rr q)) _ rfl p18, ?_⟩
  refine ⟨acall_hit (c := c28.to) (cfV (cut l), .no, 1) _ rfl p28, ?_⟩
  refine ⟨lp', ?_⟩
  refine And.intro ?_ ?_
  · skip
    intro y
    intro w1
    intro u
    refine ⟨told_mul (by with_reducible assumption), ?_⟩
    refine ⟨by first | with_reducible assumption | omega | assumption, ?_⟩
    refine ⟨by first | with_reducible assumption | omega | assumption, ?_⟩
    refine ⟨told_mul (by with_reducible assumption), ?_⟩
    refine ⟨by first | with_reducible assumption | omega | assumption, ?_⟩
    refine ⟨acall_hit (c := c23.to) () _ rfl trivial, ?_⟩
    first | with_reducible rfl | (refine bleaf_t ?_; omega) | (refine bleaf_f ?_; omega) | (refine ileaf ?_; omega) | rfl | (exfalso; omega)
  · skip
    trivial
theorem r14n (l : List Int) (q : RK) (h : Good14 l q) (hN : bkD (cut l) ≠ bkN (cut l)) (ha : ((alN l l.length : Nat) : Int) = 0) : Body E14 none1 Tryd.f14 [ls l (rr q)] .nil (.bool true, .nil) := by
  obtain ⟨p19, p20, p21, p18, p28, b21, e, rd, n1, n2, d1, len, sum, cd, c0, lp⟩ := h
  have lp' : LoopS E14 (loopAt Tryd.f14 0) 110 [0, 3, 6, 7, 8, 9, 41, 42, 43] (vr14 l q) ⟨[[I (bkN (cut l)), I (bkD (cut l))]], [], []⟩ (o14 l (rr q) (ls (coV (cfV (cut l)) 1) (rn (coV (cfV (cut l)) 1))) (bkN (cut l)) (bkD (cut l))) := by
    simp only [vr14]
    rw [rd]; exact lp
  have hD1 : bkD (cut l) ≠ 1 := by omega
  have hb : (bkN (cut l) == 1 && (bkD (cut l) == 1 && true)) = false := by simp [hD1]
  have d2 : 1 ≤ bkD (cut l) := by omega
  have d3 : bkD (cut l) ≤ 1000 := by omega
  have s1 : bkN (cut l) * (l.length : Int) ≤ 4320 := by
    have h1 := Int.mul_le_mul_of_nonneg_left len (show 0 ≤ bkN (cut l) by omega)
    omega
  have ev0 : IntKind.i64.wrap (bkN (cut l) * (l.length : Int)) = bkN (cut l) * (l.length : Int) := wr _ (by omega) (by omega)
  have ev1 : IntKind.i64.wrap (((coV (cfV (cut l)) 1).length : Int) * bkN (cut l)) = ((coV (cfV (cut l)) 1).length : Int) * bkN (cut l) := wr _ (by omega) (by omega)
  refine body_s ([Ans.o (Orc.val 14 (AV.sl (ints (cut l)) (cut l).length (rcl (rr q))) (H.mk [] [] [])), Ans.o (Orc.val 15 (AV.tup [AV.agg [I (bkN (cut l)), I (bkD (cut l))], I (bkE (cut l))]) (H.mk [] [] [])), Ans.o (Orc.b false), Ans.o (Orc.val 22 (AV.bool true) (H.mk [[I (bkN (cut l)), I (bkD (cut l))]] [] [])), Ans.o (Orc.val 32 (AV.sl (ints (cut l)) (cut l).length (rcl (rr q))) (H.mk [[I (bkN (cut l)), I (bkD (cut l))]] [] [])), Ans.o (Orc.val 33 (AV.tup [AV.sl (ints (cfV (cut l))) (cfV (cut l)).length Room.no, I 0]) (H.mk [[I (bkN (cut l)), I (bkD (cut l))]] [] [])), Ans.o (Orc.val 38 (AV.tup [AV.sl (ints (coV (cfV (cut l)) (1 : Int))) (coV (cfV (cut l)) (1 : Int)).length (rn (coV (cfV (cut l)) (1 : Int))), I (rdE (cfV (cut l)) (1 : Int))]) (H.mk [[I (bkN (cut l)), I (bkD (cut l))]] [] [])), Ans.loop [(0 : Nat), (3 : Nat), (6 : Nat), (7 : Nat), (8 : Nat), (9 : Nat), (41 : Nat), (42 : Nat), (43 : Nat)] [Out.mk Unit (AX.exit (0 : Nat)) [(0 : Nat), (3 : Nat), (6 : Nat), (7 : Nat), (8 : Nat), (9 : Nat)] (fun x => True) (fun x => [ls l (rr q), AV.ptr 0 0, I 0, ls (coV (cfV (cut l)) (1 : Int)) (rn (coV (cfV (cut l)) (1 : Int))), I 0, I (↑(alN l l.length) : Int)]) (fun x => H.mk [[I (bkN (cut l)), I (bkD (cut l))]] [] []) fun y => [Ans.o Orc.dflt, Ans.o Orc.dflt, Ans.o (Orc.b true), Ans.o (Orc.b true), Ans.o (Orc.b true), Ans.o (Orc.b true), Ans.o (Orc.val 84 (I (bkN (cut l) * (↑l.length : Int))) H.nil), Ans.o (Orc.b true), Ans.btold (92 : Nat) false, Ans.o (Orc.b false), Ans.o (Orc.val 102 (I ((↑(coV (cfV (cut l)) (1 : Int)).length : Int) * bkN (cut l))) H.nil), Ans.o (Orc.b true), Ans.o (Orc.val 108 (AV.bool true) (H.mk [[I (bkN (cut l)), I (bkD (cut l))]] [] []))]]]) (aCall (Sof [c19.to, c20.to, c21.to, c18.to, c28.to, c23.to]) (AV.fn (Fn.func (19 : Nat)) [] []) [AV.sl (ints l) l.length (rr q)] (H.mk [] [] []) = some (AV.sl (ints (cut l)) (cut l).length (rcl (rr q)), H.mk [] [] []) ∧ aCall (Sof [c19.to, c20.to, c21.to, c18.to, c28.to, c23.to]) (AV.fn (Fn.func (20 : Nat)) [] []) [AV.sl (ints (cut l)) (cut l).length (rcl (rr q))] (H.mk [] [] []) = some (AV.tup [AV.agg [I (bkN (cut l)), I (bkD (cut l))], I (bkE (cut l))], H.mk [] [] []) ∧ bkE (cut l) = (0 : Int) ∧ aCall (Sof [c19.to, c20.to, c21.to, c18.to, c28.to, c23.to]) (AV.fn (Fn.func (21 : Nat)) [] []) [AV.sl (ints l) l.length (rr q)] (H.mk [[I (bkN (cut l)), I (bkD (cut l))]] [] []) = some (AV.bool true, H.mk [[I (bkN (cut l)), I (bkD (cut l))]] [] []) ∧ aCall (Sof [c19.to, c20.to, c21.to, c18.to, c28.to, c23.to]) (AV.fn (Fn.func (19 : Nat)) [] []) [AV.sl (ints l) l.length (rr q)] (H.mk [[I (bkN (cut l)), I (bkD (cut l))]] [] []) = some (AV.sl (ints (cut l)) (cut l).length (rcl (rr q)), H.mk [[I (bkN (cut l)), I (bkD (cut l))]] [] []) ∧ aCall (Sof [c19.to, c20.to, c21.to, c18.to, c28.to, c23.to]) (AV.fn (Fn.func (18 : Nat)) [] []) [AV.sl (ints (cut l)) (cut l).length (rcl (rr q))] (H.mk [[I (bkN (cut l)), I (bkD (cut l))]] [] []) = some (AV.tup [AV.sl (ints (cfV (cut l))) (cfV (cut l)).length Room.no, I 0], H.mk [[I (bkN (cut l)), I (bkD (cut l))]] [] []) ∧ aCall (Sof [c19.to, c20.to, c21.to, c18.to, c28.to, c23.to]) (AV.fn (Fn.func (28 : Nat)) [] []) [AV.sl (ints (cfV (cut l))) (cfV (cut l)).length Room.no, I 1] (H.mk [[I (bkN (cut l)), I (bkD (cut l))]] [] []) = some (AV.tup [AV.sl (ints (coV (cfV (cut l)) (1 : Int))) (coV (cfV (cut l)) (1 : Int)).length (rn (coV (cfV (cut l)) (1 : Int))), I (rdE (cfV (cut l)) (1 : Int))], H.mk [[I (bkN (cut l)), I (bkD (cut l))]] [] []) ∧ LoopS (Env.mk Tryd.prog (Sof [c19.to, c20.to, c21.to, c18.to, c28.to, c23.to]) (Pof (P := Tryd.prog) []) H.nil.base (300 : Nat)) (loopAt Tryd.f14 (0 : Nat)) (110 : Nat) [(0 : Nat), (3 : Nat), (6 : Nat), (7 : Nat), (8 : Nat), (9 : Nat), (41 : Nat), (42 : Nat), (43 : Nat)] [AV.sl (ints l) l.length (rr q), AV.ptr 0 0, I 0, AV.sl (ints (coV (cfV (cut l)) (1 : Int))) (coV (cfV (cut l)) (1 : Int)).length (rn (coV (cfV (cut l)) (1 : Int))), I (rdE (cfV (cut l)) (1 : Int)), I 255, AV.sl (ints l) l.length (rr q), I (↑l.length : Int), I 0] (H.mk [[I (bkN (cut l)), I (bkD (cut l))]] [] []) [Out.mk Unit (AX.exit (0 : Nat)) [(0 : Nat), (3 : Nat), (6 : Nat), (7 : Nat), (8 : Nat), (9 : Nat)] (fun x => True) (fun x => [ls l (rr q), AV.ptr 0 0, I 0, ls (coV (cfV (cut l)) (1 : Int)) (rn (coV (cfV (cut l)) (1 : Int))), I 0, I (↑(alN l l.length) : Int)]) (fun x => H.mk [[I (bkN (cut l)), I (bkD (cut l))]] [] []) fun y => [Ans.o Orc.dflt, Ans.o Orc.dflt, Ans.o (Orc.b true), Ans.o (Orc.b true), Ans.o (Orc.b true), Ans.o (Orc.b true), Ans.o (Orc.val 84 (I (bkN (cut l) * (↑l.length : Int))) H.nil), Ans.o (Orc.b true), Ans.btold (92 : Nat) false, Ans.o (Orc.b false), Ans.o (Orc.val 102 (I ((↑(coV (cfV (cut l)) (1 : Int)).length : Int) * bkN (cut l))) H.nil), Ans.o (Orc.b true), Ans.o (Orc.val 108 (AV.bool true) (H.mk [[I (bkN (cut l)), I (bkD (cut l))]] [] []))]] ∧ (∀ (y : Unit), True → ∀ (u : Nat → AV), (1 : Int) ≤ bkD (cut l) ∧ bkD (cut l) ≤ (1000 : Int) ∧ (1 : Int) ≤ bkN (cut l) ∧ bkN (cut l) ≤ bkD (cut l) ∧ aBin Tryd.prog BinOp.mul (3 : Nat) (I (bkN (cut l))) (I (↑l.length : Int)) = some (I (bkN (cut l) * (↑l.length : Int))) ∧ bkD (cut l) ≤ bkN (cut l) * (↑l.length : Int) ∧ (bkN (cut l) == (1 : Int) && (bkD (cut l) == (1 : Int) && true)) = false ∧ (↑(alN l l.length) : Int) = (0 : Int) ∧ aBin Tryd.prog BinOp.mul (3 : Nat) (I (↑(coV (cfV (cut l)) (1 : Int)).length : Int)) (I (bkN (cut l))) = some (I ((↑(coV (cfV (cut l)) (1 : Int)).length : Int) * bkN (cut l))) ∧ (↑(coV (cfV (cut l)) (1 : Int)).length : Int) * bkN (cut l) ≤ bkD (cut l) ∧ aCall (Sof [c19.to, c20.to, c21.to, c18.to, c28.to, c23.to]) (AV.fn (Fn.func (23 : Nat)) [] []) [] (H.mk [[I (bkN (cut l)), I (bkD (cut l))]] [] []) = some (AV.bool true, H.mk [[I (bkN (cut l)), I (bkD (cut l))]] [] []) ∧ (AV.bool true, H.mk [] [] []) = (AV.bool true, H.mk [] [] [])) ∧ True) (by kernel_rfl) ?_
  refine ⟨acall_hit (c := c19.to) (l, rr q) _ rfl p19, ?_⟩
  refine ⟨acall_hit (c := c20.to) (cut l, rcl (rr q)) _ rfl p20, ?_⟩
  refine ⟨by first | with_reducible assumption | omega | assumption, ?_⟩
  refine ⟨acall_b (acall_hit (c := c21.to) (l, rr q) _ rfl p21) b21, ?_⟩
  refine ⟨acall_hit (c := c19.to) (l, rr q) _ rfl p19, ?_⟩
  refine ⟨acall_hit (c := c18.to) (cut l, rcl (rr q)) _ rfl p18, ?_⟩
  refine ⟨acall_hit (c := c28.to) (cfV (cut l), .no, 1) _ rfl p28, ?_⟩
  refine ⟨lp', ?_⟩
  refine And.intro ?_ ?_
  · skip
    intro y
    intro w1
    intro u
    refine ⟨by first | with_reducible assumption | omega | assumption, ?_⟩
    refine ⟨by first | with_reducible assumption | omega | assumption, ?_⟩
    refine ⟨by first | with_reducible assumption | omega | assumption, ?_⟩
    refine ⟨by first | with_reducible assumption | omega | assumption, ?_⟩
    refine ⟨told_mul (by with_reducible assumption), ?_⟩
    refine ⟨by first | with_reducible assumption | omega | assumption, ?_⟩
    refine ⟨by first | with_reducible assumption | omega | assumption, ?_⟩
    refine ⟨by first | with_reducible assumption | omega | assumption, ?_⟩
    refine ⟨told_mul (by with_reducible assumption), ?_⟩
    refine ⟨by first | with_reducible assumption | omega | assumption, ?_⟩
    refine ⟨acall_hit (c := c23.to) () _ rfl trivial, ?_⟩
    first | with_reducible rfl | (refine bleaf_t ?_; omega) | (refine bleaf_f ?_; omega) | (refine ileaf ?_; omega) | rfl | (exfalso; omega)
  · skip
    trivial
theorem back_ok (l : List Int) (q : RK) (h1 : lim l.length) (h2 : q.mt = true → l = []) : CallOk Tryd.prog 14 [ls l (rr q)] .nil (.bool true) .nil := by
  have hp : pl l q := ⟨h1, h2⟩
  by_cases hc : Chn (cut l)
  · obtain ⟨hG, _, _, h3, h4⟩ := good14 hp hc
    by_cases e : bkD (cut l) = bkN (cut l)
    · obtain ⟨e1, e2, e3⟩ := h3 e
      exact (r14e l q hG e1 e2 e3).run ok14 (.pure _ (.pure _ (.pure _ (.pure _ (.pure _ (.pure _ .nil)))))) rfl
    · exact (r14n l q hG e (h4 e)).run ok14 (.pure _ (.pure _ (.pure _ (.pure _ (.pure _ (.pure _ .nil)))))) rfl
  · exact (r14b l q hp hc).run ok14 (.pure _ (.pure _ (.pure _ .nil))) rfl
end Go.Proofs.Sur

