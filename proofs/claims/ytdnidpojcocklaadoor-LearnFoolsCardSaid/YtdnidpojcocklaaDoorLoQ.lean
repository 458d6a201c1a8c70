/- Layer 4: the law of fools, as a whole. -/
import Derived.Test.YtdnidpojcocklaaDoorLoO
import Derived.KernelRfl
set_option linter.unusedSimpArgs false
set_option linter.unusedVariables false
set_option linter.unnecessarySimpa false
set_option maxHeartbeats 4000000
set_option maxRecDepth 100000
namespace Go.Proofs.Lrn
open Go Go.VM
theorem ok25b : FokM Tryd.prog none1 25 Tryd.f25 := ⟨mixed, by kernel_rfl, by kernel_rfl, by kernel_rfl, by kernel_rfl⟩
theorem r25b (p : Int) (l : List Int) (r : Room) (hp : (lim l.length ∧ rok l r) ∧ ¬ cls p l) : Body ⟨Tryd.prog, Sof (P := Tryd.prog) [b52b.to], Pof (P := Tryd.prog) [], H.nil.base, 300⟩ none1 Tryd.f25 [I p, ls l r] .nil (.tup [.sl [] 0 .nil, I 2], .nil) := by
  refine body_s ([Ans.o (Orc.val 11 (AV.tup [AV.agg [I 0, AV.int IntKind.u32 (0 : Int)], AV.bool false]) (H.mk [] [] []))]) (aCall (Sof [b52b.to]) (AV.fn (Fn.func (52 : Nat)) [] []) [I p, AV.sl (ints l) l.length r] (H.mk [] [] []) = some (AV.tup [AV.agg [I 0, AV.int IntKind.u32 (0 : Int)], AV.bool false], H.mk [] [] []) ∧ (AV.tup [AV.sl [] (0 : Nat) Room.nil, I 2], H.mk [] [] []) = (AV.tup [AV.sl [] (0 : Nat) Room.nil, I 2], H.mk [] [] [])) (by kernel_rfl) ?_
  refine ⟨acall_hit (c := b52b.to) (p, l, r) _ rfl hp, ?_⟩
  first | with_reducible rfl | (refine bleaf_t ?_; omega) | (refine bleaf_f ?_; omega) | (refine ileaf ?_; omega) | rfl | (exfalso; omega)
noncomputable def c25b : PCtr Tryd.prog := sctr ok25b (X := Int × List Int × Room) (fun x => [I x.1, ls x.2.1 x.2.2]) (fun x => (lim x.2.1.length ∧ rok x.2.1 x.2.2) ∧ ¬ cls x.1 x.2.1) (fun x => .tup [.sl [] 0 .nil, I 2]) (by intro x y e _ _; simp [Int.natCast_inj] at e; simp [e]) (fun x => by simp [AV.bnds, AV.bnd, AV.wk, rm_wk_bnd]) (fun x => by first | rfl | (simp [AV.bnd, rm_wk_bnd]; done)  | (simp [AV.bnd, AV.bnds, rm_wk_bnd]; done) | simp [AV.bnd, AV.bnds, Room.bnd, rm_wk_bnd]) (fun x hx => ⟨_, _, _, .pure b52b (.nil), r25b (x.1) (x.2.1) (x.2.2).wk (by first | exact hx | (simp only [rok_wk]; exact hx) | (simp only [rok_wk, lst_wk]; exact hx) | (simp only [rok_wk, lst_wk, lsn_wk]; exact hx))⟩)
theorem ok11 : FokM Tryd.prog none1 11 Tryd.f11 := ⟨mixed, by kernel_rfl, by kernel_rfl, by kernel_rfl, by kernel_rfl⟩
theorem r11b (p : Int) (l : List Int) (q : RK) (sd cn : Int) (pts : AV) (hl : pl l q) (hn : ¬ cls p l) : Body (En5 [b17.to, c25b.to, b24b.to, b21.to]) none1 Tryd.f11 [I p, ls l (rr q), I sd, pts, I cn] .nil (.bool true, .nil) := by
  have z0 : (lim (cut l).length ∧ rok (cut l) (rr q.cl)) ∧ ¬ cls p (cut l) := ⟨⟨cut_lim l, cl_rok hl.2⟩, fun h => hn (cut_cls.1 h)⟩
  refine body_s ([Ans.o (Orc.val 29 (AV.sl (ints (cut l)) (cut l).length (rr q.cl)) (H.mk [] [] [])), Ans.o (Orc.val 30 (AV.tup [AV.sl [] (0 : Nat) Room.nil, I 2]) (H.mk [] [] [])), Ans.o (Orc.val 36 (AV.sl (ints (cut l)) (cut l).length (rr q.cl)) (H.mk [] [] [])), Ans.o (Orc.val 37 (AV.tup [I 0, I 2]) (H.mk [] [] [])), Ans.o Orc.dflt, Ans.o Orc.dflt, Ans.o Orc.dflt, Ans.o (Orc.val 55 (AV.bool true) (H.mk [] [] []))]) (aCall (Sof [b17.to, c25b.to, b24b.to, b21.to]) (AV.fn (Fn.func (17 : Nat)) [] []) [AV.sl (ints l) l.length (rr q)] (H.mk [] [] []) = some (AV.sl (ints (cut l)) (cut l).length (rr q.cl), H.mk [] [] []) ∧ aCall (Sof [b17.to, c25b.to, b24b.to, b21.to]) (AV.fn (Fn.func (25 : Nat)) [] []) [I p, AV.sl (ints (cut l)) (cut l).length (rr q.cl)] (H.mk [] [] []) = some (AV.tup [AV.sl [] (0 : Nat) Room.nil, I 2], H.mk [] [] []) ∧ aCall (Sof [b17.to, c25b.to, b24b.to, b21.to]) (AV.fn (Fn.func (17 : Nat)) [] []) [AV.sl (ints l) l.length (rr q)] (H.mk [] [] []) = some (AV.sl (ints (cut l)) (cut l).length (rr q.cl), H.mk [] [] []) ∧ aCall (Sof [b17.to, c25b.to, b24b.to, b21.to]) (AV.fn (Fn.func (24 : Nat)) [] []) [I p, AV.sl (ints (cut l)) (cut l).length (rr q.cl)] (H.mk [] [] []) = some (AV.tup [I 0, I 2], H.mk [] [] []) ∧ aCall (Sof [b17.to, c25b.to, b24b.to, b21.to]) (AV.fn (Fn.func (21 : Nat)) [] []) [] (H.mk [] [] []) = some (AV.bool true, H.mk [] [] []) ∧ (AV.bool true, H.mk [] [] []) = (AV.bool true, H.mk [] [] [])) (by kernel_rfl) ?_
  refine ⟨acall_hit (c := b17.to) (l, q) _ rfl hl, ?_⟩
  refine ⟨acall_hit (c := c25b.to) (p, cut l, rr q.cl) _ rfl z0, ?_⟩
  refine ⟨acall_hit (c := b17.to) (l, q) _ rfl hl, ?_⟩
  refine ⟨acall_hit (c := b24b.to) (p, cut l, rr q.cl) _ rfl z0, ?_⟩
  refine ⟨acall_hit (c := b21.to) () _ rfl trivial, ?_⟩
  first | with_reducible rfl | (refine bleaf_t ?_; omega) | (refine bleaf_f ?_; omega) | (refine ileaf ?_; omega) | rfl | (exfalso; omega)
theorem lp11c (p : Int) (l : List Int) (q : RK) (h : LawP p l q) (c : Nat) (hc : c < 32) (hmem : (sOf l).getLsbD c = true) (n : Nat) (hn : dimV p (sOf l) = (n : Int)) (ptl : List Int) (r2 : Room) (h2 : lim ptl.length) (hr2 : rok ptl r2) (ts : List Nat) :
    LoopS (En5 cs11) (loopAt Tryd.f11 1) 206 [0, 1, 4, 13, 15, 20, 149, 150, 151] [I p, ls l (rr q), I c, I n, .sl [] 0 .nil, I 0, ls ptl r2, I ptl.length, I 0] ⟨[], ts, []⟩ (o11b n 0) := by
  have := lp11b p l q h c hc hmem n hn ptl r2 h2 hr2 ts
  rw [show (tkz ([] : List Pr)) = [] from rfl, List.append_nil] at this
  exact this
theorem r11g (p : Int) (l : List Int) (q : RK) (sd cn : Int) (ptl : List Int) (r2 : Room) (h : LawP p l q) (h2 : lim ptl.length) (hr2 : rok ptl r2) : Body (En5 cs11) none1 Tryd.f11 [I p, ls l (rr q), I sd, ls ptl r2, I cn] .nil (.bool true, .nil) := by
  have hl := h.hl
  have hc := h.c
  have hz := h.z
  have z1 : lim l.length ∧ rok l (rr q) := ⟨hl.1, rr_rok' hl.2⟩
  have hd : decide (cls p l) = true := by rw [decide_eq_true_eq]; exact hc
  have h5 := hc.1
  have hne : sOf l ≠ 0#32 := cls_ne hc
  have h32 := tn_32 h5 hne
  have hpos := dimV_pos (p := p) hne
  obtain ⟨n, hn⟩ : ∃ n : Nat, dimV p (sOf l) = (n : Int) := ⟨(dimV p (sOf l)).toNat, by omega⟩
  have e : (dimV p (sOf l)).toNat = n := by omega
  rw [e] at h32
  have hn5 : n ≤ 5 := by
    apply Classical.byContradiction; intro w
    have : 2 ^ 6 ≤ 2 ^ n := Nat.pow_le_pow_right (by decide) (by omega)
    omega
  have hTl := trL_len p (sOf l)
  rw [e] at hTl
  have hpath := path_0 (p := p) (S := sOf l) hn
  obtain ⟨T, hT⟩ : ∃ T, T = trL p (sOf l) := ⟨_, rfl⟩
  obtain ⟨R, hR⟩ : ∃ R, R = tR n := ⟨_, rfl⟩
  have t25 : ∀ H, aCall (Sof cs11) (.fn (.func 25) [] []) [I p, ls l (rr q.cl)] H = some (.tup [tA T R, I 0], H) := fun H => by
    have : aCall (Sof cs11) (.fn (.func 25) [] []) [I p, ls l (rr q.cl)] H = some (.tup [.sl (trisA (trL p (sOf l))) (trL p (sOf l)).length (tR (dimV p (sOf l)).toNat), I 0], H) := acall_hit (c := b25.to) (p, l, rr q.cl) _ rfl hz
    rwa [e, ← hT, ← hR] at this
  have t24 : ∀ H, aCall (Sof cs11) (.fn (.func 24) [] []) [I p, ls l (rr q.cl)] H = some (.tup [I n, I 0], H) := fun H => by
    have : aCall (Sof cs11) (.fn (.func 24) [] []) [I p, ls l (rr q.cl)] H = some (.tup [I (dimV p (sOf l)), I 0], H) := acall_hit (c := b24g.to) (p, l, rr q.cl) _ rfl hz
    rwa [hn] at this
  rw [← hT] at hTl hpath
  have hRn : T ≠ [] → R ≠ .nil := fun w => by
    rw [hR]
    simp only [tR]
    split
    · rename_i h0
      rw [h0] at hTl
      exact absurd (List.length_eq_zero_iff.1 hTl) w
    · decide
  have lpa := lp11a p sd cn (ls l (rr q)) (ls ptl r2) (sOf l) T R n hn5 (by rw [hTl]; simp only [tn]; omega) hRn hpath
  -- the concept
  have hl16 := hc.2.2.1
  have hl1 := hc.2.1
  have hu := u64_posL cn
  have a1 := Int.tmod_nonneg (l.length : Int) hu
  have a2 := Int.tmod_lt_of_pos (IntKind.u64.wrap cn) (show 0 < (l.length : Int) by omega)
  obtain ⟨W, hW⟩ : ∃ W, IntKind.u64.wrap cn = W := ⟨_, rfl⟩
  rw [hW] at a1 a2 hu
  obtain ⟨K, hK⟩ : ∃ K : Nat, Int.tmod W (l.length : Int) = (K : Int) := ⟨(Int.tmod W (l.length : Int)).toNat, by omega⟩
  rw [hK] at a1 a2
  have hKl : K < l.length := by omega
  have hri := rok_idx z1.2 hKl
  have hin := cls_in hc
  have hmemK : l.getD K i0 ∈ l := mem_iff.2 ⟨K, hKl, rfl⟩
  obtain ⟨c0, c1⟩ := hin _ hmemK
  obtain ⟨c, hcc⟩ : ∃ c : Nat, l.getD K i0 = (c : Int) := ⟨(l.getD K i0).toNat, by omega⟩
  rw [hcc] at c1 hmemK
  have hc32 : c < 32 := by omega
  have hmem : (sOf l).getLsbD c = true := by rw [sOf_bit hin hc32, decide_eq_true_eq]; exact hmemK
  have ev0 := hW
  have ev1 : IntKind.u64.wrap (l.length : Int) = (l.length : Int) := u64_sm (by omega)
  have ev2 := hK
  have ev3 : IntKind.i64.wrap (K : Int) = (K : Int) := wr _ (by omega) (by omega)
  have hl0 : (l.length : Int) ≠ 0 := by omega
  have hld : aLoad Tryd.prog 3 (ints (l.drop K)) = some (I c) := by
    have := ld_ints (P := Tryd.prog) (t := 3) (by kernel_rfl) (by kernel_rfl) hKl
    rw [hcc] at this; exact this
  have lpc := fun ts => lp11c p l q h c hc32 hmem n hn ptl r2 h2 hr2 ts
  have n0 : (0 : Int) ≤ (n : Int) := by omega
  have n5 : (n : Int) ≤ 5 := by omega
  have hcut : cut l = l := cut_same hc.2.2.1
  have z16 : ∀ es a, PathAt p (sOf l) T 0 a es → es.length = n → ((lim (cut l).length ∧ rok (cut l) (rr q.cl)) ∧ (lim es.length ∧ rok es (rmz 2 es))) ∧ cls p (cut l) ∧ exs p es := fun es a hp hl => by
    rw [hcut]
    exact ⟨⟨⟨z1.1, hz.2⟩, by simp only [lim]; omega, rmz_rok es⟩, hc, hp.ex⟩
  have zlen : ∀ es a, PathAt p (sOf l) T 0 a es → 0 < ((lsO (lfF es (sOf (cut l)))).length : Int) := fun es a hp => by
    rw [hcut]
    have hd := hp.dim
    have hne : lfF es (sOf l) ≠ 0#32 := fun e => by rw [e, dimV_0] at hd; omega
    rw [lsO_cons hne]
    simp only [List.length_cons]; omega
  have t25 := t25 .nil
  have t24 := t24 .nil
  have t17 := hit17 h (H := .nil)
  clear hTl hpath hT hR hRn h32 hpos hn
  refine body_s ([Ans.o (Orc.val 29 (AV.sl (ints l) l.length (rr q.cl)) (H.mk [] [] [])), Ans.o (Orc.val 30 (AV.tup [AV.sl (trisA T) T.length R, I 0]) (H.mk [] [] [])), Ans.o (Orc.val 36 (AV.sl (ints l) l.length (rr q.cl)) (H.mk [] [] [])), Ans.o (Orc.val 37 (AV.tup [I (↑n : Int), I 0]) (H.mk [] [] [])), Ans.o Orc.dflt, Ans.o (Orc.val 45 (AV.bool true) (H.mk [] [] [])), Ans.o Orc.dflt, Ans.o Orc.dflt, Ans.o (Orc.b false), Ans.loop [(0 : Nat), (1 : Nat), (2 : Nat), (3 : Nat), (4 : Nat), (11 : Nat), (13 : Nat), (15 : Nat), (16 : Nat), (67 : Nat), (68 : Nat)] [Out.mk Unit AX.ret [(10 : Nat)] (fun x => False) (fun x => [AV.bool false]) (fun x => H.nil) fun y => [], Out.mk (List Pr) (AX.exit (0 : Nat)) [(0 : Nat), (1 : Nat), (3 : Nat), (4 : Nat), (13 : Nat), (15 : Nat)] (fun es => ∃ a, PathAt p (sOf l) T (0 : Nat) a es ∧ es.length = n) (fun es => [I p, ls l (rr q), ls ptl r2, I cn, I (↑n : Int), pE es]) (fun es => H.mk [] (tkz es) []) fun y => [Ans.o (Orc.val 127 (AV.sl (ints (cut l)) (cut l).length (rr q.cl)) (H.mk [] (tkz y) [])), Ans.o (Orc.val 129 (AV.tup [AV.sl (ints (lsO (lfF y (sOf (cut l))))) (lsO (lfF y (sOf (cut l)))).length (rn (lsO (lfF y (sOf (cut l))))), I 0]) (H.mk [] (tkz y) [])), Ans.o Orc.dflt, Ans.fork [] [Ans.o (Orc.val 141 (AV.int IntKind.u64 W) H.nil), Ans.o (Orc.val 144 (AV.int IntKind.u64 (↑l.length : Int)) H.nil), Ans.o (Orc.val 145 (AV.int IntKind.u64 (↑K : Int)) H.nil), Ans.o (Orc.val 146 (I (↑K : Int)) H.nil), Ans.o (Orc.val 147 (AV.cptr (ints (List.drop K l))) H.nil), Ans.o (Orc.val 148 (I (↑c : Int)) H.nil), Ans.loop [(0 : Nat), (1 : Nat), (4 : Nat), (13 : Nat), (15 : Nat), (20 : Nat), (149 : Nat), (150 : Nat), (151 : Nat)] [Out.mk Unit AX.ret [(10 : Nat)] (fun x => False) (fun x => [AV.bool false]) (fun x => H.nil) fun y => [], Out.mk (Nat × List Nat) (AX.exit (2 : Nat)) [(13 : Nat), (20 : Nat)] (fun m => (↑m.fst : Int) ≤ (↑n : Int)) (fun m => [I (↑n : Int), I (↑m.fst : Int)]) (fun m => H.mk [] m.snd []) fun y => [Ans.fork [Ans.o (Orc.val 204 (AV.bool true) (H.mk [] y.snd []))] []]]]]]]) (aCall (Sof cs11) (AV.fn (Fn.func (17 : Nat)) [] []) [AV.sl (ints l) l.length (rr q)] (H.mk [] [] []) = some (AV.sl (ints l) l.length (rr q.cl), H.mk [] [] []) ∧ aCall (Sof cs11) (AV.fn (Fn.func (25 : Nat)) [] []) [I p, AV.sl (ints l) l.length (rr q.cl)] (H.mk [] [] []) = some (AV.tup [AV.sl (trisA T) T.length R, I 0], H.mk [] [] []) ∧ aCall (Sof cs11) (AV.fn (Fn.func (17 : Nat)) [] []) [AV.sl (ints l) l.length (rr q)] (H.mk [] [] []) = some (AV.sl (ints l) l.length (rr q.cl), H.mk [] [] []) ∧ aCall (Sof cs11) (AV.fn (Fn.func (24 : Nat)) [] []) [I p, AV.sl (ints l) l.length (rr q.cl)] (H.mk [] [] []) = some (AV.tup [I (↑n : Int), I 0], H.mk [] [] []) ∧ aCall (Sof cs11) (AV.fn (Fn.func (19 : Nat)) [] []) [I p, AV.sl (ints l) l.length (rr q)] (H.mk [] [] []) = some (AV.bool true, H.mk [] [] []) ∧ (↑n : Int) ≤ (5 : Int) ∧ LoopS (Env.mk Tryd.prog (Sof cs11) (Pof (P := Tryd.prog) []) H.nil.base (300 : Nat)) (loopAt Tryd.f11 (0 : Nat)) (206 : Nat) [(0 : Nat), (1 : Nat), (2 : Nat), (3 : Nat), (4 : Nat), (11 : Nat), (13 : Nat), (15 : Nat), (16 : Nat), (67 : Nat), (68 : Nat)] [I p, AV.sl (ints l) l.length (rr q), I sd, AV.sl (ints ptl) ptl.length r2, I cn, AV.sl (trisA T) T.length R, I (↑n : Int), AV.sl [] (0 : Nat) Room.nil, I 0, I (↑n : Int), I 0] (H.mk [] [] []) [Out.mk Unit AX.ret [(10 : Nat)] (fun x => False) (fun x => [AV.bool false]) (fun x => H.nil) fun y => [], Out.mk (List Pr) (AX.exit (0 : Nat)) [(0 : Nat), (1 : Nat), (3 : Nat), (4 : Nat), (13 : Nat), (15 : Nat)] (fun es => ∃ a, PathAt p (sOf l) T (0 : Nat) a es ∧ es.length = n) (fun es => [I p, ls l (rr q), ls ptl r2, I cn, I (↑n : Int), pE es]) (fun es => H.mk [] (tkz es) []) fun y => [Ans.o (Orc.val 127 (AV.sl (ints (cut l)) (cut l).length (rr q.cl)) (H.mk [] (tkz y) [])), Ans.o (Orc.val 129 (AV.tup [AV.sl (ints (lsO (lfF y (sOf (cut l))))) (lsO (lfF y (sOf (cut l)))).length (rn (lsO (lfF y (sOf (cut l))))), I 0]) (H.mk [] (tkz y) [])), Ans.o Orc.dflt, Ans.fork [] [Ans.o (Orc.val 141 (AV.int IntKind.u64 W) H.nil), Ans.o (Orc.val 144 (AV.int IntKind.u64 (↑l.length : Int)) H.nil), Ans.o (Orc.val 145 (AV.int IntKind.u64 (↑K : Int)) H.nil), Ans.o (Orc.val 146 (I (↑K : Int)) H.nil), Ans.o (Orc.val 147 (AV.cptr (ints (List.drop K l))) H.nil), Ans.o (Orc.val 148 (I (↑c : Int)) H.nil), Ans.loop [(0 : Nat), (1 : Nat), (4 : Nat), (13 : Nat), (15 : Nat), (20 : Nat), (149 : Nat), (150 : Nat), (151 : Nat)] [Out.mk Unit AX.ret [(10 : Nat)] (fun x => False) (fun x => [AV.bool false]) (fun x => H.nil) fun y => [], Out.mk (Nat × List Nat) (AX.exit (2 : Nat)) [(13 : Nat), (20 : Nat)] (fun m => (↑m.fst : Int) ≤ (↑n : Int)) (fun m => [I (↑n : Int), I (↑m.fst : Int)]) (fun m => H.mk [] m.snd []) fun y => [Ans.fork [Ans.o (Orc.val 204 (AV.bool true) (H.mk [] y.snd []))] []]]]]] ∧ (∀ (y : Unit), False → ∀ (u : Nat → AV), (AV.bool false, H.mk [] [] []) = (AV.bool true, H.mk [] [] [])) ∧ (∀ (y : List Pr), (∃ a, PathAt p (sOf l) T (0 : Nat) a y ∧ y.length = n) → ∀ (u : Nat → AV), aCall (Sof cs11) (AV.fn (Fn.func (17 : Nat)) [] []) [AV.sl (ints l) l.length (rr q)] (H.mk [] (tkz y) []) = some (AV.sl (ints (cut l)) (cut l).length (rr q.cl), H.mk [] (tkz y) []) ∧ aCall (Sof cs11) (AV.fn (Fn.func (16 : Nat)) [] []) [I p, AV.sl (ints (cut l)) (cut l).length (rr q.cl), AV.sl (pairsA y) y.length (rmz (2 : Nat) y)] (H.mk [] (tkz y) []) = some (AV.tup [AV.sl (ints (lsO (lfF y (sOf (cut l))))) (lsO (lfF y (sOf (cut l)))).length (rn (lsO (lfF y (sOf (cut l))))), I 0], H.mk [] (tkz y) []) ∧ ((↑(lsO (lfF y (sOf (cut l)))).length : Int) = (0 : Int) → (AV.bool false, H.mk [] [] []) = (AV.bool true, H.mk [] [] [])) ∧ ((↑(lsO (lfF y (sOf (cut l)))).length : Int) ≠ (0 : Int) → aConvert Tryd.prog (3 : Nat) (64 : Nat) (I cn) = some (AV.int IntKind.u64 W) ∧ aConvert Tryd.prog (3 : Nat) (64 : Nat) (I (↑l.length : Int)) = some (AV.int IntKind.u64 (↑l.length : Int)) ∧ aBin Tryd.prog BinOp.rem (64 : Nat) (AV.int IntKind.u64 W) (AV.int IntKind.u64 (↑l.length : Int)) = some (AV.int IntKind.u64 (↑K : Int)) ∧ aConvert Tryd.prog (64 : Nat) (3 : Nat) (AV.int IntKind.u64 (↑K : Int)) = some (I (↑K : Int)) ∧ aIndexAddr Tryd.prog (22 : Nat) (AV.sl (ints l) l.length (rr q)) (I (↑K : Int)) = some (AV.cptr (ints (List.drop K l))) ∧ aLoad Tryd.prog (3 : Nat) (ints (List.drop K l)) = some (I (↑c : Int)) ∧ LoopS (Env.mk Tryd.prog (Sof cs11) (Pof (P := Tryd.prog) []) H.nil.base (300 : Nat)) (loopAt Tryd.f11 (1 : Nat)) (206 : Nat) [(0 : Nat), (1 : Nat), (4 : Nat), (13 : Nat), (15 : Nat), (20 : Nat), (149 : Nat), (150 : Nat), (151 : Nat)] [I p, AV.sl (ints l) l.length (rr q), I (↑c : Int), I (↑n : Int), AV.sl [] (0 : Nat) Room.nil, I 0, AV.sl (ints ptl) ptl.length r2, I (↑ptl.length : Int), I 0] (H.mk [] (tkz y) []) [Out.mk Unit AX.ret [(10 : Nat)] (fun x => False) (fun x => [AV.bool false]) (fun x => H.nil) fun y => [], Out.mk (Nat × List Nat) (AX.exit (2 : Nat)) [(13 : Nat), (20 : Nat)] (fun m => (↑m.fst : Int) ≤ (↑n : Int)) (fun m => [I (↑n : Int), I (↑m.fst : Int)]) (fun m => H.mk [] m.snd []) fun y => [Ans.fork [Ans.o (Orc.val 204 (AV.bool true) (H.mk [] y.snd []))] []]] ∧ (∀ (y : Unit), False → ∀ (u : Nat → AV), (AV.bool false, H.mk [] [] []) = (AV.bool true, H.mk [] [] [])) ∧ (∀ (y : Nat × List Nat), (↑y.fst : Int) ≤ (↑n : Int) → ∀ (u : Nat → AV), ((↑y.fst : Int) ≤ (↑n : Int) → aCall (Sof cs11) (AV.fn (Fn.func (21 : Nat)) [] []) [] (H.mk [] y.snd []) = some (AV.bool true, H.mk [] y.snd []) ∧ (AV.bool true, H.mk [] [] []) = (AV.bool true, H.mk [] [] [])) ∧ ((↑n : Int) < (↑y.fst : Int) → (AV.bool false, H.mk [] [] []) = (AV.bool true, H.mk [] [] []))) ∧ True)) ∧ True) (by kernel_rfl) ?_
  refine ⟨by first | exact t17 | exact acall_hit (c := b17.to) (cs := cs11) (l, q) _ rfl h.hl, ?_⟩
  refine ⟨t25, ?_⟩
  refine ⟨by first | exact t17 | exact acall_hit (c := b17.to) (cs := cs11) (l, q) _ rfl h.hl, ?_⟩
  refine ⟨t24, ?_⟩
  refine ⟨acall_b (acall_hit (c := b19.to) (p, l, rr q) _ rfl z1) hd, ?_⟩
  refine ⟨by first | with_reducible assumption | omega | assumption, ?_⟩
  refine ⟨lpa, ?_⟩
  refine And.intro ?_ ?_
  · skip
    intro y
    intro w1
    intro u
    first | rfl | (exfalso; assumption) | (exfalso; omega) | (exfalso; obtain ⟨a9, b9, c9⟩ := w1; have := zlen y a9 b9; omega)
  · skip
    refine And.intro ?_ ?_
    · skip
      intro y
      intro w1
      intro u
      refine ⟨by first | exact t17 | exact acall_hit (c := b17.to) (cs := cs11) (l, q) _ rfl h.hl, ?_⟩
      refine ⟨by (obtain ⟨a9, b9, c9⟩ := w1; exact acall_hit (c := c16g.to) (cs := cs11) (p, cut l, rr q.cl, y, rmz 2 y) _ rfl (z16 y a9 b9 c9)), ?_⟩
      refine And.intro ?_ ?_
      · skip
        intro w3
        first | rfl | (exfalso; assumption) | (exfalso; omega) | (exfalso; obtain ⟨a9, b9, c9⟩ := w1; have := zlen y a9 b9; omega)
      · skip
        intro w3
        refine ⟨by first | exact told_conv (by kernel_rfl) (by kernel_rfl) (by with_reducible assumption) | exact told_conv (by kernel_rfl) (by kernel_rfl) ev0 | exact told_conv (by kernel_rfl) (by kernel_rfl) ev1 | exact told_conv (by kernel_rfl) (by kernel_rfl) ev2 | exact told_conv (by kernel_rfl) (by kernel_rfl) ev3 | exact told_conv (by kernel_rfl) (by kernel_rfl) ev4 | exact told_conv (by kernel_rfl) (by kernel_rfl) ev5 | exact told_conv (by kernel_rfl) (by kernel_rfl) ev6 | exact told_conv (by kernel_rfl) (by kernel_rfl) ev7 | exact told_conv (by kernel_rfl) (by kernel_rfl) ev8 | exact told_conv (by kernel_rfl) (by kernel_rfl) ev9 | exact told_conv (by kernel_rfl) (by kernel_rfl) ev10 | exact told_conv (by kernel_rfl) (by kernel_rfl) ev11, ?_⟩
        refine ⟨by first | exact told_conv (by kernel_rfl) (by kernel_rfl) (by with_reducible assumption) | exact told_conv (by kernel_rfl) (by kernel_rfl) ev0 | exact told_conv (by kernel_rfl) (by kernel_rfl) ev1 | exact told_conv (by kernel_rfl) (by kernel_rfl) ev2 | exact told_conv (by kernel_rfl) (by kernel_rfl) ev3 | exact told_conv (by kernel_rfl) (by kernel_rfl) ev4 | exact told_conv (by kernel_rfl) (by kernel_rfl) ev5 | exact told_conv (by kernel_rfl) (by kernel_rfl) ev6 | exact told_conv (by kernel_rfl) (by kernel_rfl) ev7 | exact told_conv (by kernel_rfl) (by kernel_rfl) ev8 | exact told_conv (by kernel_rfl) (by kernel_rfl) ev9 | exact told_conv (by kernel_rfl) (by kernel_rfl) ev10 | exact told_conv (by kernel_rfl) (by kernel_rfl) ev11, ?_⟩
        refine ⟨told_rem (by assumption) (by assumption), ?_⟩
        refine ⟨by first | exact told_conv (by kernel_rfl) (by kernel_rfl) (by with_reducible assumption) | exact told_conv (by kernel_rfl) (by kernel_rfl) ev0 | exact told_conv (by kernel_rfl) (by kernel_rfl) ev1 | exact told_conv (by kernel_rfl) (by kernel_rfl) ev2 | exact told_conv (by kernel_rfl) (by kernel_rfl) ev3 | exact told_conv (by kernel_rfl) (by kernel_rfl) ev4 | exact told_conv (by kernel_rfl) (by kernel_rfl) ev5 | exact told_conv (by kernel_rfl) (by kernel_rfl) ev6 | exact told_conv (by kernel_rfl) (by kernel_rfl) ev7 | exact told_conv (by kernel_rfl) (by kernel_rfl) ev8 | exact told_conv (by kernel_rfl) (by kernel_rfl) ev9 | exact told_conv (by kernel_rfl) (by kernel_rfl) ev10 | exact told_conv (by kernel_rfl) (by kernel_rfl) ev11, ?_⟩
        refine ⟨ix_ints (by kernel_rfl) hKl hri, ?_⟩
        refine ⟨hld, ?_⟩
        refine ⟨lpc _, ?_⟩
        refine And.intro ?_ ?_
        · skip
          intro y
          intro w5
          intro u
          first | rfl | (exfalso; assumption) | (exfalso; omega) | (exfalso; obtain ⟨a9, b9, c9⟩ := w1; have := zlen y a9 b9; omega)
        · skip
          refine And.intro ?_ ?_
          · skip
            intro y
            intro w5
            intro u
            refine And.intro ?_ ?_
            · skip
              intro w7
              refine ⟨acall_hit (c := b21.to) () _ rfl trivial, ?_⟩
              first | rfl | (exfalso; assumption) | (exfalso; omega) | (exfalso; obtain ⟨a9, b9, c9⟩ := w1; have := zlen y a9 b9; omega)
            · skip
              intro w7
              first | rfl | (exfalso; assumption) | (exfalso; omega) | (exfalso; obtain ⟨a9, b9, c9⟩ := w1; have := zlen y a9 b9; omega)
          · skip
            trivial
    · skip
      trivial
theorem fools_ok (p : Int) (l : List Int) (q : RK) (sd : Int) (ptl : List Int) (q2 : RK) (cn : Int) (h1 : lim l.length) (h2 : q.mt = true → l = []) (h3 : lim ptl.length) (h4 : q2.mt = true → ptl = []) : CallOk Tryd.prog 11 [I p, ls l (rr q), I sd, ls ptl (rr q2), I cn] .nil (.bool true) .nil := by
  by_cases hc : cls p l
  · exact (r11g p l q sd cn ptl (rr q2) ⟨hc, ⟨h1, h2⟩⟩ h3 (rr_rok' h4)).run ok11 ct11 rfl
  · exact (r11b p l q sd cn (ls ptl (rr q2)) ⟨h1, h2⟩ hc).run ok11 (.pure _ (.pure _ (.pure _ (.pure _ .nil)))) rfl
end Go.Proofs.Lrn

