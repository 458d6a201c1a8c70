/- Layer 4: the law of teaching, as a whole. -/
import Derived.Test.YtdnidpojcocklaaDoorLoT
import Derived.KernelRfl
set_option linter.unusedSimpArgs false
set_option linter.unusedVariables false
set_option linter.unnecessarySimpa false
set_option maxHeartbeats 4000000
set_option maxRecDepth 100000
namespace Go.Proofs.Lrn
open Go Go.VM
theorem ok13 : FokM Tryd.prog none1 13 Tryd.f13 := ⟨mixed, by kernel_rfl, by kernel_rfl, by kernel_rfl, by kernel_rfl⟩
theorem r13b (p : Int) (l : List Int) (q : RK) (cc : Int) (hl : pl l q) (hn : ¬ cls p l) : Body (En5 [b17.to, t39b.to, t43b.to, c44b.to, b21.to]) none1 Tryd.f13 [I p, ls l (rr q), I cc] .nil (.bool true, .nil) := by
  have z0 : (lim (cut l).length ∧ rok (cut l) (rr q.cl)) ∧ ¬ cls p (cut l) := ⟨⟨cut_lim l, cl_rok hl.2⟩, fun h => hn (cut_cls.1 h)⟩
  refine body_s ([Ans.o (Orc.val 19 (AV.sl (ints (cut l)) (cut l).length (rr q.cl)) (H.mk [[I p], [AV.sl (ints l) l.length (rr q)], [I cc]] [] [])), Ans.o (Orc.val 20 (AV.tup [I 0, I 2]) (H.mk [[I p], [AV.sl (ints l) l.length (rr q)], [I cc]] [] [])), Ans.o (Orc.val 26 (AV.sl (ints (cut l)) (cut l).length (rr q.cl)) (H.mk [[I p], [AV.sl (ints l) l.length (rr q)], [I cc]] [] [])), Ans.o (Orc.val 27 (AV.tup [I 0, I 2]) (H.mk [[I p], [AV.sl (ints l) l.length (rr q)], [I cc]] [] [])), Ans.o (Orc.val 33 (AV.sl (ints (cut l)) (cut l).length (rr q.cl)) (H.mk [[I p], [AV.sl (ints l) l.length (rr q)], [I cc]] [] [])), Ans.o (Orc.val 34 (AV.tup [I 0, I 2]) (H.mk [[I p], [AV.sl (ints l) l.length (rr q)], [I cc]] [] [])), Ans.o Orc.dflt, Ans.o Orc.dflt, Ans.o Orc.dflt, Ans.o Orc.dflt, Ans.o (Orc.val 56 (AV.bool true) (H.mk [[I p], [AV.sl (ints l) l.length (rr q)], [I cc]] [] []))]) (aCall (Sof [b17.to, t39b.to, t43b.to, c44b.to, b21.to]) (AV.fn (Fn.func (17 : Nat)) [] []) [AV.sl (ints l) l.length (rr q)] (H.mk [[I p], [AV.sl (ints l) l.length (rr q)], [I cc]] [] []) = some (AV.sl (ints (cut l)) (cut l).length (rr q.cl), H.mk [[I p], [AV.sl (ints l) l.length (rr q)], [I cc]] [] []) ∧ aCall (Sof [b17.to, t39b.to, t43b.to, c44b.to, b21.to]) (AV.fn (Fn.func (39 : Nat)) [] []) [I p, AV.sl (ints (cut l)) (cut l).length (rr q.cl)] (H.mk [[I p], [AV.sl (ints l) l.length (rr q)], [I cc]] [] []) = some (AV.tup [I 0, I 2], H.mk [[I p], [AV.sl (ints l) l.length (rr q)], [I cc]] [] []) ∧ aCall (Sof [b17.to, t39b.to, t43b.to, c44b.to, b21.to]) (AV.fn (Fn.func (17 : Nat)) [] []) [AV.sl (ints l) l.length (rr q)] (H.mk [[I p], [AV.sl (ints l) l.length (rr q)], [I cc]] [] []) = some (AV.sl (ints (cut l)) (cut l).length (rr q.cl), H.mk [[I p], [AV.sl (ints l) l.length (rr q)], [I cc]] [] []) ∧ aCall (Sof [b17.to, t39b.to, t43b.to, c44b.to, b21.to]) (AV.fn (Fn.func (43 : Nat)) [] []) [I p, AV.sl (ints (cut l)) (cut l).length (rr q.cl)] (H.mk [[I p], [AV.sl (ints l) l.length (rr q)], [I cc]] [] []) = some (AV.tup [I 0, I 2], H.mk [[I p], [AV.sl (ints l) l.length (rr q)], [I cc]] [] []) ∧ aCall (Sof [b17.to, t39b.to, t43b.to, c44b.to, b21.to]) (AV.fn (Fn.func (17 : Nat)) [] []) [AV.sl (ints l) l.length (rr q)] (H.mk [[I p], [AV.sl (ints l) l.length (rr q)], [I cc]] [] []) = some (AV.sl (ints (cut l)) (cut l).length (rr q.cl), H.mk [[I p], [AV.sl (ints l) l.length (rr q)], [I cc]] [] []) ∧ aCall (Sof [b17.to, t39b.to, t43b.to, c44b.to, b21.to]) (AV.fn (Fn.func (44 : Nat)) [] []) [I p, AV.sl (ints (cut l)) (cut l).length (rr q.cl)] (H.mk [[I p], [AV.sl (ints l) l.length (rr q)], [I cc]] [] []) = some (AV.tup [I 0, I 2], H.mk [[I p], [AV.sl (ints l) l.length (rr q)], [I cc]] [] []) ∧ aCall (Sof [b17.to, t39b.to, t43b.to, c44b.to, b21.to]) (AV.fn (Fn.func (21 : Nat)) [] []) [] (H.mk [[I p], [AV.sl (ints l) l.length (rr q)], [I cc]] [] []) = some (AV.bool true, H.mk [[I p], [AV.sl (ints l) l.length (rr q)], [I cc]] [] []) ∧ (AV.bool true, H.mk [] [] []) = (AV.bool true, H.mk [] [] [])) (by kernel_rfl) ?_
  refine ⟨acall_hit (c := b17.to) (l, q) _ rfl hl, ?_⟩
  refine ⟨acall_hit (c := t39b.to) (p, cut l, rr q.cl) _ rfl z0, ?_⟩
  refine ⟨acall_hit (c := b17.to) (l, q) _ rfl hl, ?_⟩
  refine ⟨acall_hit (c := t43b.to) (p, cut l, rr q.cl) _ rfl z0, ?_⟩
  refine ⟨acall_hit (c := b17.to) (l, q) _ rfl hl, ?_⟩
  refine ⟨acall_hit (c := c44b.to) (p, cut l, rr q.cl) _ rfl z0, ?_⟩
  refine ⟨acall_hit (c := b21.to) () _ rfl trivial, ?_⟩
  first | with_reducible rfl | (refine bleaf_t ?_; omega) | (refine bleaf_f ?_; omega) | (refine ileaf ?_; omega) | rfl | (exfalso; omega)
theorem r13g (p : Int) (l : List Int) (q : RK) (cc : Int) (hl : pl l q) (hc : cls p l) (W m : Int) (i k : Nat) (ev0 : IntKind.u64.wrap cc = W) (ev1 : IntKind.u64.wrap (l.length : Int) = (l.length : Int)) (ev2 : Int.tmod W (l.length : Int) = (i : Int)) (hi : i < l.length) (hk : l.getD i i0 = (k : Int)) : Body (En5 (cs13 p l q k)) none1 Tryd.f13 [I p, ls l (rr q), I cc] .nil (.bool true, .nil) := by
  have hz := clsT hc hl
  have z1 : lim l.length ∧ rok l (rr q) := ⟨hl.1, rr_rok' hl.2⟩
  have hd : decide (cls p l) = true := by rw [decide_eq_true_eq]; exact hc
  obtain ⟨c0, c1⟩ := hc.1
  obtain ⟨l1, l16⟩ : 1 ≤ l.length ∧ l.length ≤ 16 := ⟨hc.2.1, hc.2.2.1⟩
  obtain ⟨s, hS, hs32, hstw, hst, hs1, hfew⟩ := key_all hc hi hk
  obtain ⟨k2, hk2, hk32, hkb, _⟩ := cls_get hc hi
  have hkk : k2 = k := by rw [hk2] at hk; omega
  subst hkk
  have lp := lp13 p l q k2 s hc hl hk32 hs32 hfew
  obtain ⟨t0, tp, tl, nt, ta, ap, a0, la⟩ := tch hc
  have hlk : l.getD i i0 ∈ l := mem_iff.2 ⟨i, hi, rfl⟩
  rw [hk] at hlk
  have T17 := fun H => hit17T (cs := cs13 p l q k2) rfl hc hl H
  have T39 : ∀ H, aCall (Sof (cs13 p l q k2)) (.fn (.func 39) [] []) [I p, ls l (rr q.cl)] H = some (.tup [I (teL p (sOf l) l l.length), I 0], H) := fun H => acall_hit (c := t39g.to) (p, l, rr q.cl) H rfl hz
  have T43 : ∀ H, aCall (Sof (cs13 p l q k2)) (.fn (.func 43) [] []) [I p, ls l (rr q.cl)] H = some (.tup [I (quV p (sOf l)), I 0], H) := fun H => acall_hit (c := t43g.to) (p, l, rr q.cl) H rfl hz
  have T44 : ∀ H, aCall (Sof (cs13 p l q k2)) (.fn (.func 44) [] []) [I p, ls l (rr q.cl)] H = some (.tup [I (plN p (sOf l) : Nat), I 0], H) := fun H => acall_hit (c := c44g.to) (p, l, rr q.cl) H rfl hz
  have T19 : ∀ H, aCall (Sof (cs13 p l q k2)) (.fn (.func 19) [] []) [I p, ls l (rr q)] H = some (.bool true, H) := fun H => acall_b (acall_hit (c := b19.to) (p, l, rr q) H rfl z1) hd
  have T38 : ∀ H, aCall (Sof (cs13 p l q k2)) (.fn (.func 38) [] []) [I p, ls l (rr q.cl), I k2] H = some (.tup [I s, I 0], H) := fun H => by
    have : aCall (Sof (cs13 p l q k2)) (.fn (.func 38) [] []) [I p, ls l (rr q.cl), I k2] H = some (.tup [I (kyV p (sOf l) (k2 : Int)), I 0], H) := acall_hit (c := t38g.to) (p, l, rr q.cl, (k2 : Int)) H rfl ⟨hz, hlk⟩
    rwa [hS] at this
  have T49 : ∀ H, aCall (Sof (cs13 p l q k2)) (.fn (.func 49) [] []) [I s] H = some (I (pk (s : Int)), H) := fun H => acall_hit (c := c49.to) (s : Int) H rfl ⟨by omega, by omega⟩
  have T50 := hit50 p l q k2 hc hl hk32 hs32
  rw [hs1] at T50
  obtain ⟨P0, hP0⟩ : ∃ P0, P0 = pk (s : Int) := ⟨_, rfl⟩
  rw [← hP0] at hst T49
  obtain ⟨t, ht⟩ : ∃ t, t = teL p (sOf l) l l.length := ⟨_, rfl⟩
  rw [← ht] at t0 tp tl nt ta hst T39
  obtain ⟨a, ha⟩ : ∃ a, a = quV p (sOf l) := ⟨_, rfl⟩
  rw [← ha] at ta ap a0 la T43
  obtain ⟨n, hnn⟩ : ∃ n, n = plN p (sOf l) := ⟨_, rfl⟩
  rw [← hnn] at nt T44
  obtain ⟨an, rfl⟩ : ∃ an : Nat, a = an := ⟨a.toNat, by omega⟩
  rw [Int.toNat_natCast] at la
  have ev3 := shl_powT (a := an) (by omega)
  obtain ⟨A2, hA2⟩ : ∃ A2, A2 = 2 ^ an := ⟨_, rfl⟩
  rw [← hA2] at la ev3
  have ev4 : IntKind.i64.wrap (i : Int) = (i : Int) := wr _ (by omega) (by omega)
  have ev5 : IntKind.i64.wrap ((l.length : Int) - 1) = (l.length : Int) - 1 := wr _ (by omega) (by omega)
  obtain ⟨pn, hpn⟩ : ∃ pn : Nat, p = pn := ⟨p.toNat, by omega⟩
  have ev6 := shl_powT (a := pn) (by omega)
  rw [← hpn] at ev6
  rw [tw_pow hc.1] at hstw
  have hpp : p.toNat = pn := by omega
  rw [hpp] at hstw
  obtain ⟨P2, hP2⟩ : ∃ P2, P2 = 2 ^ pn := ⟨_, rfl⟩
  rw [← hP2] at hstw ev6
  have hri := rok_idx (rr_rok' hl.2) hi
  have hL0 : (l.length : Int) ≠ 0 := by omega
  have hp0 : 0 ≤ p := by omega
  have ldk : aLoad Tryd.prog 3 (ints (l.drop i)) = some (I k2) := by
    have := ld_ints (P := Tryd.prog) (t := 3) (by kernel_rfl) (by kernel_rfl) hi
    rwa [hk] at this
  have t50 := T50
  have x17 := T17 (hT p l q cc)
  have x39 := T39 (hT p l q cc)
  have x43 := T43 (hT p l q cc)
  have x44 := T44 (hT p l q cc)
  have x19 := T19 (hT p l q cc)
  have y17 := T17 (hT p l q k2)
  have y38 := T38 (hT p l q k2)
  have y49 := T49 (hT p l q k2)
  refine body_s ([Ans.o (Orc.val 19 (AV.sl (ints l) l.length (rr q.cl)) (H.mk [[I p], [AV.sl (ints l) l.length (rr q)], [I cc]] [] [])), Ans.o (Orc.val 20 (AV.tup [I t, I 0]) (H.mk [[I p], [AV.sl (ints l) l.length (rr q)], [I cc]] [] [])), Ans.o (Orc.val 26 (AV.sl (ints l) l.length (rr q.cl)) (H.mk [[I p], [AV.sl (ints l) l.length (rr q)], [I cc]] [] [])), Ans.o (Orc.val 27 (AV.tup [I (↑an : Int), I 0]) (H.mk [[I p], [AV.sl (ints l) l.length (rr q)], [I cc]] [] [])), Ans.o (Orc.val 33 (AV.sl (ints l) l.length (rr q.cl)) (H.mk [[I p], [AV.sl (ints l) l.length (rr q)], [I cc]] [] [])), Ans.o (Orc.val 34 (AV.tup [I (↑n : Int), I 0]) (H.mk [[I p], [AV.sl (ints l) l.length (rr q)], [I cc]] [] [])), Ans.o Orc.dflt, Ans.o (Orc.val 42 (AV.bool true) (H.mk [[I p], [AV.sl (ints l) l.length (rr q)], [I cc]] [] [])), Ans.o Orc.dflt, Ans.o Orc.dflt, Ans.o (Orc.b false), Ans.o (Orc.val 73 (I ((↑l.length : Int) - (1 : Int))) H.nil), Ans.o (Orc.b false), Ans.o (Orc.b false), Ans.o (Orc.b false), Ans.o (Orc.b false), Ans.o Orc.dflt, Ans.o Orc.dflt, Ans.o (Orc.val 101 (I (↑A2 : Int)) H.nil), Ans.o (Orc.b false), Ans.o (Orc.val 108 (AV.int IntKind.u64 W) H.nil), Ans.o (Orc.val 111 (AV.int IntKind.u64 (↑l.length : Int)) H.nil), Ans.o (Orc.val 112 (AV.int IntKind.u64 (↑i : Int)) H.nil), Ans.o (Orc.val 113 (I (↑i : Int)) H.nil), Ans.o (Orc.val 114 (AV.cptr (ints (List.drop i l))) H.nil), Ans.o (Orc.val 115 (I (↑k2 : Int)) H.nil), Ans.o (Orc.val 119 (AV.sl (ints l) l.length (rr q.cl)) (H.mk [[I p], [AV.sl (ints l) l.length (rr q)], [I (↑k2 : Int)]] [] [])), Ans.o (Orc.val 121 (AV.tup [I (↑s : Int), I 0]) (H.mk [[I p], [AV.sl (ints l) l.length (rr q)], [I (↑k2 : Int)]] [] [])), Ans.o Orc.dflt, Ans.o Orc.dflt, Ans.o (Orc.val 133 (I (↑P2 : Int)) H.nil), Ans.o (Orc.b false), Ans.o (Orc.val 138 (I P0) (H.mk [[I p], [AV.sl (ints l) l.length (rr q)], [I (↑k2 : Int)]] [] [])), Ans.o (Orc.b false), Ans.loop [(13 : Nat), (14 : Nat), (143 : Nat), (144 : Nat)] [Out.mk Unit AX.ret [(6 : Nat)] (fun x => False) (fun x => [AV.bool false]) (fun x => hT p l q (↑k2 : Int)) fun y => [], Out.mk Unit (AX.exit (0 : Nat)) [(13 : Nat), (14 : Nat)] (fun x => True) (fun x => [I (↑s : Int), cl50]) (fun x => hT p l q (↑k2 : Int)) fun y => [Ans.o (Orc.val 164 (I 1) (H.mk [[I p], [AV.sl (ints l) l.length (rr q)], [I (↑k2 : Int)]] [] [])), Ans.o Orc.dflt, Ans.o (Orc.val 167 (AV.bool true) (H.mk [[I p], [AV.sl (ints l) l.length (rr q)], [I (↑k2 : Int)]] [] []))]]]) (aCall (Sof (cs13 p l q k2)) (AV.fn (Fn.func (17 : Nat)) [] []) [AV.sl (ints l) l.length (rr q)] (H.mk [[I p], [AV.sl (ints l) l.length (rr q)], [I cc]] [] []) = some (AV.sl (ints l) l.length (rr q.cl), H.mk [[I p], [AV.sl (ints l) l.length (rr q)], [I cc]] [] []) ∧ aCall (Sof (cs13 p l q k2)) (AV.fn (Fn.func (39 : Nat)) [] []) [I p, AV.sl (ints l) l.length (rr q.cl)] (H.mk [[I p], [AV.sl (ints l) l.length (rr q)], [I cc]] [] []) = some (AV.tup [I t, I 0], H.mk [[I p], [AV.sl (ints l) l.length (rr q)], [I cc]] [] []) ∧ aCall (Sof (cs13 p l q k2)) (AV.fn (Fn.func (17 : Nat)) [] []) [AV.sl (ints l) l.length (rr q)] (H.mk [[I p], [AV.sl (ints l) l.length (rr q)], [I cc]] [] []) = some (AV.sl (ints l) l.length (rr q.cl), H.mk [[I p], [AV.sl (ints l) l.length (rr q)], [I cc]] [] []) ∧ aCall (Sof (cs13 p l q k2)) (AV.fn (Fn.func (43 : Nat)) [] []) [I p, AV.sl (ints l) l.length (rr q.cl)] (H.mk [[I p], [AV.sl (ints l) l.length (rr q)], [I cc]] [] []) = some (AV.tup [I (↑an : Int), I 0], H.mk [[I p], [AV.sl (ints l) l.length (rr q)], [I cc]] [] []) ∧ aCall (Sof (cs13 p l q k2)) (AV.fn (Fn.func (17 : Nat)) [] []) [AV.sl (ints l) l.length (rr q)] (H.mk [[I p], [AV.sl (ints l) l.length (rr q)], [I cc]] [] []) = some (AV.sl (ints l) l.length (rr q.cl), H.mk [[I p], [AV.sl (ints l) l.length (rr q)], [I cc]] [] []) ∧ aCall (Sof (cs13 p l q k2)) (AV.fn (Fn.func (44 : Nat)) [] []) [I p, AV.sl (ints l) l.length (rr q.cl)] (H.mk [[I p], [AV.sl (ints l) l.length (rr q)], [I cc]] [] []) = some (AV.tup [I (↑n : Int), I 0], H.mk [[I p], [AV.sl (ints l) l.length (rr q)], [I cc]] [] []) ∧ aCall (Sof (cs13 p l q k2)) (AV.fn (Fn.func (19 : Nat)) [] []) [I p, AV.sl (ints l) l.length (rr q)] (H.mk [[I p], [AV.sl (ints l) l.length (rr q)], [I cc]] [] []) = some (AV.bool true, H.mk [[I p], [AV.sl (ints l) l.length (rr q)], [I cc]] [] []) ∧ t ≤ p ∧ aBin Tryd.prog BinOp.sub (3 : Nat) (I (↑l.length : Int)) (I 1) = some (I ((↑l.length : Int) - (1 : Int))) ∧ t ≤ (↑l.length : Int) - (1 : Int) ∧ (↑n : Int) ≤ t ∧ t ≤ (↑an : Int) ∧ (↑an : Int) ≤ p ∧ aBin Tryd.prog BinOp.shl (3 : Nat) (I 1) (I (↑an : Int)) = some (I (↑A2 : Int)) ∧ (↑l.length : Int) ≤ (↑A2 : Int) ∧ aConvert Tryd.prog (3 : Nat) (64 : Nat) (I cc) = some (AV.int IntKind.u64 W) ∧ aConvert Tryd.prog (3 : Nat) (64 : Nat) (I (↑l.length : Int)) = some (AV.int IntKind.u64 (↑l.length : Int)) ∧ aBin Tryd.prog BinOp.rem (64 : Nat) (AV.int IntKind.u64 W) (AV.int IntKind.u64 (↑l.length : Int)) = some (AV.int IntKind.u64 (↑i : Int)) ∧ aConvert Tryd.prog (64 : Nat) (3 : Nat) (AV.int IntKind.u64 (↑i : Int)) = some (I (↑i : Int)) ∧ aIndexAddr Tryd.prog (22 : Nat) (AV.sl (ints l) l.length (rr q)) (I (↑i : Int)) = some (AV.cptr (ints (List.drop i l))) ∧ aLoad Tryd.prog (3 : Nat) (ints (List.drop i l)) = some (I (↑k2 : Int)) ∧ aCall (Sof (cs13 p l q k2)) (AV.fn (Fn.func (17 : Nat)) [] []) [AV.sl (ints l) l.length (rr q)] (H.mk [[I p], [AV.sl (ints l) l.length (rr q)], [I (↑k2 : Int)]] [] []) = some (AV.sl (ints l) l.length (rr q.cl), H.mk [[I p], [AV.sl (ints l) l.length (rr q)], [I (↑k2 : Int)]] [] []) ∧ aCall (Sof (cs13 p l q k2)) (AV.fn (Fn.func (38 : Nat)) [] []) [I p, AV.sl (ints l) l.length (rr q.cl), I (↑k2 : Int)] (H.mk [[I p], [AV.sl (ints l) l.length (rr q)], [I (↑k2 : Int)]] [] []) = some (AV.tup [I (↑s : Int), I 0], H.mk [[I p], [AV.sl (ints l) l.length (rr q)], [I (↑k2 : Int)]] [] []) ∧ aBin Tryd.prog BinOp.shl (3 : Nat) (I 1) (I p) = some (I (↑P2 : Int)) ∧ (↑s : Int) < (↑P2 : Int) ∧ aCall (Sof (cs13 p l q k2)) (AV.fn (Fn.func (49 : Nat)) [] []) [I (↑s : Int)] (H.mk [[I p], [AV.sl (ints l) l.length (rr q)], [I (↑k2 : Int)]] [] []) = some (I P0, H.mk [[I p], [AV.sl (ints l) l.length (rr q)], [I (↑k2 : Int)]] [] []) ∧ P0 ≤ t ∧ LoopS (Env.mk Tryd.prog (Sof (cs13 p l q k2)) (Pof (P := Tryd.prog) []) H.nil.base (300 : Nat)) (loopAt Tryd.f13 (0 : Nat)) (169 : Nat) [(13 : Nat), (14 : Nat), (143 : Nat), (144 : Nat)] [I (↑s : Int), AV.fn (Fn.func (50 : Nat)) [] [AV.ptr 0 0, AV.ptr 2 0, AV.ptr 1 0], I p, I 0] (H.mk [[I p], [AV.sl (ints l) l.length (rr q)], [I (↑k2 : Int)]] [] []) [Out.mk Unit AX.ret [(6 : Nat)] (fun x => False) (fun x => [AV.bool false]) (fun x => hT p l q (↑k2 : Int)) fun y => [], Out.mk Unit (AX.exit (0 : Nat)) [(13 : Nat), (14 : Nat)] (fun x => True) (fun x => [I (↑s : Int), cl50]) (fun x => hT p l q (↑k2 : Int)) fun y => [Ans.o (Orc.val 164 (I 1) (H.mk [[I p], [AV.sl (ints l) l.length (rr q)], [I (↑k2 : Int)]] [] [])), Ans.o Orc.dflt, Ans.o (Orc.val 167 (AV.bool true) (H.mk [[I p], [AV.sl (ints l) l.length (rr q)], [I (↑k2 : Int)]] [] []))]] ∧ (∀ (y : Unit), False → ∀ (u : Nat → AV), (AV.bool false, H.mk [] [] []) = (AV.bool true, H.mk [] [] [])) ∧ (∀ (y : Unit), True → ∀ (u : Nat → AV), aCall (Sof (cs13 p l q k2)) (AV.fn (Fn.func (50 : FuncId)) [] [AV.ptr 0 0, AV.ptr 2 0, AV.ptr 1 0]) [I (↑s : Int)] (H.mk [[I p], [AV.sl (ints l) l.length (rr q)], [I (↑k2 : Int)]] [] []) = some (I 1, H.mk [[I p], [AV.sl (ints l) l.length (rr q)], [I (↑k2 : Int)]] [] []) ∧ aCall (Sof (cs13 p l q k2)) (AV.fn (Fn.func (21 : Nat)) [] []) [] (H.mk [[I p], [AV.sl (ints l) l.length (rr q)], [I (↑k2 : Int)]] [] []) = some (AV.bool true, H.mk [[I p], [AV.sl (ints l) l.length (rr q)], [I (↑k2 : Int)]] [] []) ∧ (AV.bool true, H.mk [] [] []) = (AV.bool true, H.mk [] [] [])) ∧ True) (by kernel_rfl) ?_
  refine ⟨by first | exact x17 | exact y17, ?_⟩
  refine ⟨x39, ?_⟩
  refine ⟨by first | exact x17 | exact y17, ?_⟩
  refine ⟨x43, ?_⟩
  refine ⟨by first | exact x17 | exact y17, ?_⟩
  refine ⟨x44, ?_⟩
  refine ⟨x19, ?_⟩
  refine ⟨by first | with_reducible assumption | omega | assumption, ?_⟩
  refine ⟨by first | exact told_rem (by assumption) (by assumption) | exact told_add (by assumption) | exact told_sub (by assumption) | exact told_shl a0 (by assumption) | exact told_shl hp0 (by assumption), ?_⟩
  refine ⟨by first | with_reducible assumption | omega | assumption, ?_⟩
  refine ⟨by first | with_reducible assumption | omega | assumption, ?_⟩
  refine ⟨by first | with_reducible assumption | omega | assumption, ?_⟩
  refine ⟨by first | with_reducible assumption | omega | assumption, ?_⟩
  refine ⟨by first | exact told_rem (by assumption) (by assumption) | exact told_add (by assumption) | exact told_sub (by assumption) | exact told_shl a0 (by assumption) | exact told_shl hp0 (by assumption), ?_⟩
  refine ⟨by first | with_reducible assumption | omega | assumption, ?_⟩
  refine ⟨by first | exact told_conv (by kernel_rfl) (by kernel_rfl) (by with_reducible assumption) | exact told_conv (by kernel_rfl) (by kernel_rfl) ev0 | exact told_conv (by kernel_rfl) (by kernel_rfl) ev1 | exact told_conv (by kernel_rfl) (by kernel_rfl) ev2 | exact told_conv (by kernel_rfl) (by kernel_rfl) ev3 | exact told_conv (by kernel_rfl) (by kernel_rfl) ev4 | exact told_conv (by kernel_rfl) (by kernel_rfl) ev5 | exact told_conv (by kernel_rfl) (by kernel_rfl) ev6 | exact told_conv (by kernel_rfl) (by kernel_rfl) ev7 | exact told_conv (by kernel_rfl) (by kernel_rfl) ev8 | exact told_conv (by kernel_rfl) (by kernel_rfl) ev9 | exact told_conv (by kernel_rfl) (by kernel_rfl) ev10 | exact told_conv (by kernel_rfl) (by kernel_rfl) ev11, ?_⟩
  refine ⟨by first | exact told_conv (by kernel_rfl) (by kernel_rfl) (by with_reducible assumption) | exact told_conv (by kernel_rfl) (by kernel_rfl) ev0 | exact told_conv (by kernel_rfl) (by kernel_rfl) ev1 | exact told_conv (by kernel_rfl) (by kernel_rfl) ev2 | exact told_conv (by kernel_rfl) (by kernel_rfl) ev3 | exact told_conv (by kernel_rfl) (by kernel_rfl) ev4 | exact told_conv (by kernel_rfl) (by kernel_rfl) ev5 | exact told_conv (by kernel_rfl) (by kernel_rfl) ev6 | exact told_conv (by kernel_rfl) (by kernel_rfl) ev7 | exact told_conv (by kernel_rfl) (by kernel_rfl) ev8 | exact told_conv (by kernel_rfl) (by kernel_rfl) ev9 | exact told_conv (by kernel_rfl) (by kernel_rfl) ev10 | exact told_conv (by kernel_rfl) (by kernel_rfl) ev11, ?_⟩
  refine ⟨by first | exact told_rem (by assumption) (by assumption) | exact told_add (by assumption) | exact told_sub (by assumption) | exact told_shl a0 (by assumption) | exact told_shl hp0 (by assumption), ?_⟩
  refine ⟨by first | exact told_conv (by kernel_rfl) (by kernel_rfl) (by with_reducible assumption) | exact told_conv (by kernel_rfl) (by kernel_rfl) ev0 | exact told_conv (by kernel_rfl) (by kernel_rfl) ev1 | exact told_conv (by kernel_rfl) (by kernel_rfl) ev2 | exact told_conv (by kernel_rfl) (by kernel_rfl) ev3 | exact told_conv (by kernel_rfl) (by kernel_rfl) ev4 | exact told_conv (by kernel_rfl) (by kernel_rfl) ev5 | exact told_conv (by kernel_rfl) (by kernel_rfl) ev6 | exact told_conv (by kernel_rfl) (by kernel_rfl) ev7 | exact told_conv (by kernel_rfl) (by kernel_rfl) ev8 | exact told_conv (by kernel_rfl) (by kernel_rfl) ev9 | exact told_conv (by kernel_rfl) (by kernel_rfl) ev10 | exact told_conv (by kernel_rfl) (by kernel_rfl) ev11, ?_⟩
  refine ⟨ix_ints (by kernel_rfl) hi hri, ?_⟩
  refine ⟨ldk, ?_⟩
  refine ⟨by first | exact x17 | exact y17, ?_⟩
  refine ⟨y38, ?_⟩
  refine ⟨by first | exact told_rem (by assumption) (by assumption) | exact told_add (by assumption) | exact told_sub (by assumption) | exact told_shl a0 (by assumption) | exact told_shl hp0 (by assumption), ?_⟩
  refine ⟨by first | with_reducible assumption | omega | assumption, ?_⟩
  refine ⟨y49, ?_⟩
  refine ⟨by first | with_reducible assumption | omega | assumption, ?_⟩
  refine ⟨lp, ?_⟩
  refine And.intro ?_ ?_
  · skip
    intro y
    intro w1
    intro u
    first | with_reducible rfl | (refine bleaf_t ?_; omega) | (refine bleaf_f ?_; omega) | (refine ileaf ?_; omega) | rfl | (exfalso; omega)
  · skip
    refine And.intro ?_ ?_
    · skip
      intro y
      intro w1
      intro u
      refine ⟨t50, ?_⟩
      refine ⟨acall_hit (c := b21.to) () _ rfl trivial, ?_⟩
      first | with_reducible rfl | (refine bleaf_t ?_; omega) | (refine bleaf_f ?_; omega) | (refine ileaf ?_; omega) | rfl | (exfalso; omega)
    · skip
      trivial
theorem teaches_ok (p : Int) (l : List Int) (q : RK) (cc : Int) (h1 : lim l.length) (h2 : q.mt = true → l = []) : CallOk Tryd.prog 13 [I p, ls l (rr q), I cc] .nil (.bool true) .nil := by
  by_cases hc : cls p l
  · have hl1 := hc.2.1
    have hl16 := hc.2.2.1
    have hu := u64_posT cc
    obtain ⟨W, hW⟩ : ∃ W, IntKind.u64.wrap cc = W := ⟨_, rfl⟩
    rw [hW] at hu
    have a1 := Int.tmod_nonneg (l.length : Int) hu
    have a2 := Int.tmod_lt_of_pos W (show (0 : Int) < (l.length : Int) by omega)
    obtain ⟨i, hx⟩ : ∃ i : Nat, Int.tmod W (l.length : Int) = (i : Int) := ⟨(Int.tmod W (l.length : Int)).toNat, by omega⟩
    rw [hx] at a1 a2
    have hi : i < l.length := by omega
    obtain ⟨k, hk, _, _, _⟩ := cls_get hc hi
    exact (r13g p l q cc ⟨h1, h2⟩ hc W 0 i k hW (u64_smT (by omega)) hx hi hk).run ok13 (ct13 p l q k) rfl
  · exact (r13b p l q cc ⟨h1, h2⟩ hc).run ok13 (.pure _ (.pure _ (.pure _ (.pure _ (.pure _ .nil))))) rfl
end Go.Proofs.Lrn

