/- Layer 4: Tree. -/
import Derived.Test.YtdnidpojcocklaaDoorLnBc
import Derived.KernelRfl
set_option linter.unusedSimpArgs false
set_option linter.unusedVariables false
set_option linter.unnecessarySimpa false
set_option maxHeartbeats 4000000
set_option maxRecDepth 100000
namespace Go.Proofs.Lrn
open Go Go.VM
section
attribute [local instance] wrN
theorem all59w : ∀ d, Okw d
  | 0 => fun p b l w _ => absurd w.d1 (by omega)
  | 1 => fun p b l w hl => by
    have k := (r59a (c59 0 (all59w 0)) rfl p b l w hl).call ok59 (restN rfl) rfl
    have e : tre p 1 b l.length = [((fx p b 1 : Int), -1, -1)] := by simp [tre]
    rw [e]
    have hv : RV (fun i => if i = 1 then 2 else i) 2 (rN 1 (l.length + tn 1)) (rN 2 (l.length + 1)) := RV.rN (ρ := fun i => if i = 1 then 2 else i) (n := 2) (R := 1) (m := l.length + 1) (by omega)
    exact CallOkB.keep (keepN (R := 2) (by omega) rfl rfl) hv k
  | d + 2 => fun p b l w hl => by
    have k := (r59s d (all59w (d + 1)) p b l w hl).call ok59 (restN rfl) rfl
    have hv : RV (fun i => if i = 1 then 4 else i) 2 (rN 1 (l.length + tn (d + 2))) (rN 4 (l.length + tn (d + 2))) := RV.rN (ρ := fun i => if i = 1 then 4 else i) (n := 2) (R := 1) (m := l.length + tn (d + 2)) (by omega)
    exact CallOkB.keep (keepN (R := 4) (by omega) rfl rfl) hv k
/-- what the outermost call gets -/
structure WrQ (p : Int) (b : BitVec 32) (d : Nat) : Prop where
  hp : p5 p
  d1 : 1 ≤ d
  hd : (d : Int) ≤ dimV p b
  n : 2 ^ d ≤ 1000
theorem t59a (b0 : CtrB Tryd.prog 0) (hb0 : b0.f = 59) (p : Int) (b : BitVec 32) (w : WrQ p b 1) :
    CallOkB Tryd.prog 0 59 [cA p b, .sl [] 0 .nil, I 1] ⟨[bx p b], [], []⟩ (rN 2 1) ⟨[bx p b, bx p b, trisA (tre p 1 b 0)], [], []⟩ := by
  obtain ⟨f1, f2, f3⟩ := fx_spec w.d1 w.hd
  have lp := lp59 b0 hb0 p b 1 w.hp (by omega) w.hd (by omega) (.sl [] 0 .nil) (bx p b)
  have e : tre p 1 b 0 = [((fx p b 1 : Int), -1, -1)] := by simp [tre]
  rw [e]
  have hA : aAppend Tryd.prog 38 38 (.sl [] 0 .nil) (.sl [I (fx p b 1 : Nat), I (-1), I (-1)] 1 .full) ⟨[bx p b, bx p b], [], []⟩ = some (rN 2 1, ⟨[bx p b, bx p b, trisA [((fx p b 1 : Int), -1, -1)]], [], []⟩) := ap_tri0 (P := Tryd.prog) (t := 38) (by kernel_rfl) (x := (fx p b 1 : Int)) (y := -1) (z := -1) (h := ⟨[bx p b, bx p b], [], []⟩)
  have hb : BodyO (EnN b0) M59 Tryd.f59 [cA p b, .sl [] 0 .nil, I 1] ⟨[bx p b], [], []⟩ (rN 2 1, ⟨[bx p b, bx p b, trisA [((fx p b 1 : Int), -1, -1)]], [], []⟩) := by
    refine bodyO_s ([Ans.o Orc.dflt, Ans.loop [(1 : Nat), (2 : Nat), (3 : Nat), (7 : Nat)] [Out.mk Unit (AX.exit (0 : Nat)) [(1 : Nat), (2 : Nat), (3 : Nat), (7 : Nat)] (fun x => True) (fun x => [AV.sl [] (0 : Nat) Room.nil, I (↑(1 : Nat) : Int), AV.ptr 1 0, I (↑(fx p b (1 : Nat)) : Int)]) (fun x => H.mk [bx p b, bx p b] [] []) fun y => [Ans.o Orc.dflt]]]) (LoopS (Env.mk Tryd.prog (SofO b0 [d75.to, d78.to]) (Pof (P := Tryd.prog) []) opnN (300 : Nat)) (loopAt Tryd.f59 (0 : Nat)) (56 : Nat) [(1 : Nat), (2 : Nat), (3 : Nat), (7 : Nat)] [AV.sl [] (0 : Nat) Room.nil, I 1, AV.ptr 1 0, I 0] (H.mk [[I p, AV.int IntKind.u32 (↑b.toNat : Int)], [I p, AV.int IntKind.u32 (↑b.toNat : Int)]] [] []) [Out.mk Unit (AX.exit (0 : Nat)) [(1 : Nat), (2 : Nat), (3 : Nat), (7 : Nat)] (fun x => True) (fun x => [AV.sl [] (0 : Nat) Room.nil, I (↑(1 : Nat) : Int), AV.ptr 1 0, I (↑(fx p b (1 : Nat)) : Int)]) (fun x => H.mk [bx p b, bx p b] [] []) fun y => [Ans.o Orc.dflt]] ∧ (∀ (y : Unit), True → ∀ (u : Nat → AV), (AV.msl 2 0 (1 : Nat) (9223372036854775808 : Nat) (3 : Nat), H.mk [[I p, AV.int IntKind.u32 (↑b.toNat : Int)], [I p, AV.int IntKind.u32 (↑b.toNat : Int)], [I (↑(fx p b (1 : Nat)) : Int), I (-1 : Int), I (-1 : Int)]] [] []) = (AV.msl 2 0 (1 : Nat) (9223372036854775808 : Nat) (3 : Nat), H.mk [[I p, AV.int IntKind.u32 (↑b.toNat : Int)], [I p, AV.int IntKind.u32 (↑b.toNat : Int)], trisA [((↑(fx p b (1 : Nat)) : Int), (-1 : Int), (-1 : Int))]] [] [])) ∧ True) (by kernel_rfl) ?_
    refine ⟨lp, ?_⟩
    refine And.intro ?_ ?_
    · skip
      intro y
      intro w1
      intro u
      rfl
    · skip
      trivial
  exact hb.call ok59 (restN hb0) rfl
theorem t59s (d : Nat) (p : Int) (b : BitVec 32) (w : WrQ p b (d + 2)) :
    CallOkB Tryd.prog 0 59 [cA p b, .sl [] 0 .nil, I (d + 2 : Nat)] ⟨[bx p b], [], []⟩ (rN 4 (tn (d + 2))) ⟨[bx p b, bx p b, [], [], trisA (tre p (d + 2) b 0)], [], []⟩ := by
  have hok := all59w (d + 1)
  have hn := w.n
  have hd5 : d + 2 ≤ 9 := by
    apply Classical.byContradiction; intro q
    have : 2 ^ 10 ≤ 2 ^ (d + 2) := Nat.pow_le_pow_right (by decide) (by omega)
    omega
  obtain ⟨f1, f2, f3⟩ := fx_spec w.d1 w.hd
  have hp := w.hp
  obtain ⟨q1, q2⟩ := hp
  have hx5 : is5 ((fx p b (d + 2) : Nat) : Int) := ⟨by omega, by omega⟩
  have hpq := Nat.two_pow_pos (d + 2)
  obtain ⟨x, hx⟩ : ∃ x, x = fx p b (d + 2) := ⟨_, rfl⟩
  rw [← hx] at f1 f2 hx5
  have lp := lp59 (c59 (d + 1) hok) rfl p b (d + 2) w.hp (by omega) w.hd (by omega) (.sl [] 0 .nil) (bx p b)
  rw [← hx] at lp
  have z0 : is5 (x : Int) ∧ ((0 : Int) = 0 ∨ (0 : Int) = 1) := ⟨hx5, .inl rfl⟩
  have z1 : is5 (x : Int) ∧ ((1 : Int) = 0 ∨ (1 : Int) = 1) := ⟨hx5, .inr rfl⟩
  have hpw : 2 ^ (d + 2) = 2 ^ (d + 1) + 2 ^ (d + 1) := by rw [Nat.pow_succ]; omega
  have hpp := Nat.two_pow_pos (d + 1)
  have hl1 := les_l p b (x : Int)
  have hl2 := les_r p b (x : Int)
  have ev0 : IntKind.i64.wrap (((d + 2 : Nat) : Int) - 1) = ((d + 1 : Nat) : Int) := by rw [wr _ (by omega) (by omega)]; omega
  have c0 : ((d + 2 : Nat) : Int) ≠ 0 := by omega
  have c1 : ((d + 2 : Nat) : Int) ≠ 1 := by omega
  obtain ⟨n2, hn2⟩ : ∃ n, n = 1 + tn (d + 1) := ⟨_, rfl⟩
  obtain ⟨n3, hn3⟩ : ∃ n, n = n2 + tn (d + 1) := ⟨_, rfl⟩
  obtain ⟨L2, hL2⟩ : ∃ L : List Tri, L = [((x : Int), 1, -1)] := ⟨_, rfl⟩
  obtain ⟨L3, hL3⟩ : ∃ L : List Tri, L = ((x : Int), 1, -1) :: tre p (d + 1) (pt b x 0) 1 := ⟨_, rfl⟩
  obtain ⟨L4, hL4⟩ : ∃ L : List Tri, L = ((x : Int), 1, (n2 : Int)) :: tre p (d + 1) (pt b x 0) 1 := ⟨_, rfl⟩
  obtain ⟨L5, hL5⟩ : ∃ L : List Tri, L = tre p (d + 2) b 0 := ⟨_, rfl⟩
  have k2 : L2.length = 1 := by rw [hL2]; rfl
  have k3 : L3.length = n2 := by rw [hL3, hn2]; simp [tre_len]; omega
  have k4 : L4.length = n2 := by rw [hL4, hn2]; simp [tre_len]; omega
  have e3 : L2 ++ tre p (d + 1) (pt b x 0) 1 = L3 := by rw [hL2, hL3]; simp
  have e5 : L4 ++ tre p (d + 1) (pt b x 1) n2 = L5 := by
    rw [hL4, hL5, tre_two, ← hx, show 0 + 1 + tn (d + 1) = n2 by omega]
    simp only [List.cons_append]
    rfl
  have e4 : L3.set 0 ((L3.getD 0 tri0).1, (L3.getD 0 tri0).2.1, (n2 : Int)) = L4 := by rw [hL3, hL4]; rfl
  have ht : tn (d + 2) = 1 + tn (d + 1) + tn (d + 1) := tn_succ (d + 1)
  have e6 : 0 + tn (d + 2) = n3 := by rw [hn3, hn2, ht]; omega
  have w1 : WrP p (pt b x 0) L2 (d + 1) := ⟨w.hp, by omega, by omega, by rw [k2]; omega⟩
  have w2 : WrP p (pt b x 1) L4 (d + 1) := ⟨w.hp, by omega, by omega, by rw [k4]; simp only [tn] at hn2; omega⟩
  have hne2 : L2 ≠ [] := fun e => by rw [e] at k2; simp at k2
  have hne4 : L4 ≠ [] := fun e => by rw [e] at k4; simp at k4; omega
  have hc1 : aCall (SofO (c59 (d + 1) hok) [d75.to, d78.to]) (.fn (.func 59) [] []) [cA p (pt b x 0), rN 2 1, I (d + 1 : Nat)] ⟨[bx p b, bx p b, trisA L2], [], []⟩ = some (rN 3 n2, ⟨[bx p b, bx p b, [], trisA L3], [], []⟩) := by
    have := acallO_hit (b := c59 (d + 1) hok) (cs := [d75.to, d78.to]) (h := ⟨[bx p b, bx p b, trisA L2], [], []⟩) ⟨p, pt b x 0, L2, [bx p b, bx p b]⟩ (show [cA p (pt b x 0), rN 2 1, I (d + 1 : Nat)] ++ [] = _ by rw [hL2]; rfl) ⟨rfl, w1, hne2⟩
    refine this.trans ?_
    show some (rN 3 (L2.length + tn (d + 1)), (⟨[bx p b, bx p b, [], trisA (L2 ++ tre p (d + 1) (pt b x 0) L2.length)], [], []⟩ : H)) = _
    rw [k2, e3, hn2]
  have hc2 : aCall (SofO (c59 (d + 1) hok) [d75.to, d78.to]) (.fn (.func 59) [] []) [cA p (pt b x 1), rN 3 n2, I (d + 1 : Nat)] ⟨[bx p b, bx p b, [], trisA L4], [], []⟩ = some (rN 4 n3, ⟨[bx p b, bx p b, [], [], trisA L5], [], []⟩) := by
    have := acallO_hit (b := c59 (d + 1) hok) (cs := [d75.to, d78.to]) (h := ⟨[bx p b, bx p b, [], trisA L4], [], []⟩) ⟨p, pt b x 1, L4, [bx p b, bx p b, []]⟩ (show [cA p (pt b x 1), rN 3 n2, I (d + 1 : Nat)] ++ [] = _ by rw [← k4]; rfl) ⟨rfl, w2, hne4⟩
    refine this.trans ?_
    show some (rN 4 (L4.length + tn (d + 1)), (⟨[bx p b, bx p b, [], [], trisA (L4 ++ tre p (d + 1) (pt b x 1) L4.length)], [], []⟩ : H)) = _
    rw [k4, e5, hn3]
  have hI3 : aIndexAddr Tryd.prog 38 (rN 3 n2) (I 0) = some (.ptr 3 0) := ixm_tris (i := 0) (by kernel_rfl) (by omega)
  have hS2 : aStore Tryd.prog opnN 3 (.ptr 3 2) (I n2) ⟨[bx p b, bx p b, [], trisA L3], [], []⟩ = some ⟨[bx p b, bx p b, [], trisA L4], [], []⟩ := by
    have := st2_tri (P := Tryd.prog) (t := 3) (β := opnN) (by kernel_rfl) (bs := [bx p b, bx p b, [], trisA L3]) (ts := []) (ms := []) (b := 3) (i := 0) (l := L3) (x := (n2 : Int)) rfl (by omega)
    rw [this, e4]; rfl
  clear e3 e5 e4 k3 k4
  rw [← hL5]
  rw [show tn (d + 2) = n3 by omega]
  have hc1 : aCall (SofO (c59 (d + 1) hok) [d75.to, d78.to]) (.fn (.func 59) [] []) [cA p (pt b x 0), rN 2 1, I (d + 1 : Nat)] ⟨[bx p b, bx p b, [I x, I 1, I (-1)]], [], []⟩ = some (rN 3 n2, ⟨[bx p b, bx p b, [], trisA L3], [], []⟩) := by
    rw [hL2] at hc1; exact hc1
  have hb : BodyO (EnN (c59 (d + 1) hok)) M59 Tryd.f59 [cA p b, .sl [] 0 .nil, I (d + 2 : Nat)] ⟨[bx p b], [], []⟩ (rN 4 n3, ⟨[bx p b, bx p b, [], [], trisA L5], [], []⟩) := by
    refine bodyO_s ([Ans.o Orc.dflt, Ans.loop [(1 : Nat), (2 : Nat), (3 : Nat), (7 : Nat)] [Out.mk Unit (AX.exit (0 : Nat)) [(1 : Nat), (2 : Nat), (3 : Nat), (7 : Nat)] (fun x => True) (fun x_1 => [AV.sl [] (0 : Nat) Room.nil, I (↑(d + (2 : Nat)) : Int), AV.ptr 1 0, I (↑x : Int)]) (fun x => H.mk [bx p b, bx p b] [] []) fun y => [Ans.o Orc.dflt, Ans.o (Orc.val 38 (AV.agg [I p, AV.int IntKind.u32 (↑(pt b (↑x : Int) (0 : Int)).toNat : Int)]) (H.mk [[I p, AV.int IntKind.u32 (↑b.toNat : Int)], [I p, AV.int IntKind.u32 (↑b.toNat : Int)], [I (↑x : Int), I 1, I (-1 : Int)]] [] [])), Ans.o (Orc.val 41 (I (↑(d + (1 : Nat)) : Int)) H.nil), Ans.o (Orc.val 42 (AV.msl 3 0 n2 (9223372036854775808 : Nat) (3 : Nat)) (H.mk [[I p, AV.int IntKind.u32 (↑b.toNat : Int)], [I p, AV.int IntKind.u32 (↑b.toNat : Int)], [], trisA L3] [] [])), Ans.o (Orc.val 47 (AV.ptr 3 ((0 : Nat) + (0 : Nat) * (3 : Nat))) H.nil), Ans.o (Orc.val 9999 (AV.tup []) (H.mk [bx p b, bx p b, [], trisA L4] [] [])), Ans.o (Orc.val 51 (AV.agg [I p, AV.int IntKind.u32 (↑(pt b (↑x : Int) (1 : Int)).toNat : Int)]) (H.mk [[I p, AV.int IntKind.u32 (↑b.toNat : Int)], [I p, AV.int IntKind.u32 (↑b.toNat : Int)], [], trisA L4] [] [])), Ans.o (Orc.val 54 (I (↑(d + (1 : Nat)) : Int)) H.nil), Ans.o (Orc.val 55 (AV.msl 4 0 n3 (9223372036854775808 : Nat) (3 : Nat)) (H.mk [[I p, AV.int IntKind.u32 (↑b.toNat : Int)], [I p, AV.int IntKind.u32 (↑b.toNat : Int)], [], [], trisA L5] [] []))]]]) (LoopS (Env.mk Tryd.prog (SofO (c59 (d + (1 : Nat)) hok) [d75.to, d78.to]) (Pof (P := Tryd.prog) []) opnN (300 : Nat)) (loopAt Tryd.f59 (0 : Nat)) (56 : Nat) [(1 : Nat), (2 : Nat), (3 : Nat), (7 : Nat)] [AV.sl [] (0 : Nat) Room.nil, I (↑(d + (2 : Nat)) : Int), AV.ptr 1 0, I 0] (H.mk [[I p, AV.int IntKind.u32 (↑b.toNat : Int)], [I p, AV.int IntKind.u32 (↑b.toNat : Int)]] [] []) [Out.mk Unit (AX.exit (0 : Nat)) [(1 : Nat), (2 : Nat), (3 : Nat), (7 : Nat)] (fun x => True) (fun x_1 => [AV.sl [] (0 : Nat) Room.nil, I (↑(d + (2 : Nat)) : Int), AV.ptr 1 0, I (↑x : Int)]) (fun x => H.mk [bx p b, bx p b] [] []) fun y => [Ans.o Orc.dflt, Ans.o (Orc.val 38 (AV.agg [I p, AV.int IntKind.u32 (↑(pt b (↑x : Int) (0 : Int)).toNat : Int)]) (H.mk [[I p, AV.int IntKind.u32 (↑b.toNat : Int)], [I p, AV.int IntKind.u32 (↑b.toNat : Int)], [I (↑x : Int), I 1, I (-1 : Int)]] [] [])), Ans.o (Orc.val 41 (I (↑(d + (1 : Nat)) : Int)) H.nil), Ans.o (Orc.val 42 (AV.msl 3 0 n2 (9223372036854775808 : Nat) (3 : Nat)) (H.mk [[I p, AV.int IntKind.u32 (↑b.toNat : Int)], [I p, AV.int IntKind.u32 (↑b.toNat : Int)], [], trisA L3] [] [])), Ans.o (Orc.val 47 (AV.ptr 3 ((0 : Nat) + (0 : Nat) * (3 : Nat))) H.nil), Ans.o (Orc.val 9999 (AV.tup []) (H.mk [bx p b, bx p b, [], trisA L4] [] [])), Ans.o (Orc.val 51 (AV.agg [I p, AV.int IntKind.u32 (↑(pt b (↑x : Int) (1 : Int)).toNat : Int)]) (H.mk [[I p, AV.int IntKind.u32 (↑b.toNat : Int)], [I p, AV.int IntKind.u32 (↑b.toNat : Int)], [], trisA L4] [] [])), Ans.o (Orc.val 54 (I (↑(d + (1 : Nat)) : Int)) H.nil), Ans.o (Orc.val 55 (AV.msl 4 0 n3 (9223372036854775808 : Nat) (3 : Nat)) (H.mk [[I p, AV.int IntKind.u32 (↑b.toNat : Int)], [I p, AV.int IntKind.u32 (↑b.toNat : Int)], [], [], trisA L5] [] []))]] ∧ (∀ (y : Unit), True → ∀ (u : Nat → AV), aCall (SofO (c59 (d + (1 : Nat)) hok) [d75.to, d78.to]) (AV.fn (Fn.func (75 : Nat)) [] []) [AV.agg [I p, AV.int IntKind.u32 (↑b.toNat : Int)], I (↑x : Int), I 0] (H.mk [[I p, AV.int IntKind.u32 (↑b.toNat : Int)], [I p, AV.int IntKind.u32 (↑b.toNat : Int)], [I (↑x : Int), I 1, I (-1 : Int)]] [] []) = some (AV.agg [I p, AV.int IntKind.u32 (↑(pt b (↑x : Int) (0 : Int)).toNat : Int)], H.mk [[I p, AV.int IntKind.u32 (↑b.toNat : Int)], [I p, AV.int IntKind.u32 (↑b.toNat : Int)], [I (↑x : Int), I 1, I (-1 : Int)]] [] []) ∧ aBin Tryd.prog BinOp.sub (3 : Nat) (I (↑(d + (2 : Nat)) : Int)) (I 1) = some (I (↑(d + (1 : Nat)) : Int)) ∧ aCall (SofO (c59 (d + (1 : Nat)) hok) [d75.to, d78.to]) (AV.fn (Fn.func (59 : Nat)) [] []) [AV.agg [I p, AV.int IntKind.u32 (↑(pt b (↑x : Int) (0 : Int)).toNat : Int)], AV.msl 2 0 (1 : Nat) (9223372036854775808 : Nat) (3 : Nat), I (↑(d + (1 : Nat)) : Int)] (H.mk [[I p, AV.int IntKind.u32 (↑b.toNat : Int)], [I p, AV.int IntKind.u32 (↑b.toNat : Int)], [I (↑x : Int), I 1, I (-1 : Int)]] [] []) = some (AV.msl 3 0 n2 (9223372036854775808 : Nat) (3 : Nat), H.mk [[I p, AV.int IntKind.u32 (↑b.toNat : Int)], [I p, AV.int IntKind.u32 (↑b.toNat : Int)], [], trisA L3] [] []) ∧ aIndexAddr Tryd.prog (38 : Nat) (AV.msl 3 0 n2 (9223372036854775808 : Nat) (3 : Nat)) (I 0) = some (AV.ptr 3 0) ∧ aStore Tryd.prog opnN (3 : Nat) (AV.ptr 3 2) (I (↑n2 : Int)) (H.mk [[I p, AV.int IntKind.u32 (↑b.toNat : Int)], [I p, AV.int IntKind.u32 (↑b.toNat : Int)], [], trisA L3] [] []) = some (H.mk [[I p, AV.int IntKind.u32 (↑b.toNat : Int)], [I p, AV.int IntKind.u32 (↑b.toNat : Int)], [], trisA L4] [] []) ∧ aCall (SofO (c59 (d + (1 : Nat)) hok) [d75.to, d78.to]) (AV.fn (Fn.func (75 : Nat)) [] []) [AV.agg [I p, AV.int IntKind.u32 (↑b.toNat : Int)], I (↑x : Int), I 1] (H.mk [[I p, AV.int IntKind.u32 (↑b.toNat : Int)], [I p, AV.int IntKind.u32 (↑b.toNat : Int)], [], trisA L4] [] []) = some (AV.agg [I p, AV.int IntKind.u32 (↑(pt b (↑x : Int) (1 : Int)).toNat : Int)], H.mk [[I p, AV.int IntKind.u32 (↑b.toNat : Int)], [I p, AV.int IntKind.u32 (↑b.toNat : Int)], [], trisA L4] [] []) ∧ aBin Tryd.prog BinOp.sub (3 : Nat) (I (↑(d + (2 : Nat)) : Int)) (I 1) = some (I (↑(d + (1 : Nat)) : Int)) ∧ aCall (SofO (c59 (d + (1 : Nat)) hok) [d75.to, d78.to]) (AV.fn (Fn.func (59 : Nat)) [] []) [AV.agg [I p, AV.int IntKind.u32 (↑(pt b (↑x : Int) (1 : Int)).toNat : Int)], AV.msl 3 0 n2 (9223372036854775808 : Nat) (3 : Nat), I (↑(d + (1 : Nat)) : Int)] (H.mk [[I p, AV.int IntKind.u32 (↑b.toNat : Int)], [I p, AV.int IntKind.u32 (↑b.toNat : Int)], [], trisA L4] [] []) = some (AV.msl 4 0 n3 (9223372036854775808 : Nat) (3 : Nat), H.mk [[I p, AV.int IntKind.u32 (↑b.toNat : Int)], [I p, AV.int IntKind.u32 (↑b.toNat : Int)], [], [], trisA L5] [] []) ∧ (AV.msl 4 0 n3 (9223372036854775808 : Nat) (3 : Nat), H.mk [[I p, AV.int IntKind.u32 (↑b.toNat : Int)], [I p, AV.int IntKind.u32 (↑b.toNat : Int)], [], [], trisA L5] [] []) = (AV.msl 4 0 n3 (9223372036854775808 : Nat) (3 : Nat), H.mk [[I p, AV.int IntKind.u32 (↑b.toNat : Int)], [I p, AV.int IntKind.u32 (↑b.toNat : Int)], [], [], trisA L5] [] [])) ∧ True) (by kernel_rfl) ?_
    refine ⟨lp, ?_⟩
    refine And.intro ?_ ?_
    · skip
      intro y
      intro w1
      intro u
      refine ⟨by first | exact hit75 rfl z0 | exact hit75 rfl z1, ?_⟩
      refine ⟨told_sub (by with_reducible assumption), ?_⟩
      refine ⟨by first | exact hc1 | exact hc2, ?_⟩
      refine ⟨hI3, ?_⟩
      refine ⟨hS2, ?_⟩
      refine ⟨by first | exact hit75 rfl z0 | exact hit75 rfl z1, ?_⟩
      refine ⟨told_sub (by with_reducible assumption), ?_⟩
      refine ⟨by first | exact hc1 | exact hc2, ?_⟩
      rfl
    · skip
      trivial
  exact hb.call ok59 (restN rfl) rfl
theorem t59z (p : Int) (b : BitVec 32) (b0 : CtrB Tryd.prog 0) (hb0 : b0.f = 59) :
    CallOkB Tryd.prog 0 59 [cA p b, .sl [] 0 .nil, I 0] ⟨[bx p b], [], []⟩ (.sl [] 0 .nil) ⟨[bx p b, bx p b], [], []⟩ := by
  have hb : BodyO (EnN b0) M59 Tryd.f59 [cA p b, .sl [] 0 .nil, I 0] ⟨[bx p b], [], []⟩ (.sl [] 0 .nil, ⟨[bx p b, bx p b], [], []⟩) := by
    refine bodyO_s ([Ans.o Orc.dflt]) ((AV.sl [] (0 : Nat) Room.nil, H.mk [[I p, AV.int IntKind.u32 (↑b.toNat : Int)], [I p, AV.int IntKind.u32 (↑b.toNat : Int)]] [] []) = (AV.sl [] (0 : Nat) Room.nil, H.mk [[I p, AV.int IntKind.u32 (↑b.toNat : Int)], [I p, AV.int IntKind.u32 (↑b.toNat : Int)]] [] [])) (by kernel_rfl) ?_
    rfl
  exact hb.call ok59 (restN hb0) rfl
end
end Go.Proofs.Lrn

