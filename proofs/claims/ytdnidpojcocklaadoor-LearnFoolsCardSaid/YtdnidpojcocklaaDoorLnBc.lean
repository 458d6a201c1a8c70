/- Layer 4: the deepest tree, written by the program: its bodies. -/
import Derived.Test.YtdnidpojcocklaaDoorLnBb
import Derived.KernelRfl
set_option linter.unusedSimpArgs false
set_option linter.unusedVariables false
set_option linter.unnecessarySimpa false
set_option maxHeartbeats 4000000
set_option maxRecDepth 100000
namespace Go.Proofs.Lrn
open Go Go.VM
theorem tre_two {p : Int} {d : Nat} {b : BitVec 32} {n : Nat} : tre p (d + 2) b n = ((fx p b (d + 2) : Int), ((n + 1 : Nat) : Int), ((n + 1 + tn (d + 1) : Nat) : Int)) :: (tre p (d + 1) (pt b (fx p b (d + 2)) 0) (n + 1) ++ tre p (d + 1) (pt b (fx p b (d + 2)) 1) (n + 1 + tn (d + 1))) := by
  rw [tre, if_neg (by omega)]
theorem set_end {l m : List Tri} {x y : Tri} : (l ++ x :: m).set l.length y = l ++ y :: m := by
  rw [List.set_append_right _ _ (Nat.le_refl _), Nat.sub_self]; rfl
theorem getD_end {l m : List Tri} {x : Tri} : (l ++ x :: m).getD l.length tri0 = x := by
  simp [List.getD_eq_getElem?_getD]
section
attribute [local instance] wrN
theorem keepN {B : List (List AV)} {L : List Tri} {R : Nat} (hR : 1 ≤ R) (h0 : B[0]? = some []) (h1 : B[R]? = some (trisA L)) : KeepOk (fun i => if i = 1 then R else i) 1 B [[], trisA L] where
  n := by simp
  id i hi := by simp only [show i ≠ 1 by omega, if_false]
  inj i j hi hj h := by
    have hi : i < 2 := hi
    have hj : j < 2 := hj
    by_cases c1 : i = 1 <;> by_cases c2 : j = 1
    · exact .inl (by omega)
    · simp only [c1, if_true, c2, if_false] at h; omega
    · simp only [c1, if_false, c2, if_true] at h; omega
    · exact .inl (by omega)
  cells i cs h := by
    match i, h with
    | 0, h => cases h; exact ⟨[], h0, Nat.le_refl _, .nil⟩
    | 1, h =>
      cases h
      refine ⟨trisA L, h1, Nat.le_refl _, ?_⟩
      rw [List.take_length]
      exact .same (trisA_bnds 0 0 0 L)
    | i + 2, h => simp at h
theorem r59a (b0 : CtrB Tryd.prog 0) (hb : b0.f = 59) (p : Int) (b : BitVec 32) (l : List Tri) (w : WrP p b l 1) (hl : l ≠ []) :
    BodyO (EnN b0) M59 Tryd.f59 [cA p b, rN 0 l.length, I 1] ⟨[trisA l], [], []⟩ (rN 2 (l.length + 1), ⟨[[], bx p b, trisA (l ++ [((fx p b 1 : Int), -1, -1)])], [], []⟩) := by
  have hp := w.hp
  have hn := w.n
  have hd5 : (1 : Nat) ≤ 9 := by
    apply Classical.byContradiction; intro q
    have : 2 ^ 10 ≤ 2 ^ (1) := Nat.pow_le_pow_right (by decide) (by omega)
    omega
  obtain ⟨f1, f2, f3⟩ := fx_spec w.d1 w.hd
  obtain ⟨q1, q2⟩ := hp
  have hx5 : is5 ((fx p b (1) : Nat) : Int) := ⟨by omega, by omega⟩
  have h0 : 0 < l.length := List.length_pos_iff.2 hl
  have lp := lp59 b0 hb p b 1 w.hp (by omega) w.hd (by omega) (rN 0 l.length) (trisA l)
  have hA : aAppend Tryd.prog 38 38 (rN 0 l.length) (.sl [I (fx p b 1 : Nat), I (-1), I (-1)] 1 .full) ⟨[trisA l, bx p b], [], []⟩ = some (rN 2 (l.length + 1), ⟨[[], bx p b, trisA (l ++ [((fx p b 1 : Int), -1, -1)])], [], []⟩) := ap_tri (P := Tryd.prog) (t := 38) (by kernel_rfl) (R := 0) (l := l) (x := (fx p b 1 : Int)) (y := -1) (z := -1) (h := ⟨[trisA l, bx p b], [], []⟩) rfl h0 (by omega)
  refine bodyO_s ([Ans.o Orc.dflt, Ans.loop [(1 : Nat), (2 : Nat), (3 : Nat), (7 : Nat)] [Out.mk Unit (AX.exit (0 : Nat)) [(1 : Nat), (2 : Nat), (3 : Nat), (7 : Nat)] (fun x => True) (fun x => [rN (0 : Nat) l.length, I (↑(1 : Nat) : Int), AV.ptr 1 0, I (↑(fx p b (1 : Nat)) : Int)]) (fun x => H.mk [trisA l, bx p b] [] []) fun y => [Ans.o (Orc.val 26 (rN (2 : Nat) (l.length + (1 : Nat))) (H.mk [[], bx p b, trisA (l ++ [((↑(fx p b (1 : Nat)) : Int), (-1 : Int), (-1 : Int))])] [] [])), Ans.o Orc.dflt]]]) (LoopS (Env.mk Tryd.prog (SofO b0 [d75.to, d78.to]) (Pof (P := Tryd.prog) []) opnN (300 : Nat)) (loopAt Tryd.f59 (0 : Nat)) (56 : Nat) [(1 : Nat), (2 : Nat), (3 : Nat), (7 : Nat)] [AV.msl 0 0 l.length (9223372036854775808 : Nat) (3 : Nat), I 1, AV.ptr 1 0, I 0] (H.mk [trisA l, [I p, AV.int IntKind.u32 (↑b.toNat : Int)]] [] []) [Out.mk Unit (AX.exit (0 : Nat)) [(1 : Nat), (2 : Nat), (3 : Nat), (7 : Nat)] (fun x => True) (fun x => [rN (0 : Nat) l.length, I (↑(1 : Nat) : Int), AV.ptr 1 0, I (↑(fx p b (1 : Nat)) : Int)]) (fun x => H.mk [trisA l, bx p b] [] []) fun y => [Ans.o (Orc.val 26 (rN (2 : Nat) (l.length + (1 : Nat))) (H.mk [[], bx p b, trisA (l ++ [((↑(fx p b (1 : Nat)) : Int), (-1 : Int), (-1 : Int))])] [] [])), Ans.o Orc.dflt]] ∧ (∀ (y : Unit), True → ∀ (u : Nat → AV), aAppend Tryd.prog (38 : Nat) (38 : Nat) (AV.msl 0 0 l.length (9223372036854775808 : Nat) (3 : Nat)) (AV.sl [I (↑(fx p b (1 : Nat)) : Int), I (-1 : Int), I (-1 : Int)] (1 : Nat) Room.full) (H.mk [trisA l, [I p, AV.int IntKind.u32 (↑b.toNat : Int)]] [] []) = some (AV.msl 2 0 (l.length + (1 : Nat)) (9223372036854775808 : Nat) (3 : Nat), H.mk [[], [I p, AV.int IntKind.u32 (↑b.toNat : Int)], trisA (l ++ [((↑(fx p b (1 : Nat)) : Int), (-1 : Int), (-1 : Int))])] [] []) ∧ (AV.msl 2 0 (l.length + (1 : Nat)) (9223372036854775808 : Nat) (3 : Nat), H.mk [[], [I p, AV.int IntKind.u32 (↑b.toNat : Int)], trisA (l ++ [((↑(fx p b (1 : Nat)) : Int), (-1 : Int), (-1 : Int))])] [] []) = (AV.msl 2 0 (l.length + (1 : Nat)) (9223372036854775808 : Nat) (3 : Nat), H.mk [[], [I p, AV.int IntKind.u32 (↑b.toNat : Int)], trisA (l ++ [((↑(fx p b (1 : Nat)) : Int), (-1 : Int), (-1 : Int))])] [] [])) ∧ True) (by kernel_rfl) ?_
  refine ⟨lp, ?_⟩
  refine And.intro ?_ ?_
  · skip
    intro y
    intro w1
    intro u
    refine ⟨hA, ?_⟩
    rfl
  · skip
    trivial
theorem r59s (d : Nat) (hok : Okw (d + 1)) (p : Int) (b : BitVec 32) (l : List Tri) (w : WrP p b l (d + 2)) (hl : l ≠ []) :
    BodyO (EnN (c59 (d + 1) hok)) M59 Tryd.f59 [cA p b, rN 0 l.length, I (d + 2 : Nat)] ⟨[trisA l], [], []⟩ (rN 4 (l.length + tn (d + 2)), ⟨[[], bx p b, [], [], trisA (l ++ tre p (d + 2) b l.length)], [], []⟩) := by
  have hp := w.hp
  have hn := w.n
  have hd5 : d + 2 ≤ 9 := by
    apply Classical.byContradiction; intro q
    have : 2 ^ 10 ≤ 2 ^ (d + 2) := Nat.pow_le_pow_right (by decide) (by omega)
    omega
  obtain ⟨f1, f2, f3⟩ := fx_spec w.d1 w.hd
  obtain ⟨q1, q2⟩ := hp
  have hx5 : is5 ((fx p b (d + 2) : Nat) : Int) := ⟨by omega, by omega⟩
  have h0 : 0 < l.length := List.length_pos_iff.2 hl
  have hpq := Nat.two_pow_pos (d + 2)
  obtain ⟨x, hx⟩ : ∃ x, x = fx p b (d + 2) := ⟨_, rfl⟩
  rw [← hx] at f1 f2 hx5
  have lp := lp59 (c59 (d + 1) hok) rfl p b (d + 2) w.hp (by omega) w.hd (by omega) (rN 0 l.length) (trisA l)
  rw [← hx] at lp
  have hA : aAppend Tryd.prog 38 38 (rN 0 l.length) (.sl [I (x : Nat), I (-1), I (-1)] 1 .full) ⟨[trisA l, bx p b], [], []⟩ = some (rN 2 (l.length + 1), ⟨[[], bx p b, trisA (l ++ [((x : Int), -1, -1)])], [], []⟩) := ap_tri (P := Tryd.prog) (t := 38) (by kernel_rfl) (R := 0) (l := l) (x := (x : Int)) (y := -1) (z := -1) (h := ⟨[trisA l, bx p b], [], []⟩) rfl h0 (by omega)
  have z0 : is5 (x : Int) ∧ ((0 : Int) = 0 ∨ (0 : Int) = 1) := ⟨hx5, .inl rfl⟩
  have z1 : is5 (x : Int) ∧ ((1 : Int) = 0 ∨ (1 : Int) = 1) := ⟨hx5, .inr rfl⟩
  have hpw : 2 ^ (d + 2) = 2 ^ (d + 1) + 2 ^ (d + 1) := by rw [Nat.pow_succ]; omega
  have hpp := Nat.two_pow_pos (d + 1)
  have hl1 := les_l p b (x : Int)
  have hl2 := les_r p b (x : Int)
  have ev0 : IntKind.i64.wrap (((d + 2 : Nat) : Int) - 1) = ((d + 1 : Nat) : Int) := by rw [wr _ (by omega) (by omega)]; omega
  have c0 : ((d + 2 : Nat) : Int) ≠ 0 := by omega
  have c1 : ((d + 2 : Nat) : Int) ≠ 1 := by omega
  obtain ⟨n1, hn1⟩ : ∃ n, n = l.length + 1 := ⟨_, rfl⟩
  obtain ⟨n2, hn2⟩ : ∃ n, n = n1 + tn (d + 1) := ⟨_, rfl⟩
  obtain ⟨n3, hn3⟩ : ∃ n, n = n2 + tn (d + 1) := ⟨_, rfl⟩
  obtain ⟨L1, hL1⟩ : ∃ L : List Tri, L = l ++ [((x : Int), -1, -1)] := ⟨_, rfl⟩
  obtain ⟨L2, hL2⟩ : ∃ L : List Tri, L = l ++ [((x : Int), (n1 : Int), -1)] := ⟨_, rfl⟩
  obtain ⟨L3, hL3⟩ : ∃ L : List Tri, L = l ++ ((x : Int), (n1 : Int), -1) :: tre p (d + 1) (pt b x 0) n1 := ⟨_, rfl⟩
  obtain ⟨L4, hL4⟩ : ∃ L : List Tri, L = l ++ ((x : Int), (n1 : Int), (n2 : Int)) :: tre p (d + 1) (pt b x 0) n1 := ⟨_, rfl⟩
  obtain ⟨L5, hL5⟩ : ∃ L : List Tri, L = l ++ tre p (d + 2) b l.length := ⟨_, rfl⟩
  have k1 : L1.length = n1 := by rw [hL1, hn1]; simp
  have k2 : L2.length = n1 := by rw [hL2, hn1]; simp
  have k3 : L3.length = n2 := by rw [hL3, hn2, hn1]; simp [tre_len]; omega
  have k4 : L4.length = n2 := by rw [hL4, hn2, hn1]; simp [tre_len]; omega
  have e3 : L2 ++ tre p (d + 1) (pt b x 0) n1 = L3 := by rw [hL2, hL3]; simp
  have e5 : L4 ++ tre p (d + 1) (pt b x 1) n2 = L5 := by
    rw [hL4, hL5, tre_two, ← hx, ← hn1, ← hn2]
    simp only [List.append_assoc, List.cons_append]
  have e2 : L1.set l.length ((L1.getD l.length tri0).1, (n1 : Int), (L1.getD l.length tri0).2.2) = L2 := by rw [hL1, hL2, set_end, getD_end]
  have e4 : L3.set l.length ((L3.getD l.length tri0).1, (L3.getD l.length tri0).2.1, (n2 : Int)) = L4 := by rw [hL3, hL4, set_end, getD_end]
  have ht : tn (d + 2) = 1 + tn (d + 1) + tn (d + 1) := tn_succ (d + 1)
  have e6 : l.length + tn (d + 2) = n3 := by rw [hn3, hn2, hn1, ht]; omega
  have w1 : WrP p (pt b x 0) L2 (d + 1) := ⟨w.hp, by omega, by omega, by rw [k2]; omega⟩
  have w2 : WrP p (pt b x 1) L4 (d + 1) := ⟨w.hp, by omega, by omega, by rw [k4]; simp only [tn] at hn2; omega⟩
  have hne2 : L2 ≠ [] := fun e => by rw [e] at k2; simp at k2; omega
  have hne4 : L4 ≠ [] := fun e => by rw [e] at k4; simp at k4; omega
  have hc1 : aCall (SofO (c59 (d + 1) hok) [d75.to, d78.to]) (.fn (.func 59) [] []) [cA p (pt b x 0), rN 2 n1, I (d + 1 : Nat)] ⟨[[], bx p b, trisA L2], [], []⟩ = some (rN 3 n2, ⟨[[], bx p b, [], trisA L3], [], []⟩) := by
    have := acallO_hit (b := c59 (d + 1) hok) (cs := [d75.to, d78.to]) (h := ⟨[[], bx p b, trisA L2], [], []⟩) ⟨p, pt b x 0, L2, [[], bx p b]⟩ (show [cA p (pt b x 0), rN 2 n1, I (d + 1 : Nat)] ++ [] = _ by rw [← k2]; rfl) ⟨rfl, w1, hne2⟩
    refine this.trans ?_
    show some (rN 3 (L2.length + tn (d + 1)), (⟨[[], bx p b, [], trisA (L2 ++ tre p (d + 1) (pt b x 0) L2.length)], [], []⟩ : H)) = _
    rw [k2, e3, hn2]
  have hc2 : aCall (SofO (c59 (d + 1) hok) [d75.to, d78.to]) (.fn (.func 59) [] []) [cA p (pt b x 1), rN 3 n2, I (d + 1 : Nat)] ⟨[[], bx p b, [], trisA L4], [], []⟩ = some (rN 4 n3, ⟨[[], bx p b, [], [], trisA L5], [], []⟩) := by
    have := acallO_hit (b := c59 (d + 1) hok) (cs := [d75.to, d78.to]) (h := ⟨[[], bx p b, [], trisA L4], [], []⟩) ⟨p, pt b x 1, L4, [[], bx p b, []]⟩ (show [cA p (pt b x 1), rN 3 n2, I (d + 1 : Nat)] ++ [] = _ by rw [← k4]; rfl) ⟨rfl, w2, hne4⟩
    refine this.trans ?_
    show some (rN 4 (L4.length + tn (d + 1)), (⟨[[], bx p b, [], [], trisA (L4 ++ tre p (d + 1) (pt b x 1) L4.length)], [], []⟩ : H)) = _
    rw [k4, e5, hn3]
  have hI2 : aIndexAddr Tryd.prog 38 (rN 2 n1) (I l.length) = some (.ptr 2 (0 + l.length * 3)) := ixm_tris (by kernel_rfl) (by omega)
  have hI3 : aIndexAddr Tryd.prog 38 (rN 3 n2) (I l.length) = some (.ptr 3 (0 + l.length * 3)) := ixm_tris (by kernel_rfl) (by omega)
  have hS1 : aStore Tryd.prog opnN 3 (.ptr 2 (0 + l.length * 3 + 1)) (I n1) ⟨[[], bx p b, trisA L1], [], []⟩ = some ⟨[[], bx p b, trisA L2], [], []⟩ := by
    have := st1_tri (P := Tryd.prog) (t := 3) (β := opnN) (by kernel_rfl) (bs := [[], bx p b, trisA L1]) (ts := []) (ms := []) (b := 2) (i := l.length) (l := L1) (x := (n1 : Int)) rfl (by omega)
    rw [this, e2]; rfl
  have hS2 : aStore Tryd.prog opnN 3 (.ptr 3 (0 + l.length * 3 + 2)) (I n2) ⟨[[], bx p b, [], trisA L3], [], []⟩ = some ⟨[[], bx p b, [], trisA L4], [], []⟩ := by
    have := st2_tri (P := Tryd.prog) (t := 3) (β := opnN) (by kernel_rfl) (bs := [[], bx p b, [], trisA L3]) (ts := []) (ms := []) (b := 3) (i := l.length) (l := L3) (x := (n2 : Int)) rfl (by omega)
    rw [this, e4]; rfl
  clear e3 e5 e2 e4 k1 k2 k3 k4
  rw [← hL1, ← hn1] at hA
  rw [← hL5, e6]
  refine bodyO_s ([Ans.o Orc.dflt, Ans.loop [(1 : Nat), (2 : Nat), (3 : Nat), (7 : Nat)] [Out.mk Unit (AX.exit (0 : Nat)) [(1 : Nat), (2 : Nat), (3 : Nat), (7 : Nat)] (fun x => True) (fun x_1 => [rN (0 : Nat) l.length, I (↑(d + (2 : Nat)) : Int), AV.ptr 1 0, I (↑x : Int)]) (fun x => H.mk [trisA l, bx p b] [] []) fun y => [Ans.o (Orc.val 26 (rN (2 : Nat) n1) (H.mk [[], bx p b, trisA L1] [] [])), Ans.o Orc.dflt, Ans.o (Orc.val 34 (AV.ptr 2 ((0 : Nat) + l.length * (3 : Nat))) H.nil), Ans.o (Orc.val 9999 (AV.tup []) (H.mk [[], bx p b, trisA L2] [] [])), Ans.o (Orc.val 38 (AV.agg [I p, AV.int IntKind.u32 (↑(pt b (↑x : Int) (0 : Int)).toNat : Int)]) (H.mk [[], [I p, AV.int IntKind.u32 (↑b.toNat : Int)], trisA L2] [] [])), Ans.o (Orc.val 41 (I (↑(d + (1 : Nat)) : Int)) H.nil), Ans.o (Orc.val 42 (AV.msl 3 0 n2 (9223372036854775808 : Nat) (3 : Nat)) (H.mk [[], [I p, AV.int IntKind.u32 (↑b.toNat : Int)], [], trisA L3] [] [])), Ans.o (Orc.val 47 (AV.ptr 3 ((0 : Nat) + l.length * (3 : Nat))) H.nil), Ans.o (Orc.val 9999 (AV.tup []) (H.mk [[], bx p b, [], trisA L4] [] [])), Ans.o (Orc.val 51 (AV.agg [I p, AV.int IntKind.u32 (↑(pt b (↑x : Int) (1 : Int)).toNat : Int)]) (H.mk [[], [I p, AV.int IntKind.u32 (↑b.toNat : Int)], [], trisA L4] [] [])), Ans.o (Orc.val 54 (I (↑(d + (1 : Nat)) : Int)) H.nil), Ans.o (Orc.val 55 (AV.msl 4 0 n3 (9223372036854775808 : Nat) (3 : Nat)) (H.mk [[], [I p, AV.int IntKind.u32 (↑b.toNat : Int)], [], [], trisA L5] [] []))]]]) (LoopS (Env.mk Tryd.prog (SofO (c59 (d + (1 : Nat)) hok) [d75.to, d78.to]) (Pof (P := Tryd.prog) []) opnN (300 : Nat)) (loopAt Tryd.f59 (0 : Nat)) (56 : Nat) [(1 : Nat), (2 : Nat), (3 : Nat), (7 : Nat)] [AV.msl 0 0 l.length (9223372036854775808 : Nat) (3 : Nat), I (↑(d + (2 : Nat)) : Int), AV.ptr 1 0, I 0] (H.mk [trisA l, [I p, AV.int IntKind.u32 (↑b.toNat : Int)]] [] []) [Out.mk Unit (AX.exit (0 : Nat)) [(1 : Nat), (2 : Nat), (3 : Nat), (7 : Nat)] (fun x => True) (fun x_1 => [rN (0 : Nat) l.length, I (↑(d + (2 : Nat)) : Int), AV.ptr 1 0, I (↑x : Int)]) (fun x => H.mk [trisA l, bx p b] [] []) fun y => [Ans.o (Orc.val 26 (rN (2 : Nat) n1) (H.mk [[], bx p b, trisA L1] [] [])), Ans.o Orc.dflt, Ans.o (Orc.val 34 (AV.ptr 2 ((0 : Nat) + l.length * (3 : Nat))) H.nil), Ans.o (Orc.val 9999 (AV.tup []) (H.mk [[], bx p b, trisA L2] [] [])), Ans.o (Orc.val 38 (AV.agg [I p, AV.int IntKind.u32 (↑(pt b (↑x : Int) (0 : Int)).toNat : Int)]) (H.mk [[], [I p, AV.int IntKind.u32 (↑b.toNat : Int)], trisA L2] [] [])), Ans.o (Orc.val 41 (I (↑(d + (1 : Nat)) : Int)) H.nil), Ans.o (Orc.val 42 (AV.msl 3 0 n2 (9223372036854775808 : Nat) (3 : Nat)) (H.mk [[], [I p, AV.int IntKind.u32 (↑b.toNat : Int)], [], trisA L3] [] [])), Ans.o (Orc.val 47 (AV.ptr 3 ((0 : Nat) + l.length * (3 : Nat))) H.nil), Ans.o (Orc.val 9999 (AV.tup []) (H.mk [[], bx p b, [], trisA L4] [] [])), Ans.o (Orc.val 51 (AV.agg [I p, AV.int IntKind.u32 (↑(pt b (↑x : Int) (1 : Int)).toNat : Int)]) (H.mk [[], [I p, AV.int IntKind.u32 (↑b.toNat : Int)], [], trisA L4] [] [])), Ans.o (Orc.val 54 (I (↑(d + (1 : Nat)) : Int)) H.nil), Ans.o (Orc.val 55 (AV.msl 4 0 n3 (9223372036854775808 : Nat) (3 : Nat)) (H.mk [[], [I p, AV.int IntKind.u32 (↑b.toNat : Int)], [], [], trisA L5] [] []))]] ∧ (∀ (y : Unit), True → ∀ (u : Nat → AV), aAppend Tryd.prog (38 : Nat) (38 : Nat) (AV.msl 0 0 l.length (9223372036854775808 : Nat) (3 : Nat)) (AV.sl [I (↑x : Int), I (-1 : Int), I (-1 : Int)] (1 : Nat) Room.full) (H.mk [trisA l, [I p, AV.int IntKind.u32 (↑b.toNat : Int)]] [] []) = some (AV.msl 2 0 n1 (9223372036854775808 : Nat) (3 : Nat), H.mk [[], [I p, AV.int IntKind.u32 (↑b.toNat : Int)], trisA L1] [] []) ∧ aIndexAddr Tryd.prog (38 : Nat) (AV.msl 2 0 n1 (9223372036854775808 : Nat) (3 : Nat)) (I (↑l.length : Int)) = some (AV.ptr 2 ((0 : Nat) + l.length * (3 : Nat))) ∧ aStore Tryd.prog opnN (3 : Nat) (AV.ptr 2 ((0 : Nat) + l.length * (3 : Nat) + #[Field.mk "Point" (3 : Nat) (0 : Nat) false "" "" (0 : Nat), Field.mk "Zero" (3 : Nat) (1 : Nat) false "" "" (8 : Nat), Field.mk "One" (3 : Nat) (2 : Nat) false "" "" (16 : Nat)][(1 : Nat)].offset)) (I (↑n1 : Int)) (H.mk [[], [I p, AV.int IntKind.u32 (↑b.toNat : Int)], trisA L1] [] []) = some (H.mk [[], [I p, AV.int IntKind.u32 (↑b.toNat : Int)], trisA L2] [] []) ∧ aCall (SofO (c59 (d + (1 : Nat)) hok) [d75.to, d78.to]) (AV.fn (Fn.func (75 : Nat)) [] []) [AV.agg [I p, AV.int IntKind.u32 (↑b.toNat : Int)], I (↑x : Int), I 0] (H.mk [[], [I p, AV.int IntKind.u32 (↑b.toNat : Int)], trisA L2] [] []) = some (AV.agg [I p, AV.int IntKind.u32 (↑(pt b (↑x : Int) (0 : Int)).toNat : Int)], H.mk [[], [I p, AV.int IntKind.u32 (↑b.toNat : Int)], trisA L2] [] []) ∧ aBin Tryd.prog BinOp.sub (3 : Nat) (I (↑(d + (2 : Nat)) : Int)) (I 1) = some (I (↑(d + (1 : Nat)) : Int)) ∧ aCall (SofO (c59 (d + (1 : Nat)) hok) [d75.to, d78.to]) (AV.fn (Fn.func (59 : Nat)) [] []) [AV.agg [I p, AV.int IntKind.u32 (↑(pt b (↑x : Int) (0 : Int)).toNat : Int)], AV.msl 2 0 n1 (9223372036854775808 : Nat) (3 : Nat), I (↑(d + (1 : Nat)) : Int)] (H.mk [[], [I p, AV.int IntKind.u32 (↑b.toNat : Int)], trisA L2] [] []) = some (AV.msl 3 0 n2 (9223372036854775808 : Nat) (3 : Nat), H.mk [[], [I p, AV.int IntKind.u32 (↑b.toNat : Int)], [], trisA L3] [] []) ∧ aIndexAddr Tryd.prog (38 : Nat) (AV.msl 3 0 n2 (9223372036854775808 : Nat) (3 : Nat)) (I (↑l.length : Int)) = some (AV.ptr 3 ((0 : Nat) + l.length * (3 : Nat))) ∧ aStore Tryd.prog opnN (3 : Nat) (AV.ptr 3 ((0 : Nat) + l.length * (3 : Nat) + #[Field.mk "Point" (3 : Nat) (0 : Nat) false "" "" (0 : Nat), Field.mk "Zero" (3 : Nat) (1 : Nat) false "" "" (8 : Nat), Field.mk "One" (3 : Nat) (2 : Nat) false "" "" (16 : Nat)][(2 : Nat)].offset)) (I (↑n2 : Int)) (H.mk [[], [I p, AV.int IntKind.u32 (↑b.toNat : Int)], [], trisA L3] [] []) = some (H.mk [[], [I p, AV.int IntKind.u32 (↑b.toNat : Int)], [], trisA L4] [] []) ∧ aCall (SofO (c59 (d + (1 : Nat)) hok) [d75.to, d78.to]) (AV.fn (Fn.func (75 : Nat)) [] []) [AV.agg [I p, AV.int IntKind.u32 (↑b.toNat : Int)], I (↑x : Int), I 1] (H.mk [[], [I p, AV.int IntKind.u32 (↑b.toNat : Int)], [], trisA L4] [] []) = some (AV.agg [I p, AV.int IntKind.u32 (↑(pt b (↑x : Int) (1 : Int)).toNat : Int)], H.mk [[], [I p, AV.int IntKind.u32 (↑b.toNat : Int)], [], trisA L4] [] []) ∧ aBin Tryd.prog BinOp.sub (3 : Nat) (I (↑(d + (2 : Nat)) : Int)) (I 1) = some (I (↑(d + (1 : Nat)) : Int)) ∧ aCall (SofO (c59 (d + (1 : Nat)) hok) [d75.to, d78.to]) (AV.fn (Fn.func (59 : Nat)) [] []) [AV.agg [I p, AV.int IntKind.u32 (↑(pt b (↑x : Int) (1 : Int)).toNat : Int)], AV.msl 3 0 n2 (9223372036854775808 : Nat) (3 : Nat), I (↑(d + (1 : Nat)) : Int)] (H.mk [[], [I p, AV.int IntKind.u32 (↑b.toNat : Int)], [], trisA L4] [] []) = some (AV.msl 4 0 n3 (9223372036854775808 : Nat) (3 : Nat), H.mk [[], [I p, AV.int IntKind.u32 (↑b.toNat : Int)], [], [], trisA L5] [] []) ∧ (AV.msl 4 0 n3 (9223372036854775808 : Nat) (3 : Nat), H.mk [[], [I p, AV.int IntKind.u32 (↑b.toNat : Int)], [], [], trisA L5] [] []) = (AV.msl 4 0 n3 (9223372036854775808 : Nat) (3 : Nat), H.mk [[], [I p, AV.int IntKind.u32 (↑b.toNat : Int)], [], [], trisA L5] [] [])) ∧ True) (by kernel_rfl) ?_
  refine ⟨lp, ?_⟩
  refine And.intro ?_ ?_
  · skip
    intro y
    intro w1
    intro u
    refine ⟨hA, ?_⟩
    refine ⟨by first | exact hI2 | exact hI3, ?_⟩
    refine ⟨by first | exact hS1 | exact hS2, ?_⟩
    refine ⟨by first | exact hit75 rfl z0 | exact hit75 rfl z1, ?_⟩
    refine ⟨told_sub (by with_reducible assumption), ?_⟩
    refine ⟨by first | exact hc1 | exact hc2, ?_⟩
    refine ⟨by first | exact hI2 | exact hI3, ?_⟩
    refine ⟨by first | exact hS1 | exact hS2, ?_⟩
    refine ⟨by first | exact hit75 rfl z0 | exact hit75 rfl z1, ?_⟩
    refine ⟨told_sub (by with_reducible assumption), ?_⟩
    refine ⟨by first | exact hc1 | exact hc2, ?_⟩
    rfl
  · skip
    trivial
end
end Go.Proofs.Lrn

