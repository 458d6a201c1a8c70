/- Layer 9: scores and averages. -/
import Derived.Test.YthodoagjojmliaaBtK
import Derived.Test.YthodoagjojmliaaVm8
import Derived.KernelRfl
set_option linter.unusedSimpArgs false
set_option linter.unusedVariables false
set_option linter.unnecessarySimpa false
set_option maxHeartbeats 4000000
set_option maxRecDepth 100000
namespace Go.Proofs.Bts
open Go Go.VM

/-- the average that the document asks for, of two forecasts in parts -/
abbrev avV (a : List Int) (D : Int) (b : List Int) (E : Int) : AV := .agg [I (lwN (avN a D b E) (avD D E)), I (lwD (avN a D b E) (avD D E))]
/-- the common multiple, where there is one -/
noncomputable def c54d : PCtr Try.prog where
  f := 54
  X := List Pr × Room
  args x := [pz x.1 x.2]
  pre x := pN x.1 x.2
  v x := I (dn x.1 x.1.length : Nat)
  det := by rintro ⟨l, r⟩ ⟨m, s⟩ e _ _; rw [pz_det (List.cons.inj e).1]
  ok := by
    rintro ⟨l, r⟩ hp
    have := c54.ok (l, r) hp.1
    have e : c54.v (l, r) = I (dn l l.length : Nat) := by show I ((mul l : Nat) : Int) = _; rw [mul_t (jOK_iff.1 hp.2).1]
    rw [e] at this
    exact this
abbrev o51 (l : List Pr) (m : List Pr) : List Out := [.mk Unit (.exit 0) [4, 5, 6, 9, 10] (fun _ => True) (fun _ => [.ptr 0 0, I (dn l l.length : Nat), I (dn m m.length : Nat), I (pI (nums l) (nums m) l.length), I (pI (nums l) (nums l) l.length)]) (fun _ => hZ2) (fun _ => [])]
theorem simp51 : allSimpleM none1 (loopAt Try.f51 0) = true := by kernel_rfl
abbrev pE2 (l : List Pr) (m : List Pr) : Prop := (jOK l ∧ jOK m) ∧ (l.length ≤ 5 ∧ m.length = l.length) ∧ dn l l.length ≤ 30000 ∧ dn m m.length ≤ 30000
theorem bn_3 {l : List Pr} (h : jOK l) (hd : dn l l.length ≤ 30000) : bnI (nums l) 30000 := fun i hi => by
  have := nums_b h i hi
  omega
theorem lp51 (l m : List Pr) (hp : pE2 l m) :
    LoopS (En6 [c54d.to, c102.to, c94.to]) (loopAt Try.f51 0) 62 [4, 5, 6, 7, 8, 9, 10, 20, 21, 22] [.ptr 0 0, I (dn l l.length : Nat), I (dn m m.length : Nat), ls (nums l) (rn (nums l)), ls (nums m) (rn (nums m)), I 0, I 0, ls (nums l) (rn (nums l)), I (nums l).length, I 0] hZ2 (o51 l m) := by
  have hR : Rests (En6 [c54d.to, c102.to, c94.to]) none1 := rests mixed (.pure _ (.pure _ (.pure _ .nil)))
  refine loop_s hR simp51 none (by intro _ h; cases h) (fun j vs h => h = hZ2 ∧ vs = [.ptr 0 0, I (dn l l.length : Nat), I (dn m m.length : Nat), ls (nums l) (rn (nums l)), ls (nums m) (rn (nums m)), I (pI (nums l) (nums m) j), I (pI (nums l) (nums l) j), ls (nums l) (rn (nums l)), I (nums l).length, I (j : Nat)]) l.length ⟨rfl, rfl⟩ (by intro _ h; cases h) ?_
  obtain ⟨⟨j1, j2⟩, ⟨h5, hlm⟩, d1, d2⟩ := hp
  have el : (nums l).length = l.length := nmL_len _ _
  have em : (nums m).length = m.length := nmL_len _ _
  have ha := bn_3 j1 d1
  have hb := bn_3 j2 d2
  rintro j vs h hj ⟨rfl, rfl⟩
  by_cases hz : (j : Int) < (nums l).length
  · have hza : j < (nums l).length := by omega
    have hzb : j < (nums m).length := by omega
    have hzb' : (j : Int) < (nums m).length := by omega
    have hr1 := rok_idx (rn_rok (nums l)) hza
    have hr2 := rok_idx (rn_rok (nums m)) hzb
    have ev0 := wj1 (j := j) (by omega)
    have h1 := ha j hza
    have h2 := hb j hzb
    have b1 := pI_b ha hb (by decide) (j := j) (by omega) (by omega)
    have b2 := pI_b ha hb (by decide) (j := j + 1) (by omega) (by omega)
    have b3 := pI_b ha ha (by decide) (j := j) (by omega) (by omega)
    have b4 := pI_b ha ha (by decide) (j := j + 1) (by omega) (by omega)
    have b5 := mul_b h1 h2
    have b6 := mul_b h1 h1
    have e1 : pI (nums l) (nums m) (j + 1) = pI (nums l) (nums m) j + ia (nums l) j * ia (nums m) j := rfl
    have e2 : pI (nums l) (nums l) (j + 1) = pI (nums l) (nums l) j + ia (nums l) j * ia (nums l) j := rfl
    have ev1 : IntKind.i64.wrap (ia (nums l) j * ia (nums m) j) = ia (nums l) j * ia (nums m) j := wr _ (by omega) (by omega)
    have ev2 : IntKind.i64.wrap (pI (nums l) (nums m) j + ia (nums l) j * ia (nums m) j) = pI (nums l) (nums m) (j + 1) := by rw [← e1]; exact wr _ (by omega) (by omega)
    have ev3 : IntKind.i64.wrap (ia (nums l) j * ia (nums l) j) = ia (nums l) j * ia (nums l) j := wr _ (by omega) (by omega)
    have ev4 : IntKind.i64.wrap (pI (nums l) (nums l) j + ia (nums l) j * ia (nums l) j) = pI (nums l) (nums l) (j + 1) := by rw [← e2]; exact wr _ (by omega) (by omega)
    refine ⟨[Ans.o (Orc.b true), Ans.o (Orc.val 28 (AV.cptr (ints (List.drop j (nums l)))) H.nil), Ans.o (Orc.val 29 (I ((nums l).getD j i0)) H.nil), Ans.o (Orc.val 32 (AV.cptr (ints (List.drop j (nums m)))) H.nil), Ans.o (Orc.val 33 (I ((nums m).getD j i0)) H.nil), Ans.o (Orc.val 34 (I (ia (nums l) j * ia (nums m) j)) H.nil), Ans.o (Orc.val 35 (I (pI (nums l) (nums m) (j + (1 : Nat)))) H.nil), Ans.o (Orc.val 39 (AV.cptr (ints (List.drop j (nums l)))) H.nil), Ans.o (Orc.val 40 (I ((nums l).getD j i0)) H.nil), Ans.o (Orc.val 43 (AV.cptr (ints (List.drop j (nums l)))) H.nil), Ans.o (Orc.val 44 (I ((nums l).getD j i0)) H.nil), Ans.o (Orc.val 45 (I (ia (nums l) j * ia (nums l) j)) H.nil), Ans.o (Orc.val 46 (I (pI (nums l) (nums l) (j + (1 : Nat)))) H.nil), Ans.o (Orc.val 47 (I (↑(j + (1 : Nat)) : Int)) H.nil)], fun u => of_eq ((↑j : Int) < (↑(nums l).length : Int) ∧ aIndexAddr Try.prog (36 : Nat) (AV.sl (ints (nums l)) (nums l).length (rn (nums l))) (I (↑j : Int)) = some (AV.cptr (ints (List.drop j (nums l)))) ∧ aLoad Try.prog (3 : Nat) (ints (List.drop j (nums l))) = some (I ((nums l).getD j i0)) ∧ aIndexAddr Try.prog (36 : Nat) (AV.sl (ints (nums m)) (nums m).length (rn (nums m))) (I (↑j : Int)) = some (AV.cptr (ints (List.drop j (nums m)))) ∧ aLoad Try.prog (3 : Nat) (ints (List.drop j (nums m))) = some (I ((nums m).getD j i0)) ∧ aBin Try.prog BinOp.mul (3 : Nat) (I ((nums l).getD j i0)) (I ((nums m).getD j i0)) = some (I (ia (nums l) j * ia (nums m) j)) ∧ aBin Try.prog BinOp.add (3 : Nat) (I (pI (nums l) (nums m) j)) (I (ia (nums l) j * ia (nums m) j)) = some (I (pI (nums l) (nums m) (j + (1 : Nat)))) ∧ aIndexAddr Try.prog (36 : Nat) (AV.sl (ints (nums l)) (nums l).length (rn (nums l))) (I (↑j : Int)) = some (AV.cptr (ints (List.drop j (nums l)))) ∧ aLoad Try.prog (3 : Nat) (ints (List.drop j (nums l))) = some (I ((nums l).getD j i0)) ∧ aIndexAddr Try.prog (36 : Nat) (AV.sl (ints (nums l)) (nums l).length (rn (nums l))) (I (↑j : Int)) = some (AV.cptr (ints (List.drop j (nums l)))) ∧ aLoad Try.prog (3 : Nat) (ints (List.drop j (nums l))) = some (I ((nums l).getD j i0)) ∧ aBin Try.prog BinOp.mul (3 : Nat) (I ((nums l).getD j i0)) (I ((nums l).getD j i0)) = some (I (ia (nums l) j * ia (nums l) j)) ∧ aBin Try.prog BinOp.add (3 : Nat) (I (pI (nums l) (nums l) j)) (I (ia (nums l) j * ia (nums l) j)) = some (I (pI (nums l) (nums l) (j + (1 : Nat)))) ∧ aBin Try.prog BinOp.add (3 : Nat) (I (↑j : Int)) (I 1) = some (I (↑(j + (1 : Nat)) : Int)) ∧ (62 : Nat) = (62 : Nat) ∧ j < l.length ∧ Keep (H.mk [[I 0, I 0]] [] [] = H.mk [[I 0, I 0]] [] [] ∧ [AV.ptr 0 0, I (↑(dn l l.length) : Int), I (↑(dn m m.length) : Int), AV.sl (ints (nums l)) (nums l).length (rn (nums l)), AV.sl (ints (nums m)) (nums m).length (rn (nums m)), I (pI (nums l) (nums m) (j + (1 : Nat))), I (pI (nums l) (nums l) (j + (1 : Nat))), AV.sl (ints (nums l)) (nums l).length (rn (nums l)), I (↑(nums l).length : Int), I (↑(j + (1 : Nat)) : Int)] = [AV.ptr 0 0, I (↑(dn l l.length) : Int), I (↑(dn m m.length) : Int), AV.sl (ints (nums l)) (nums l).length (rn (nums l)), AV.sl (ints (nums m)) (nums m).length (rn (nums m)), I (pI (nums l) (nums m) (j + (1 : Nat))), I (pI (nums l) (nums l) (j + (1 : Nat))), AV.sl (ints (nums l)) (nums l).length (rn (nums l)), I (↑(nums l).length : Int), I (↑(j + (1 : Nat)) : Int)])) (by kernel_rfl) ?_⟩
    refine ⟨by first | with_reducible assumption | omega | assumption, ?_⟩
    refine ⟨by first | exact ix_ints (by kernel_rfl) hza hr1 | exact ix_ints (by kernel_rfl) hzb hr2, ?_⟩
    refine ⟨by first | exact ld_ints (by kernel_rfl) (by kernel_rfl) hza | exact ld_ints (by kernel_rfl) (by kernel_rfl) hzb, ?_⟩
    refine ⟨by first | exact ix_ints (by kernel_rfl) hza hr1 | exact ix_ints (by kernel_rfl) hzb hr2, ?_⟩
    refine ⟨by first | exact ld_ints (by kernel_rfl) (by kernel_rfl) hza | exact ld_ints (by kernel_rfl) (by kernel_rfl) hzb, ?_⟩
    refine ⟨told_mul (by with_reducible assumption), ?_⟩
    refine ⟨told_add (by with_reducible assumption), ?_⟩
    refine ⟨by first | exact ix_ints (by kernel_rfl) hza hr1 | exact ix_ints (by kernel_rfl) hzb hr2, ?_⟩
    refine ⟨by first | exact ld_ints (by kernel_rfl) (by kernel_rfl) hza | exact ld_ints (by kernel_rfl) (by kernel_rfl) hzb, ?_⟩
    refine ⟨by first | exact ix_ints (by kernel_rfl) hza hr1 | exact ix_ints (by kernel_rfl) hzb hr2, ?_⟩
    refine ⟨by first | exact ld_ints (by kernel_rfl) (by kernel_rfl) hza | exact ld_ints (by kernel_rfl) (by kernel_rfl) hzb, ?_⟩
    refine ⟨told_mul (by with_reducible assumption), ?_⟩
    refine ⟨told_add (by with_reducible assumption), ?_⟩
    refine ⟨told_add (by with_reducible assumption), ?_⟩
    refine ⟨by first | with_reducible assumption | omega | assumption, ?_⟩
    refine ⟨by first | with_reducible assumption | omega | assumption, ?_⟩
    exact ⟨rfl, rfl⟩
  · have hz : ((nums l).length : Int) ≤ j := by omega
    have e : j = l.length := by omega
    subst e
    refine ⟨[Ans.o (Orc.b false)], fun u => of_eq ((↑(nums l).length : Int) ≤ (↑l.length : Int) ∧ (62 : Nat) = (62 : Nat) ∧ hits [Out.mk Unit (AX.exit (0 : Nat)) [(4 : Nat), (5 : Nat), (6 : Nat), (9 : Nat), (10 : Nat)] (fun x => True) (fun x => [AV.ptr 0 0, I (↑(dn l l.length) : Int), I (↑(dn m m.length) : Int), I (pI (nums l) (nums m) l.length), I (pI (nums l) (nums l) l.length)]) (fun x => hZ2) fun x => []] (AX.exit (0 : Nat)) [u (0 : Nat), u (1 : Nat), u (2 : Nat), u (3 : Nat), AV.ptr 0 0, I (↑(dn l l.length) : Int), I (↑(dn m m.length) : Int), AV.sl (ints (nums l)) (nums l).length (rn (nums l)), AV.sl (ints (nums m)) (nums m).length (rn (nums m)), I (pI (nums l) (nums m) l.length), I (pI (nums l) (nums l) l.length), u (11 : Nat), u (12 : Nat), u (13 : Nat), u (14 : Nat), u (15 : Nat), u (16 : Nat), u (17 : Nat), u (18 : Nat), u (19 : Nat), AV.sl (ints (nums l)) (nums l).length (rn (nums l)), I (↑(nums l).length : Int), I (↑l.length : Int), AV.bool false, u (24 : Nat), u (25 : Nat), u (26 : Nat), u (27 : Nat), u (28 : Nat), u (29 : Nat), u (30 : Nat), u (31 : Nat), u (32 : Nat), u (33 : Nat), u (34 : Nat), u (35 : Nat), u (36 : Nat), u (37 : Nat), u (38 : Nat), u (39 : Nat), u (40 : Nat), u (41 : Nat), u (42 : Nat), u (43 : Nat), u (44 : Nat), u (45 : Nat), u (46 : Nat), u (47 : Nat), u (48 : Nat), u (49 : Nat), u (50 : Nat), u (51 : Nat), u (52 : Nat), u (53 : Nat), u (54 : Nat), u (55 : Nat), u (56 : Nat), u (57 : Nat), u (58 : Nat), u (59 : Nat), u (60 : Nat), u (61 : Nat)] (H.mk [[I 0, I 0]] [] [])) (by kernel_rfl) ?_⟩
    refine ⟨by first | with_reducible assumption | omega | assumption, ?_⟩
    refine ⟨by first | with_reducible assumption | omega | assumption, ?_⟩
    exact .inl ⟨(), trivial, rfl, rfl, rfl⟩
abbrev pE (l : List Pr) (r : Room) (m : List Pr) (q : Room) : Prop := (pM l r ∧ pM m q) ∧ pE2 l m
theorem pA_of {l m : List Pr} {r q : Room} (h : pE2 l m) (hr : rok (nums l) r) (hq : rok (nums m) q) : pA (nums l) r (dn l l.length : Nat) (nums m) q (dn m m.length : Nat) := by
  obtain ⟨⟨j1, j2⟩, ⟨h5, hlm⟩, d1, d2⟩ := h
  have el : (nums l).length = l.length := nmL_len _ _
  have em : (nums m).length = m.length := nmL_len _ _
  have p1 := dn_pos j1.1 (j := l.length) (Nat.le_refl _)
  have p2 := dn_pos j2.1 (j := m.length) (Nat.le_refl _)
  exact ⟨⟨⟨⟨⟨by omega, hr⟩, by omega, hq⟩, bn_3 j1 d1, bn_3 j2 d2⟩, by omega⟩, ⟨by omega, by omega⟩, by omega, by omega⟩
theorem av_e (D B : Int) : 2 * D * B = 2 * B * D := by rw [Int.mul_assoc, Int.mul_comm D B, ← Int.mul_assoc]
theorem ok51 : FokM Try.prog none1 51 Try.f51 := ⟨mixed, by kernel_rfl, by kernel_rfl, by kernel_rfl, by kernel_rfl⟩
theorem r51 (l : List Pr) (r : Room) (m : List Pr) (q : Room) (hp : pE l r.wk m q.wk) : Body ⟨Try.prog, Sof (P := Try.prog) [c54d.to, c102.to, c94.to], Pof (P := Try.prog) [], H.nil.base, 300⟩ none1 Try.f51 [pz l r.wk, pz m q.wk] .nil (avV (nums l) (dn l l.length : Nat) (nums m) (dn m m.length : Nat), .nil) := by
  have hl := lp51 l m hp.2
  have hA := pA_of hp.2 (rn_rok (nums l)) (rn_rok (nums m))
  obtain ⟨⟨b1, b2, b3, b4⟩, b5, b6, b7⟩ := av_b hA
  have el : (nums l).length = l.length := nmL_len _ _
  rw [el] at b1 b2 b3 b4
  have pl : pN l r.wk := ⟨hp.1.1, hp.2.1.1⟩
  have pm : pN m q.wk := ⟨hp.1.2, hp.2.1.2⟩
  obtain ⟨⟨j1, j2⟩, ⟨h5, hlm⟩, d1, d2⟩ := hp.2
  have hN : avN (nums l) (dn l l.length : Nat) (nums m) (dn m m.length : Nat) = 2 * pI (nums l) (nums m) l.length * (dn l l.length : Nat) - pI (nums l) (nums l) l.length * (dn m m.length : Nat) := by show 2 * pI (nums l) (nums m) (nums l).length * _ - pI (nums l) (nums l) (nums l).length * _ = _; rw [el]
  have hQ : avD (dn l l.length : Nat) (dn m m.length : Nat) = (dn l l.length : Nat) * (dn l l.length : Nat) * (dn m m.length : Nat) := rfl
  have g1 := av_e (dn l l.length : Nat) (pI (nums l) (nums m) l.length)
  have g2 := Int.mul_comm (dn m m.length : Nat) (pI (nums l) (nums l) l.length)
  have ev0 : IntKind.i64.wrap (2 * (dn l l.length : Nat)) = 2 * (dn l l.length : Nat) := wr _ (by omega) (by omega)
  have ev1 : IntKind.i64.wrap (2 * ((dn l l.length : Nat) : Int) * pI (nums l) (nums m) l.length) = 2 * pI (nums l) (nums m) l.length * (dn l l.length : Nat) := by rw [g1]; exact wr _ (by omega) (by omega)
  have ev2 : IntKind.i64.wrap (((dn m m.length : Nat) : Int) * pI (nums l) (nums l) l.length) = pI (nums l) (nums l) l.length * (dn m m.length : Nat) := by rw [g2]; exact wr _ (by omega) (by omega)
  have ev3 : IntKind.i64.wrap (2 * pI (nums l) (nums m) l.length * (dn l l.length : Nat) - pI (nums l) (nums l) l.length * (dn m m.length : Nat)) = avN (nums l) (dn l l.length : Nat) (nums m) (dn m m.length : Nat) := by rw [← hN]; exact wr _ (by omega) (by omega)
  have ev4 : IntKind.i64.wrap (((dn l l.length : Nat) : Int) * (dn l l.length : Nat)) = ((dn l l.length : Nat) : Int) * (dn l l.length : Nat) := wr _ (by omega) (by omega)
  have ev5 : IntKind.i64.wrap (((dn l l.length : Nat) : Int) * (dn l l.length : Nat) * (dn m m.length : Nat)) = avD (dn l l.length : Nat) (dn m m.length : Nat) := wr _ (by omega) (by omega)
  have p94 : (-9223372036854775807 ≤ avN (nums l) (dn l l.length : Nat) (nums m) (dn m m.length : Nat) ∧ avN (nums l) (dn l l.length : Nat) (nums m) (dn m m.length : Nat) ≤ 9223372036854775807) ∧ 1 ≤ avD (dn l l.length : Nat) (dn m m.length : Nat) ∧ avD (dn l l.length : Nat) (dn m m.length : Nat) ≤ 9223372036854775807 := ⟨⟨by omega, by omega⟩, by omega, by omega⟩
  refine body_s ([Ans.o (Orc.val 13 (I (↑(dn l l.length) : Int)) (H.mk [[I 0, I 0]] [] [])), Ans.o (Orc.val 15 (I (↑(dn m m.length) : Int)) (H.mk [[I 0, I 0]] [] [])), Ans.o (Orc.val 17 (AV.sl (ints (nums l)) (nums l).length (rn (nums l))) (H.mk [[I 0, I 0]] [] [])), Ans.o (Orc.val 19 (AV.sl (ints (nums m)) (nums m).length (rn (nums m))) (H.mk [[I 0, I 0]] [] [])), Ans.loop [(4 : Nat), (5 : Nat), (6 : Nat), (7 : Nat), (8 : Nat), (9 : Nat), (10 : Nat), (20 : Nat), (21 : Nat), (22 : Nat)] [Out.mk Unit (AX.exit (0 : Nat)) [(4 : Nat), (5 : Nat), (6 : Nat), (9 : Nat), (10 : Nat)] (fun x => True) (fun x => [AV.ptr 0 0, I (↑(dn l l.length) : Int), I (↑(dn m m.length) : Int), I (pI (nums l) (nums m) l.length), I (pI (nums l) (nums l) l.length)]) (fun x => hZ2) fun y => [Ans.o (Orc.val 49 (I ((2 : Int) * (↑(dn l l.length) : Int))) H.nil), Ans.o (Orc.val 51 (I ((2 : Int) * pI (nums l) (nums m) l.length * (↑(dn l l.length) : Int))) H.nil), Ans.o (Orc.val 54 (I (pI (nums l) (nums l) l.length * (↑(dn m m.length) : Int))) H.nil), Ans.o (Orc.val 55 (I (avN (nums l) (↑(dn l l.length) : Int) (nums m) (↑(dn m m.length) : Int))) H.nil), Ans.o (Orc.val 58 (I ((↑(dn l l.length) : Int) * (↑(dn l l.length) : Int))) H.nil), Ans.o (Orc.val 60 (I (avD (↑(dn l l.length) : Int) (↑(dn m m.length) : Int))) H.nil), Ans.o (Orc.val 61 (AV.agg [I (lwN (avN (nums l) (↑(dn l l.length) : Int) (nums m) (↑(dn m m.length) : Int)) (avD (↑(dn l l.length) : Int) (↑(dn m m.length) : Int))), I (lwD (avN (nums l) (↑(dn l l.length) : Int) (nums m) (↑(dn m m.length) : Int)) (avD (↑(dn l l.length) : Int) (↑(dn m m.length) : Int)))]) (H.mk [[I 0, I 0]] [] []))]]]) (aCall (Sof [c54d.to, c102.to, c94.to]) (AV.fn (Fn.func (54 : Nat)) [] []) [AV.sl (pairsA l) l.length r.wk] (H.mk [[I 0, I 0]] [] []) = some (I (↑(dn l l.length) : Int), H.mk [[I 0, I 0]] [] []) ∧ aCall (Sof [c54d.to, c102.to, c94.to]) (AV.fn (Fn.func (54 : Nat)) [] []) [AV.sl (pairsA m) m.length q.wk] (H.mk [[I 0, I 0]] [] []) = some (I (↑(dn m m.length) : Int), H.mk [[I 0, I 0]] [] []) ∧ aCall (Sof [c54d.to, c102.to, c94.to]) (AV.fn (Fn.func (102 : Nat)) [] []) [AV.sl (pairsA l) l.length r.wk] (H.mk [[I 0, I 0]] [] []) = some (AV.sl (ints (nums l)) (nums l).length (rn (nums l)), H.mk [[I 0, I 0]] [] []) ∧ aCall (Sof [c54d.to, c102.to, c94.to]) (AV.fn (Fn.func (102 : Nat)) [] []) [AV.sl (pairsA m) m.length q.wk] (H.mk [[I 0, I 0]] [] []) = some (AV.sl (ints (nums m)) (nums m).length (rn (nums m)), H.mk [[I 0, I 0]] [] []) ∧ LoopS (Env.mk Try.prog (Sof [c54d.to, c102.to, c94.to]) (Pof (P := Try.prog) []) H.nil.base (300 : Nat)) (loopAt Try.f51 (0 : Nat)) (62 : Nat) [(4 : Nat), (5 : Nat), (6 : Nat), (7 : Nat), (8 : Nat), (9 : Nat), (10 : Nat), (20 : Nat), (21 : Nat), (22 : Nat)] [AV.ptr 0 0, I (↑(dn l l.length) : Int), I (↑(dn m m.length) : Int), AV.sl (ints (nums l)) (nums l).length (rn (nums l)), AV.sl (ints (nums m)) (nums m).length (rn (nums m)), I 0, I 0, AV.sl (ints (nums l)) (nums l).length (rn (nums l)), I (↑(nums l).length : Int), I 0] (H.mk [[I 0, I 0]] [] []) [Out.mk Unit (AX.exit (0 : Nat)) [(4 : Nat), (5 : Nat), (6 : Nat), (9 : Nat), (10 : Nat)] (fun x => True) (fun x => [AV.ptr 0 0, I (↑(dn l l.length) : Int), I (↑(dn m m.length) : Int), I (pI (nums l) (nums m) l.length), I (pI (nums l) (nums l) l.length)]) (fun x => hZ2) fun y => [Ans.o (Orc.val 49 (I ((2 : Int) * (↑(dn l l.length) : Int))) H.nil), Ans.o (Orc.val 51 (I ((2 : Int) * pI (nums l) (nums m) l.length * (↑(dn l l.length) : Int))) H.nil), Ans.o (Orc.val 54 (I (pI (nums l) (nums l) l.length * (↑(dn m m.length) : Int))) H.nil), Ans.o (Orc.val 55 (I (avN (nums l) (↑(dn l l.length) : Int) (nums m) (↑(dn m m.length) : Int))) H.nil), Ans.o (Orc.val 58 (I ((↑(dn l l.length) : Int) * (↑(dn l l.length) : Int))) H.nil), Ans.o (Orc.val 60 (I (avD (↑(dn l l.length) : Int) (↑(dn m m.length) : Int))) H.nil), Ans.o (Orc.val 61 (AV.agg [I (lwN (avN (nums l) (↑(dn l l.length) : Int) (nums m) (↑(dn m m.length) : Int)) (avD (↑(dn l l.length) : Int) (↑(dn m m.length) : Int))), I (lwD (avN (nums l) (↑(dn l l.length) : Int) (nums m) (↑(dn m m.length) : Int)) (avD (↑(dn l l.length) : Int) (↑(dn m m.length) : Int)))]) (H.mk [[I 0, I 0]] [] []))]] ∧ (∀ (y : Unit), True → ∀ (u : Nat → AV), aBin Try.prog BinOp.mul (3 : Nat) (I 2) (I (↑(dn l l.length) : Int)) = some (I ((2 : Int) * (↑(dn l l.length) : Int))) ∧ aBin Try.prog BinOp.mul (3 : Nat) (I ((2 : Int) * (↑(dn l l.length) : Int))) (I (pI (nums l) (nums m) l.length)) = some (I ((2 : Int) * pI (nums l) (nums m) l.length * (↑(dn l l.length) : Int))) ∧ aBin Try.prog BinOp.mul (3 : Nat) (I (↑(dn m m.length) : Int)) (I (pI (nums l) (nums l) l.length)) = some (I (pI (nums l) (nums l) l.length * (↑(dn m m.length) : Int))) ∧ aBin Try.prog BinOp.sub (3 : Nat) (I ((2 : Int) * pI (nums l) (nums m) l.length * (↑(dn l l.length) : Int))) (I (pI (nums l) (nums l) l.length * (↑(dn m m.length) : Int))) = some (I (avN (nums l) (↑(dn l l.length) : Int) (nums m) (↑(dn m m.length) : Int))) ∧ aBin Try.prog BinOp.mul (3 : Nat) (I (↑(dn l l.length) : Int)) (I (↑(dn l l.length) : Int)) = some (I ((↑(dn l l.length) : Int) * (↑(dn l l.length) : Int))) ∧ aBin Try.prog BinOp.mul (3 : Nat) (I ((↑(dn l l.length) : Int) * (↑(dn l l.length) : Int))) (I (↑(dn m m.length) : Int)) = some (I (avD (↑(dn l l.length) : Int) (↑(dn m m.length) : Int))) ∧ aCall (Sof [c54d.to, c102.to, c94.to]) (AV.fn (Fn.func (94 : Nat)) [] []) [I (avN (nums l) (↑(dn l l.length) : Int) (nums m) (↑(dn m m.length) : Int)), I (avD (↑(dn l l.length) : Int) (↑(dn m m.length) : Int))] (H.mk [[I 0, I 0]] [] []) = some (AV.agg [I (lwN (avN (nums l) (↑(dn l l.length) : Int) (nums m) (↑(dn m m.length) : Int)) (avD (↑(dn l l.length) : Int) (↑(dn m m.length) : Int))), I (lwD (avN (nums l) (↑(dn l l.length) : Int) (nums m) (↑(dn m m.length) : Int)) (avD (↑(dn l l.length) : Int) (↑(dn m m.length) : Int)))], H.mk [[I 0, I 0]] [] []) ∧ (AV.agg [I (lwN (avN (nums l) (↑(dn l l.length) : Int) (nums m) (↑(dn m m.length) : Int)) (avD (↑(dn l l.length) : Int) (↑(dn m m.length) : Int))), I (lwD (avN (nums l) (↑(dn l l.length) : Int) (nums m) (↑(dn m m.length) : Int)) (avD (↑(dn l l.length) : Int) (↑(dn m m.length) : Int)))], H.mk [] [] []) = (AV.agg [I (lwN (avN (nums l) (↑(dn l l.length) : Int) (nums m) (↑(dn m m.length) : Int)) (avD (↑(dn l l.length) : Int) (↑(dn m m.length) : Int))), I (lwD (avN (nums l) (↑(dn l l.length) : Int) (nums m) (↑(dn m m.length) : Int)) (avD (↑(dn l l.length) : Int) (↑(dn m m.length) : Int)))], H.mk [] [] [])) ∧ True) (by kernel_rfl) ?_
  refine ⟨by first | exact acall_hit (c := c54d.to) (l, r.wk) _ rfl pl | exact acall_hit (c := c54d.to) (m, q.wk) _ rfl pm, ?_⟩
  refine ⟨by first | exact acall_hit (c := c54d.to) (l, r.wk) _ rfl pl | exact acall_hit (c := c54d.to) (m, q.wk) _ rfl pm, ?_⟩
  refine ⟨by first | exact acall_hit (c := c102.to) (l, r.wk) _ rfl pl | exact acall_hit (c := c102.to) (m, q.wk) _ rfl pm, ?_⟩
  refine ⟨by first | exact acall_hit (c := c102.to) (l, r.wk) _ rfl pl | exact acall_hit (c := c102.to) (m, q.wk) _ rfl pm, ?_⟩
  refine ⟨hl, ?_⟩
  refine And.intro ?_ ?_
  · skip
    intro y
    intro w1
    intro u
    refine ⟨told_mul (by with_reducible assumption), ?_⟩
    refine ⟨told_mul (by with_reducible assumption), ?_⟩
    refine ⟨told_mul (by with_reducible assumption), ?_⟩
    refine ⟨told_sub (by with_reducible assumption), ?_⟩
    refine ⟨told_mul (by with_reducible assumption), ?_⟩
    refine ⟨told_mul (by with_reducible assumption), ?_⟩
    refine ⟨acall_hit (c := c94.to) (avN (nums l) (dn l l.length : Nat) (nums m) (dn m m.length : Nat), avD (dn l l.length : Nat) (dn m m.length : Nat)) _ rfl p94, ?_⟩
    rfl
  · skip
    trivial
noncomputable def c51 : PCtr Try.prog := sctr ok51 (X := List Pr × Room × List Pr × Room) (fun x => [pz x.1 x.2.1, pz x.2.2.1 x.2.2.2]) (fun x => pE x.1 x.2.1 x.2.2.1 x.2.2.2) (fun x => avV (nums x.1) (dn x.1 x.1.length : Nat) (nums x.2.2.1) (dn x.2.2.1 x.2.2.1.length : Nat)) (by intro x y e _ _; simp [Int.natCast_inj] at e; simp [e]) (fun x => by simp [AV.bnds, AV.bnd, AV.wk, rm_wk_bnd]) (fun x => by first | rfl | (simp [AV.bnd, rm_wk_bnd]; done)  | (simp [AV.bnd, AV.bnds, rm_wk_bnd]; done) | simp [AV.bnd, AV.bnds, Room.bnd, rm_wk_bnd]) (fun x hx => ⟨_, _, _, .pure c54d (.pure c102 (.pure c94 (.nil))), r51 (x.1) (x.2.1) (x.2.2.1) (x.2.2.2) (by first | exact hx | (simp only [pE, pM, rok_wk] at hx ⊢; exact hx))⟩)
end Go.Proofs.Bts

