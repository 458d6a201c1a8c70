/- Layer 9: what there is after a race, by the program. -/
import Derived.Test.YthodoagjojmliaaBtZ
import Derived.KernelRfl
set_option linter.unusedSimpArgs false
set_option linter.unusedVariables false
set_option linter.unnecessarySimpa false
set_option maxHeartbeats 4000000
set_option maxRecDepth 100000
namespace Go.Proofs.Bts
open Go Go.VM

noncomputable def c46 : PCtr Try.prog := slctr ok46 (X := (List Int × Room) × List Pr × Room) (fun x => [ls x.1.1 x.1.2, pz x.2.1 x.2.2]) (fun x => pWo x.1.1 x.2.1 ∧ pM x.2.1 x.2.2 ∧ rok x.1.1 x.1.2) (fun x => pz (woL x.1.1 x.2.1) (rmz 2 (woL x.1.1 x.2.1)).wk)
  (by
    rintro ⟨⟨l, r⟩, m, s⟩ ⟨⟨l', r'⟩, m', s'⟩ e _ _
    simp only [List.cons.injEq, and_true] at e
    simp only [ls_det e.1, pz_det e.2]) (fun x => by simp [AV.bnds, AV.bnd, AV.wk, rm_wk_bnd]) (fun x => by simp [AV.bnd, rmz_bnd])
  (fun x hx => ⟨_, _, _, _, _, .pure _ (.pure _ (.pure _ .nil)), r46 x.1.1 x.1.2.wk x.2.1 x.2.2 hx.1 ⟨hx.2.1.1, by simpa using hx.2.1.2.1, hx.2.1.2.2⟩ (by simpa using hx.2.2), by simp [AV.plain, plains_pairs], by simp [AV.wkd, wkds_pairs]⟩)
/-- fractions that were just made, split -/
noncomputable def c71g : PCtr Try.prog where
  f := 71
  X := List Int × Int
  args x := [.agg [gz x.1, I x.2]]
  pre x := pL x.1 (rm 0 x.1) x.2
  v x := pz (spl x.1 x.2 x.1.length) (rmz 2 (spl x.1 x.2 x.1.length)).wk
  det := by
    rintro ⟨a, D⟩ ⟨b, E⟩ e _ _
    simp only [List.cons.injEq, and_true, AV.agg.injEq, AV.sl.injEq, AV.int.injEq, true_and] at e
    obtain ⟨⟨e1, _⟩, e2⟩ := e
    have e1 : a = b := ints_inj e1
    have e2 : D = E := e2
    rw [e1, e2]
  ok := by
    rintro ⟨a, D⟩ hp
    have hc := c71.ok (a, rm 0 a, D) hp
    refine ⟨hc.1, fun h G w vs s hgl hr => hc.2 h G w vs s hgl ?_⟩
    simp only [VRels] at hr ⊢
    obtain ⟨v, vs', rfl, h1, h2⟩ := hr
    refine ⟨v, vs', rfl, ?_, h2⟩
    have q1 := VRel.less (G := G) (G' := ⟨G.φ, G.fr, fun _ _ => none, G.mp, G.bases⟩) ⟨fun _ _ h => h, fun _ _ _ h => h, fun _ _ h => h, fun _ _ => rfl⟩ (.agg [gz a, I D]) v (by simp [AV.plain, AV.plains, plains_ints]) h1
    have q2 := VRel.mono (G := ⟨G.φ, G.fr, fun _ _ => none, G.mp, G.bases⟩) (G' := G) ⟨fun _ _ h => h, fun _ _ _ h => h, fun _ _ _ hx => (nomatch hx), fun _ _ h => h⟩ _ _ q1
    simpa [AV.wkd, AV.wkds, wkds_ints] using q2
abbrev hW4 (od : List Int) (s : List Pr) (j : Nat) : H := ⟨[J2 (nums s) (rn (nums s)) (stD s), [gz (woN od s j), I (stD s)]], tk (woN od s j), []⟩
abbrev o44 (od : List Int) (s : List Pr) : List Out := [.mk Unit (.exit 0) [10] (fun _ => True) (fun _ => [.ptr 1 0]) (fun _ => hW4 od s s.length) (fun _ => [])]
theorem simp44 : allSimpleM none1 (loopAt Try.f44 0) = true := by kernel_rfl
theorem pT_j {s : List Pr} (h : jOK s) (h5 : s.length ≤ 60) : pT (nums s) (rm 0 (nums s)) := by
  refine ⟨⟨by rw [nmL_len]; omega, ?_⟩, fun i hi => ?_⟩
  · have := rn_rok (nums s)
    simpa [rn] using this
  · have h1 := nums_b h i hi
    have h2 := h.2
    omega
theorem lp44 (od : List Int) (q : Room) (s : List Pr) (hp : pWo od s) (hq : rok od q) :
    LoopS (En6 [c95.to, c72t.to, c99.to, c71g.to]) (loopAt Try.f44 0) 69 [1, 8, 10, 42, 43, 44] [ls od q, .ptr 0 0, .ptr 1 0, ls (nums s) (rn (nums s)), I (nums s).length, I 0] (hW4 od s 0) (o44 od s) := by
  have hR : Rests (En6 [c95.to, c72t.to, c99.to, c71g.to]) none1 := rests mixed (.pure _ (.pure _ (.pure _ (.pure _ .nil))))
  obtain ⟨⟨b1, b2⟩, b3, b4⟩ := wo_b hp
  obtain ⟨⟨⟨h1, h5⟩, h2⟩, h3, h4⟩ := hp
  have el : (nums s).length = s.length := nmL_len _ _
  refine loop_s hR simp44 none (by intro _ h; cases h) (fun j vs h => h = hW4 od s j ∧ vs = [ls od q, .ptr 0 0, .ptr 1 0, ls (nums s) (rn (nums s)), I (nums s).length, I (j : Nat)]) s.length ⟨rfl, rfl⟩ (by intro _ h; cases h) ?_
  rintro j vs h hj ⟨rfl, rfl⟩
  by_cases hz : (j : Int) < (nums s).length
  · have hz' : j < s.length := by omega
    have hzn : j < (nums s).length := by omega
    have hzo : j < od.length := by omega
    have hzo' : (j : Int) < od.length := by omega
    have hr := rok_idx hq hzo
    have hrn := rok_idx (rn_rok (nums s)) hzn
    have ev0 := wj1 (j := j) (by omega)
    obtain ⟨q1, q2, q3, q4⟩ := b4 j hz'
    have p99 := pT_j h3 (by omega)
    have ev1 : IntKind.i64.wrap (stD s - sI (ia (nums s)) (nums s).length) = stD s - stT s := by rw [el]; exact wr _ (by show _ ≤ stD s - stT s; omega) (by show stD s - stT s ≤ _; omega)
    have ev2 : IntKind.i64.wrap (ia (nums s) j * ia od j) = ia (nums s) j * ia od j := wr _ (by omega) (by omega)
    have ev3 : IntKind.i64.wrap (stD s - stT s + ia (nums s) j * ia od j) = woF od s j := wr _ (by show _ ≤ woF od s j; omega) (by show woF od s j ≤ _; omega)
    have hlen := woN_len od s j
    have hap := app_intsb (P := Try.prog) (t := 36) (by kernel_rfl) (l := woN od s j) (x := woF od s j) (bs := [J2 (nums s) (rn (nums s)) (stD s), [gz (woN od s j), I (stD s)]]) (by omega)
    rw [← woN_succ] at hap
    refine ⟨[Ans.o (Orc.b true), Ans.o (Orc.val 47 (AV.cptr (ints (List.drop j (nums s)))) H.nil), Ans.o (Orc.val 48 (I ((nums s).getD j i0)) H.nil), Ans.o (Orc.val 54 (I (sI (ia (nums s)) (nums s).length)) (H.mk [[AV.sl (ints (nums s)) (nums s).length (rn (nums s)), I (stD s)], [AV.sl (ints (woN od s j)) (woN od s j).length (rm (0 : Nat) (woN od s j)), I (stD s)]] (tk (woN od s j)) [])), Ans.o (Orc.val 55 (I (stD s - stT s)) H.nil), Ans.o (Orc.val 59 (AV.cptr (ints (List.drop j od))) H.nil), Ans.o (Orc.val 60 (I (od.getD j i0)) H.nil), Ans.o (Orc.val 61 (I (ia (nums s) j * ia od j)) H.nil), Ans.o (Orc.val 62 (I (woF od s j)) H.nil), Ans.o (Orc.val 64 (AV.sl (ints (woN od s (j + (1 : Nat)))) (woN od s (j + (1 : Nat))).length (rm (0 : Nat) (woN od s (j + (1 : Nat))))) (H.mk [J2 (nums s) (rn (nums s)) (stD s), [gz (woN od s j), I (stD s)]] (tk (woN od s (j + (1 : Nat)))) [])), Ans.o (Orc.val 66 (I (↑(j + (1 : Nat)) : Int)) H.nil)], fun u => of_eq ((↑j : Int) < (↑(nums s).length : Int) ∧ aIndexAddr Try.prog (36 : Nat) (AV.sl (ints (nums s)) (nums s).length (rn (nums s))) (I (↑j : Int)) = some (AV.cptr (ints (List.drop j (nums s)))) ∧ aLoad Try.prog (3 : Nat) (ints (List.drop j (nums s))) = some (I ((nums s).getD j i0)) ∧ aCall (Sof [c95.to, c72t.to, c99.to, c71g.to]) (AV.fn (Fn.func (99 : Nat)) [] []) [AV.agg [AV.sl (ints (nums s)) (nums s).length (rn (nums s)), I (stD s)]] (H.mk [[AV.sl (ints (nums s)) (nums s).length (rn (nums s)), I (stD s)], [AV.sl (ints (woN od s j)) (woN od s j).length (rm (0 : Nat) (woN od s j)), I (stD s)]] (tk (woN od s j)) []) = some (I (sI (ia (nums s)) (nums s).length), H.mk [[AV.sl (ints (nums s)) (nums s).length (rn (nums s)), I (stD s)], [AV.sl (ints (woN od s j)) (woN od s j).length (rm (0 : Nat) (woN od s j)), I (stD s)]] (tk (woN od s j)) []) ∧ aBin Try.prog BinOp.sub (3 : Nat) (I (stD s)) (I (sI (ia (nums s)) (nums s).length)) = some (I (stD s - stT s)) ∧ aIndexAddr Try.prog (36 : Nat) (AV.sl (ints od) od.length q) (I (↑j : Int)) = some (AV.cptr (ints (List.drop j od))) ∧ aLoad Try.prog (3 : Nat) (ints (List.drop j od)) = some (I (od.getD j i0)) ∧ aBin Try.prog BinOp.mul (3 : Nat) (I ((nums s).getD j i0)) (I (od.getD j i0)) = some (I (ia (nums s) j * ia od j)) ∧ aBin Try.prog BinOp.add (3 : Nat) (I (stD s - stT s)) (I (ia (nums s) j * ia od j)) = some (I (woF od s j)) ∧ aAppend Try.prog (36 : Nat) (36 : Nat) (AV.sl (ints (woN od s j)) (woN od s j).length (rm (0 : Nat) (woN od s j))) (AV.sl [I (woF od s j)] (1 : Nat) Room.full) (H.mk [[AV.sl (ints (nums s)) (nums s).length (rn (nums s)), I (stD s)], [AV.sl (ints (woN od s j)) (woN od s j).length (rm (0 : Nat) (woN od s j)), I (stD s)]] (tk (woN od s j)) []) = some (AV.sl (ints (woN od s (j + (1 : Nat)))) (woN od s (j + (1 : Nat))).length (rm (0 : Nat) (woN od s (j + (1 : Nat)))), H.mk [[AV.sl (ints (nums s)) (nums s).length (rn (nums s)), I (stD s)], [AV.sl (ints (woN od s j)) (woN od s j).length (rm (0 : Nat) (woN od s j)), I (stD s)]] (tk (woN od s (j + (1 : Nat)))) []) ∧ aBin Try.prog BinOp.add (3 : Nat) (I (↑j : Int)) (I 1) = some (I (↑(j + (1 : Nat)) : Int)) ∧ (69 : Nat) = (69 : Nat) ∧ j < s.length ∧ Keep (H.mk [[AV.sl (ints (nums s)) (nums s).length (rn (nums s)), I (stD s)], [AV.sl (ints (woN od s (j + (1 : Nat)))) (woN od s (j + (1 : Nat))).length (rm (0 : Nat) (woN od s (j + (1 : Nat)))), I (stD s)]] (valH (Oper.mk (some (64 : Nat)) (Op.call (Call.mk (Callee.builtin Builtin.append) #[Operand.tmp (50 : Nat), Operand.tmp (63 : Nat)] #[(36 : Nat), (36 : Nat)])) (36 : Nat) "races.go:50" #[Edge.mk (1 : Nat) Ground.data, Edge.mk (14 : Nat) Ground.data, Edge.mk (5 : Nat) Ground.chain] none) (valH (Oper.mk (some (62 : Nat)) (Op.binOp BinOp.add (3 : Nat) (Operand.tmp (55 : Nat)) (Operand.tmp (61 : Nat)) (3 : Nat)) (3 : Nat) "races.go:50" #[Edge.mk (6 : Nat) Ground.data, Edge.mk (12 : Nat) Ground.data] none) (valH (Oper.mk (some (61 : Nat)) (Op.binOp BinOp.mul (3 : Nat) (Operand.tmp (56 : Nat)) (Operand.tmp (60 : Nat)) (3 : Nat)) (3 : Nat) "races.go:50" #[Edge.mk (7 : Nat) Ground.data, Edge.mk (11 : Nat) Ground.data] none) (valH (Oper.mk (some (60 : Nat)) (Op.load (3 : Nat) (Operand.tmp (59 : Nat))) (3 : Nat) "races.go:50" #[Edge.mk (10 : Nat) Ground.data] none) (valH (Oper.mk (some (59 : Nat)) (Op.indexAddr (36 : Nat) (Operand.tmp (57 : Nat)) (Operand.tmp (58 : Nat))) (0 : Nat) "races.go:50" #[Edge.mk (8 : Nat) Ground.data, Edge.mk (9 : Nat) Ground.data] none) (valH (Oper.mk (some (55 : Nat)) (Op.binOp BinOp.sub (3 : Nat) (Operand.tmp (52 : Nat)) (Operand.tmp (54 : Nat)) (3 : Nat)) (3 : Nat) "races.go:50" #[Edge.mk (3 : Nat) Ground.data, Edge.mk (5 : Nat) Ground.data] none) (valH (Oper.mk (some (54 : Nat)) (Op.call (Call.mk (Callee.value (Operand.func (99 : Nat))) #[Operand.tmp (53 : Nat)] #[(99 : Nat)])) (3 : Nat) "races.go:50" #[Edge.mk (4 : Nat) Ground.data] none) (valH (Oper.mk (some (48 : Nat)) (Op.load (3 : Nat) (Operand.tmp (47 : Nat))) (3 : Nat) "races.go:49" #[Edge.mk (1 : Nat) Ground.data] none) (valH (Oper.mk (some (47 : Nat)) (Op.indexAddr (36 : Nat) (Operand.tmp (42 : Nat)) (Operand.tmp (44 : Nat))) (0 : Nat) "races.go:49" #[] none) (hW4 od s j) H.nil) H.nil) (H.mk [[AV.sl (ints (nums s)) (nums s).length (rn (nums s)), I (stD s)], [AV.sl (ints (woN od s j)) (woN od s j).length (rm (0 : Nat) (woN od s j)), I (stD s)]] (tk (woN od s j)) [])) H.nil) H.nil) H.nil) H.nil) H.nil) (H.mk [J2 (nums s) (rn (nums s)) (stD s), [gz (woN od s j), I (stD s)]] (tk (woN od s (j + (1 : Nat)))) [])).toks [] = H.mk [[AV.sl (ints (nums s)) (nums s).length (rn (nums s)), I (stD s)], [AV.sl (ints (woN od s (j + (1 : Nat)))) (woN od s (j + (1 : Nat))).length (rm (0 : Nat) (woN od s (j + (1 : Nat)))), I (stD s)]] (tk (woN od s (j + (1 : Nat)))) [] ∧ [AV.sl (ints od) od.length q, AV.ptr 0 0, AV.ptr 1 0, AV.sl (ints (nums s)) (nums s).length (rn (nums s)), I (↑(nums s).length : Int), I (↑(j + (1 : Nat)) : Int)] = [AV.sl (ints od) od.length q, AV.ptr 0 0, AV.ptr 1 0, AV.sl (ints (nums s)) (nums s).length (rn (nums s)), I (↑(nums s).length : Int), I (↑(j + (1 : Nat)) : Int)])) (by kernel_rfl) ?_⟩
    refine ⟨by first | with_reducible assumption | omega | assumption, ?_⟩
    refine ⟨by first | exact ix_ints (by kernel_rfl) hzn hrn | exact ix_ints (by kernel_rfl) hzo hr, ?_⟩
    refine ⟨by first | exact ld_ints (by kernel_rfl) (by kernel_rfl) hzn | exact ld_ints (by kernel_rfl) (by kernel_rfl) hzo, ?_⟩
    refine ⟨acall_hit (c := c99.to) (nums s, rm 0 (nums s), stD s) _ rfl p99, ?_⟩
    refine ⟨told_sub (by with_reducible assumption), ?_⟩
    refine ⟨by first | exact ix_ints (by kernel_rfl) hzn hrn | exact ix_ints (by kernel_rfl) hzo hr, ?_⟩
    refine ⟨by first | exact ld_ints (by kernel_rfl) (by kernel_rfl) hzn | exact ld_ints (by kernel_rfl) (by kernel_rfl) hzo, ?_⟩
    refine ⟨told_mul (by with_reducible assumption), ?_⟩
    refine ⟨told_add (by with_reducible assumption), ?_⟩
    refine ⟨hap, ?_⟩
    refine ⟨told_add (by with_reducible assumption), ?_⟩
    refine ⟨by first | with_reducible assumption | omega | assumption, ?_⟩
    refine ⟨by first | with_reducible assumption | omega | assumption, ?_⟩
    exact ⟨rfl, rfl⟩
  · have hz : ((nums s).length : Int) ≤ j := by omega
    have e : j = s.length := by omega
    subst e
    refine ⟨[Ans.o (Orc.b false)], fun u => of_eq ((↑(nums s).length : Int) ≤ (↑s.length : Int) ∧ (69 : Nat) = (69 : Nat) ∧ hits [Out.mk Unit (AX.exit (0 : Nat)) [(10 : Nat)] (fun x => True) (fun x => [AV.ptr 1 0]) (fun x => hW4 od s s.length) fun x => []] (AX.exit (0 : Nat)) [u (0 : Nat), AV.sl (ints od) od.length q, u (2 : Nat), u (3 : Nat), u (4 : Nat), u (5 : Nat), u (6 : Nat), u (7 : Nat), AV.ptr 0 0, u (9 : Nat), AV.ptr 1 0, u (11 : Nat), u (12 : Nat), u (13 : Nat), u (14 : Nat), u (15 : Nat), u (16 : Nat), u (17 : Nat), u (18 : Nat), u (19 : Nat), u (20 : Nat), u (21 : Nat), u (22 : Nat), u (23 : Nat), u (24 : Nat), u (25 : Nat), u (26 : Nat), u (27 : Nat), u (28 : Nat), u (29 : Nat), u (30 : Nat), u (31 : Nat), u (32 : Nat), u (33 : Nat), u (34 : Nat), u (35 : Nat), u (36 : Nat), u (37 : Nat), u (38 : Nat), u (39 : Nat), u (40 : Nat), u (41 : Nat), AV.sl (ints (nums s)) (nums s).length (rn (nums s)), I (↑(nums s).length : Int), I (↑s.length : Int), AV.bool false, u (46 : Nat), u (47 : Nat), u (48 : Nat), u (49 : Nat), u (50 : Nat), u (51 : Nat), u (52 : Nat), u (53 : Nat), u (54 : Nat), u (55 : Nat), u (56 : Nat), u (57 : Nat), u (58 : Nat), u (59 : Nat), u (60 : Nat), u (61 : Nat), u (62 : Nat), u (63 : Nat), u (64 : Nat), u (65 : Nat), u (66 : Nat), u (67 : Nat), u (68 : Nat)] (H.mk [[AV.sl (ints (nums s)) (nums s).length (rn (nums s)), I (stD s)], [AV.sl (ints (woN od s s.length)) (woN od s s.length).length (rm (0 : Nat) (woN od s s.length)), I (stD s)]] (tk (woN od s s.length)) [])) (by kernel_rfl) ?_⟩
    refine ⟨by first | with_reducible assumption | omega | assumption, ?_⟩
    refine ⟨by first | with_reducible assumption | omega | assumption, ?_⟩
    exact .inl ⟨(), trivial, rfl, rfl, rfl⟩
end Go.Proofs.Bts

