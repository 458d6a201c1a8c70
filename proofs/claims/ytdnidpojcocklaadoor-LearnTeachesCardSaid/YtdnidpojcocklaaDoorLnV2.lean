/- Layer 4: examples, and what is left by them. -/
import Derived.Test.YtdnidpojcocklaaDoorLnV1
import Derived.KernelRfl
set_option linter.unusedSimpArgs false
set_option linter.unusedVariables false
set_option linter.unnecessarySimpa false
set_option maxHeartbeats 4000000
set_option maxRecDepth 100000
namespace Go.Proofs.Lrn
open Go Go.VM

/-- what is left of a set -/
def lfF : List Pr → BitVec 32 → BitVec 32
  | [], b => b
  | e :: l, b => lfF l (pt b e.1 e.2)
theorem lfF_drop {l : List Pr} {j : Nat} (h : j < l.length) (b : BitVec 32) : lfF (l.drop j) b = lfF (l.drop (j + 1)) (pt b (l.getD j pair0).1 (l.getD j pair0).2) := by
  have e : l.getD j pair0 = l[j] := by simp [List.getD_eq_getElem?_getD, List.getElem?_eq_getElem h]
  rw [List.drop_eq_getElem_cons h, e]; rfl
abbrev o54 (p : Int) (b : BitVec 32) (l : List Pr) : List Out :=
  [.mk Unit (.exit 0) [2, 4] (fun _ => True) (fun _ => [.ptr 0 0, .ptr 1 0]) (fun _ => ⟨[bl53 p (lfF l b), bl0], [], []⟩) (fun _ => [])]
theorem clean2 (u v w : List AV) (hu : AV.bnds 2 0 0 u = true) (hv : AV.bnds 2 0 0 v = true) : H.clean ⟨[u, v, w], [], []⟩ 2 := by
  intro cs hcs
  simp only [List.take_succ_cons, List.take_zero, List.mem_cons, List.not_mem_nil, or_false] at hcs
  rcases hcs with rfl | rfl
  · exact hu
  · exact hv
theorem simp54 : allSimpleM none1 (loopAt Tryd.f54 0) = true := by kernel_rfl
theorem lp54 (p : Int) (b : BitVec 32) (l : List Pr) (r : Room) (h0 : p5 p) (h1 : exs p l) (h2 : rok l r) :
    LoopS (En4 [c75.to]) (loopAt Tryd.f54 0) 21 [2, 4, 7, 8, 9] [.ptr 0 0, .ptr 1 0, ps l r.wk, I l.length, I 0] ⟨[bl53 p b, bl0], [], []⟩ (o54 p b l) := by
  have hR : Rests (En4 [c75.to]) none1 := rests mixed (.pure _ .nil)
  refine loop_s hR simp54 (some 2) (by intro nb h; cases h; exact ⟨Nat.zero_le _, Nat.le_refl 2⟩) (fun j vs h => ∃ c, h = ⟨[bl53 p c, bl0], [], []⟩ ∧ vs = [.ptr 0 0, .ptr 1 0, ps l r.wk, I l.length, I j] ∧ lfF l b = lfF (l.drop j) c) l.length ⟨b, rfl, rfl, rfl⟩ (by rintro nb h j vs h' ⟨c, rfl, _⟩; cases h; exact Nat.le_refl 2) ?_
  have h3 : rok l r.wk := by simpa using h2
  have hl := h1.1
  rintro j vs h hj ⟨c, rfl, rfl, ha⟩
  by_cases hz : (j : Int) < l.length
  · have hz' : j < l.length := by omega
    have hr := rok_idx h3 hz'
    have hcl : AV.bnds 2 0 0 [.ptr 0 0, .ptr 1 0, ps l r.wk, I l.length, I (j + 1 : Nat)] = true := by simp [AV.bnds, AV.bnd, rm_wk_bnd]
    have hq := h1.2 j hz'
    have z : is5 (l.getD j pair0).1 ∧ ((l.getD j pair0).2 = 0 ∨ (l.getD j pair0).2 = 1) := ⟨⟨hq.1.1, by have := hq.1.2; have := h0.2; omega⟩, hq.2⟩
    rw [lfF_drop hz'] at ha
    refine ⟨[Ans.o (Orc.b true), Ans.o (Orc.val 11 (AV.cptr (pairsA (List.drop j l))) (H.mk [bl53 p c, bl0] [] [])), Ans.o (Orc.val 12 (AV.agg [I (l.getD j pair0).fst, I (l.getD j pair0).snd]) (H.mk [bl53 p c, bl0] [] [])), Ans.o (Orc.val 18 (AV.agg [I p, AV.int IntKind.u32 (↑(pt c (l.getD j pair0).fst (l.getD j pair0).snd).toNat : Int)]) (H.mk [[I p, AV.int IntKind.u32 (↑c.toNat : Int)], [I 0, AV.int IntKind.u32 (0 : Int)], [I (l.getD j pair0).fst, I (l.getD j pair0).snd]] [] []))], fun u => of_eq ((↑j : Int) < (↑l.length : Int) ∧ aIndexAddr Tryd.prog (23 : Nat) (AV.sl (pairsA l) l.length r.wk) (I (↑j : Int)) = some (AV.cptr (pairsA (List.drop j l))) ∧ aLoad Tryd.prog (63 : Nat) (pairsA (List.drop j l)) = some (AV.agg [I (l.getD j pair0).fst, I (l.getD j pair0).snd]) ∧ aCall (Sof [c75.to]) (AV.fn (Fn.func (75 : Nat)) [] []) [AV.agg [I p, AV.int IntKind.u32 (↑c.toNat : Int)], I (l.getD j pair0).fst, I (l.getD j pair0).snd] (H.mk [[I p, AV.int IntKind.u32 (↑c.toNat : Int)], [I 0, AV.int IntKind.u32 (0 : Int)], [I (l.getD j pair0).fst, I (l.getD j pair0).snd]] [] []) = some (AV.agg [I p, AV.int IntKind.u32 (↑(pt c (l.getD j pair0).fst (l.getD j pair0).snd).toNat : Int)], H.mk [[I p, AV.int IntKind.u32 (↑c.toNat : Int)], [I 0, AV.int IntKind.u32 (0 : Int)], [I (l.getD j pair0).fst, I (l.getD j pair0).snd]] [] []) ∧ IntKind.i64.wrap ((↑j : Int) + (1 : Int)) = (↑j : Int) + (1 : Int) ∧ (21 : Nat) = (21 : Nat) ∧ j < l.length ∧ Keep (AV.bnds (2 : Nat) (0 : Nat) (0 : Nat) [AV.ptr 0 0, AV.ptr 1 0, AV.sl (pairsA l) l.length r.wk, I (↑l.length : Int), I ((↑j : Int) + (1 : Int))] = true ∧ (H.mk [[I p, AV.int IntKind.u32 (↑(pt c (l.getD j pair0).fst (l.getD j pair0).snd).toNat : Int)], [I 0, AV.int IntKind.u32 (0 : Int)], [I (l.getD j pair0).fst, I (l.getD j pair0).snd]] [] []).clean (2 : Nat) ∧ ∃ c_1, H.mk [[I p, AV.int IntKind.u32 (↑(pt c (l.getD j pair0).fst (l.getD j pair0).snd).toNat : Int)], [I 0, AV.int IntKind.u32 (0 : Int)]] [] [] = H.mk [[I p, AV.int IntKind.u32 (↑c_1.toNat : Int)], [I 0, AV.int IntKind.u32 (0 : Int)]] [] [] ∧ [AV.ptr 0 0, AV.ptr 1 0, AV.sl (pairsA l) l.length r.wk, I (↑l.length : Int), I ((↑j : Int) + (1 : Int))] = [AV.ptr 0 0, AV.ptr 1 0, AV.sl (pairsA l) l.length r.wk, I (↑l.length : Int), I (↑(j + (1 : Nat)) : Int)] ∧ lfF l b = lfF (List.drop (j + (1 : Nat)) l) c_1)) (by kernel_rfl) ?_⟩
    refine ⟨by first | assumption | omega | (simp only [small, tiny, rng, decide_eq_true_eq, decide_eq_false_iff_not, true_or, or_true, true_and, and_true, Int.reduceEq, Int.reduceNeg, eq_self, reduceIte, if_true, if_false] at *; omega) | (simp [small, tiny, rng, decide_eq_true_eq, decide_eq_false_iff_not, true_or, or_true, true_and, and_true, Int.reduceEq, Int.reduceNeg, eq_self, reduceIte, if_true, if_false] at *; done), ?_⟩
    refine ⟨by first | exact ix_pairs (by kernel_rfl) (by omega) (by assumption) | exact ix_pairs (by kernel_rfl) (by omega) (rok_idx (by assumption) (by omega)), ?_⟩
    refine ⟨ld_pairs (by kernel_rfl) (by kernel_rfl) (by kernel_rfl) (by omega), ?_⟩
    refine ⟨acall_hit (c := c75.to) (p, c, (l.getD j pair0).1, (l.getD j pair0).2) _ rfl z, ?_⟩
    refine ⟨by first | exact wr _ (by omega) (by omega) | (refine wr _ ?_ ?_ <;> (simp only [small, tiny, rng, decide_eq_true_eq, decide_eq_false_iff_not, true_or, or_true, true_and, and_true, Int.reduceEq, Int.reduceNeg, eq_self, reduceIte, if_true, if_false] at *; omega)), ?_⟩
    refine ⟨by first | assumption | omega | (simp only [small, tiny, rng, decide_eq_true_eq, decide_eq_false_iff_not, true_or, or_true, true_and, and_true, Int.reduceEq, Int.reduceNeg, eq_self, reduceIte, if_true, if_false] at *; omega) | (simp [small, tiny, rng, decide_eq_true_eq, decide_eq_false_iff_not, true_or, or_true, true_and, and_true, Int.reduceEq, Int.reduceNeg, eq_self, reduceIte, if_true, if_false] at *; done), ?_⟩
    refine ⟨by first | assumption | omega | (simp only [small, tiny, rng, decide_eq_true_eq, decide_eq_false_iff_not, true_or, or_true, true_and, and_true, Int.reduceEq, Int.reduceNeg, eq_self, reduceIte, if_true, if_false] at *; omega) | (simp [small, tiny, rng, decide_eq_true_eq, decide_eq_false_iff_not, true_or, or_true, true_and, and_true, Int.reduceEq, Int.reduceNeg, eq_self, reduceIte, if_true, if_false] at *; done), ?_⟩
    exact ⟨hcl, clean2 _ _ _ rfl rfl, _, rfl, rfl, ha⟩
  · have hz : (l.length : Int) ≤ j := by omega
    have e : j = l.length := by omega
    subst e
    rw [List.drop_length] at ha
    have ha : lfF l b = c := ha
    subst ha
    refine ⟨[Ans.o (Orc.b false)], fun u => of_eq ((↑l.length : Int) ≤ (↑l.length : Int) ∧ (21 : Nat) = (21 : Nat) ∧ hits [Out.mk Unit (AX.exit (0 : Nat)) [(2 : Nat), (4 : Nat)] (fun x => True) (fun x => [AV.ptr 0 0, AV.ptr 1 0]) (fun x => H.mk [bl53 p (lfF l b), bl0] [] []) fun x => []] (AX.exit (0 : Nat)) [u (0 : Nat), u (1 : Nat), AV.ptr 0 0, u (3 : Nat), AV.ptr 1 0, u (5 : Nat), u (6 : Nat), AV.sl (pairsA l) l.length r.wk, I (↑l.length : Int), I (↑l.length : Int), AV.bool false, u (11 : Nat), u (12 : Nat), u (13 : Nat), u (14 : Nat), u (15 : Nat), u (16 : Nat), u (17 : Nat), u (18 : Nat), u (19 : Nat), u (20 : Nat)] (H.mk [[I p, AV.int IntKind.u32 (↑(lfF l b).toNat : Int)], [I 0, AV.int IntKind.u32 (0 : Int)]] [] [])) (by kernel_rfl) ?_⟩
    refine ⟨by first | assumption | omega | (simp only [small, tiny, rng, decide_eq_true_eq, decide_eq_false_iff_not, true_or, or_true, true_and, and_true, Int.reduceEq, Int.reduceNeg, eq_self, reduceIte, if_true, if_false] at *; omega) | (simp [small, tiny, rng, decide_eq_true_eq, decide_eq_false_iff_not, true_or, or_true, true_and, and_true, Int.reduceEq, Int.reduceNeg, eq_self, reduceIte, if_true, if_false] at *; done), ?_⟩
    refine ⟨by first | assumption | omega | (simp only [small, tiny, rng, decide_eq_true_eq, decide_eq_false_iff_not, true_or, or_true, true_and, and_true, Int.reduceEq, Int.reduceNeg, eq_self, reduceIte, if_true, if_false] at *; omega) | (simp [small, tiny, rng, decide_eq_true_eq, decide_eq_false_iff_not, true_or, or_true, true_and, and_true, Int.reduceEq, Int.reduceNeg, eq_self, reduceIte, if_true, if_false] at *; done), ?_⟩
    exact .inl ⟨(), trivial, rfl, rfl, rfl⟩
theorem ok54 : FokM Tryd.prog none1 54 Tryd.f54 := ⟨mixed, by kernel_rfl, by kernel_rfl, by kernel_rfl, by kernel_rfl⟩
theorem r54 (p : Int) (b : BitVec 32) (l : List Pr) (r : Room) (h0 : p5 p) (h1 : exs p l) (h2 : rok l r) : Body (En4 [c75.to]) none1 Tryd.f54 [cA p b, ps l r.wk] .nil (cA p (lfF l b), .nil) := by
  refine body_s ([Ans.loop [(2 : Nat), (4 : Nat), (7 : Nat), (8 : Nat), (9 : Nat)] [Out.mk Unit (AX.exit (0 : Nat)) [(2 : Nat), (4 : Nat)] (fun x => True) (fun x => [AV.ptr 0 0, AV.ptr 1 0]) (fun x => H.mk [bl53 p (lfF l b), bl0] [] []) fun y => []]]) (LoopS (Env.mk Tryd.prog (Sof [c75.to]) (Pof (P := Tryd.prog) []) H.nil.base (300 : Nat)) (loopAt Tryd.f54 (0 : Nat)) (21 : Nat) [(2 : Nat), (4 : Nat), (7 : Nat), (8 : Nat), (9 : Nat)] [AV.ptr 0 0, AV.ptr 1 0, AV.sl (pairsA l) l.length r.wk, I (↑l.length : Int), I 0] (H.mk [[I p, AV.int IntKind.u32 (↑b.toNat : Int)], [I 0, AV.int IntKind.u32 (0 : Int)]] [] []) [Out.mk Unit (AX.exit (0 : Nat)) [(2 : Nat), (4 : Nat)] (fun x => True) (fun x => [AV.ptr 0 0, AV.ptr 1 0]) (fun x => H.mk [bl53 p (lfF l b), bl0] [] []) fun y => []] ∧ (∀ (y : Unit), True → ∀ (u : Nat → AV), (AV.agg [I p, AV.int IntKind.u32 (↑(lfF l b).toNat : Int)], H.mk [] [] []) = (AV.agg [I p, AV.int IntKind.u32 (↑(lfF l b).toNat : Int)], H.mk [] [] [])) ∧ True) (by kernel_rfl) ?_
  refine ⟨lp54 p b l r h0 h1 h2, ?_⟩
  refine And.intro ?_ ?_
  · skip
    intro y
    intro w1
    intro u
    first | with_reducible rfl | (refine bleaf_t ?_; first | omega | (simp only [small, tiny, rng, decide_eq_true_eq, decide_eq_false_iff_not, true_or, or_true, true_and, and_true, Int.reduceEq, Int.reduceNeg, eq_self, reduceIte, if_true, if_false] at *; omega)) | (refine bleaf_f ?_; first | omega | (simp only [small, tiny, rng, decide_eq_true_eq, decide_eq_false_iff_not, true_or, or_true, true_and, and_true, Int.reduceEq, Int.reduceNeg, eq_self, reduceIte, if_true, if_false] at *; omega)) | (refine ileaf ?_; first | omega | (simp only [small, tiny, rng, decide_eq_true_eq, decide_eq_false_iff_not, true_or, or_true, true_and, and_true, Int.reduceEq, Int.reduceNeg, eq_self, reduceIte, if_true, if_false] at *; omega)) | (exfalso; omega) | (simp only [Prod.mk.injEq, AV.agg.injEq, AV.tup.injEq, List.cons.injEq, AV.int.injEq, AV.bool.injEq, and_true, true_and]; (repeat' apply And.intro) <;> first | with_reducible rfl | (simp []; done) | (simp []; omega) | omega | (simp only [small, tiny, rng, decide_eq_true_eq, decide_eq_false_iff_not, true_or, or_true, true_and, and_true, Int.reduceEq, Int.reduceNeg, eq_self, reduceIte, if_true, if_false] at *; omega) | (simp [small, tiny, rng, decide_eq_true_eq, decide_eq_false_iff_not, true_or, or_true, true_and, and_true, Int.reduceEq, Int.reduceNeg, eq_self, reduceIte, if_true, if_false, *]; done) | (simp [small, tiny, rng, decide_eq_true_eq, decide_eq_false_iff_not, true_or, or_true, true_and, and_true, Int.reduceEq, Int.reduceNeg, eq_self, reduceIte, if_true, if_false, *]; omega)) | (exfalso; simp only [small, tiny, rng, decide_eq_true_eq, decide_eq_false_iff_not, true_or, or_true, true_and, and_true, Int.reduceEq, Int.reduceNeg, eq_self, reduceIte, if_true, if_false] at *; omega) | (simp [small, tiny, rng, decide_eq_true_eq, decide_eq_false_iff_not, true_or, or_true, true_and, and_true, Int.reduceEq, Int.reduceNeg, eq_self, reduceIte, if_true, if_false] at *; done) | (simp [small, tiny, rng, decide_eq_true_eq, decide_eq_false_iff_not, true_or, or_true, true_and, and_true, Int.reduceEq, Int.reduceNeg, eq_self, reduceIte, if_true, if_false] at *; omega)
  · skip
    trivial
noncomputable def c54 : PCtr Tryd.prog := sctr ok54 (X := Int × BitVec 32 × List Pr × Room) (fun x => [cA x.1 x.2.1, ps x.2.2.1 x.2.2.2]) (fun x => p5 x.1 ∧ exs x.1 x.2.2.1 ∧ rok x.2.2.1 x.2.2.2) (fun x => cA x.1 (lfF x.2.2.1 x.2.1))
  (by intro x y e _ _; simp at e; simp [e]) (fun x => by simp [AV.bnds, AV.bnd, AV.wk, rm_wk_bnd]) (fun _ => rfl) (fun x hx => ⟨_, _, _, .pure c75 .nil, r54 x.1 x.2.1 x.2.2.1 x.2.2.2 hx.1 hx.2.1 hx.2.2⟩)

end Go.Proofs.Lrn

