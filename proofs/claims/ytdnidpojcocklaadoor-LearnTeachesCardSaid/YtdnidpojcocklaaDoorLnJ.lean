/- Layer 4: Dim; that the program is awake. -/
import Derived.Test.YtdnidpojcocklaaDoorLnI
import Derived.KernelRfl
set_option linter.unusedSimpArgs false
set_option linter.unusedVariables false
set_option linter.unnecessarySimpa false
set_option maxHeartbeats 4000000
set_option maxRecDepth 100000
namespace Go.Proofs.Lrn
open Go Go.VM

theorem ok24g : FokM Tryd.prog none1 24 Tryd.f24 := ⟨mixed, by kernel_rfl, by kernel_rfl, by kernel_rfl, by kernel_rfl⟩
theorem r24g (p : Int) (l : List Int) (r : Room) (hp : cls p l ∧ rok l r) : Body ⟨Tryd.prog, Sof (P := Tryd.prog) [c52g.to, c58.to], Pof (P := Tryd.prog) [], H.nil.base, 300⟩ none1 Tryd.f24 [I p, ls l r] .nil (.tup [I (dimV p (sOf l)), I 0], .nil) := by
  have q := hp.1.1
  refine body_s ([Ans.o (Orc.val 11 (AV.tup [AV.agg [I p, AV.int IntKind.u32 (↑(sOf l).toNat : Int)], AV.bool true]) (H.mk [] [] [])), Ans.o (Orc.val 17 (I (dimV p (sOf l))) (H.mk [[I p, AV.int IntKind.u32 (↑(sOf l).toNat : Int)]] [] []))]) (aCall (Sof [c52g.to, c58.to]) (AV.fn (Fn.func (52 : Nat)) [] []) [I p, AV.sl (ints l) l.length r] (H.mk [] [] []) = some (AV.tup [AV.agg [I p, AV.int IntKind.u32 (↑(sOf l).toNat : Int)], AV.bool true], H.mk [] [] []) ∧ aCall (Sof [c52g.to, c58.to]) (AV.fn (Fn.func (58 : Nat)) [] []) [AV.agg [I p, AV.int IntKind.u32 (↑(sOf l).toNat : Int)]] (H.mk [[I p, AV.int IntKind.u32 (↑(sOf l).toNat : Int)]] [] []) = some (I (dimV p (sOf l)), H.mk [[I p, AV.int IntKind.u32 (↑(sOf l).toNat : Int)]] [] []) ∧ (AV.tup [I (dimV p (sOf l)), I 0], H.mk [] [] []) = (AV.tup [I (dimV p (sOf l)), I 0], H.mk [] [] [])) (by kernel_rfl) ?_
  refine ⟨acall_hit (c := c52g.to) (p, l, r) _ rfl hp, ?_⟩
  refine ⟨acall_hit (c := c58.to) (p, sOf l) _ rfl q, ?_⟩
  first | with_reducible rfl | (refine bleaf_t ?_; first | omega | (simp only [small, tiny, rng, decide_eq_true_eq, decide_eq_false_iff_not, true_or, or_true, true_and, and_true, Int.reduceEq, Int.reduceNeg, eq_self, reduceIte, if_true, if_false] at *; omega)) | (refine bleaf_f ?_; first | omega | (simp only [small, tiny, rng, decide_eq_true_eq, decide_eq_false_iff_not, true_or, or_true, true_and, and_true, Int.reduceEq, Int.reduceNeg, eq_self, reduceIte, if_true, if_false] at *; omega)) | (refine ileaf ?_; first | omega | (simp only [small, tiny, rng, decide_eq_true_eq, decide_eq_false_iff_not, true_or, or_true, true_and, and_true, Int.reduceEq, Int.reduceNeg, eq_self, reduceIte, if_true, if_false] at *; omega)) | (exfalso; omega) | (simp only [Prod.mk.injEq, AV.agg.injEq, AV.tup.injEq, List.cons.injEq, AV.int.injEq, AV.bool.injEq, and_true, true_and]; (repeat' apply And.intro) <;> first | with_reducible rfl | (simp []; done) | (simp []; omega) | omega | (simp only [small, tiny, rng, decide_eq_true_eq, decide_eq_false_iff_not, true_or, or_true, true_and, and_true, Int.reduceEq, Int.reduceNeg, eq_self, reduceIte, if_true, if_false] at *; omega) | (simp [small, tiny, rng, decide_eq_true_eq, decide_eq_false_iff_not, true_or, or_true, true_and, and_true, Int.reduceEq, Int.reduceNeg, eq_self, reduceIte, if_true, if_false, *]; done) | (simp [small, tiny, rng, decide_eq_true_eq, decide_eq_false_iff_not, true_or, or_true, true_and, and_true, Int.reduceEq, Int.reduceNeg, eq_self, reduceIte, if_true, if_false, *]; omega)) | (exfalso; simp only [small, tiny, rng, decide_eq_true_eq, decide_eq_false_iff_not, true_or, or_true, true_and, and_true, Int.reduceEq, Int.reduceNeg, eq_self, reduceIte, if_true, if_false] at *; omega) | (simp [small, tiny, rng, decide_eq_true_eq, decide_eq_false_iff_not, true_or, or_true, true_and, and_true, Int.reduceEq, Int.reduceNeg, eq_self, reduceIte, if_true, if_false] at *; done) | (simp [small, tiny, rng, decide_eq_true_eq, decide_eq_false_iff_not, true_or, or_true, true_and, and_true, Int.reduceEq, Int.reduceNeg, eq_self, reduceIte, if_true, if_false] at *; omega)
noncomputable def c24g : PCtr Tryd.prog := sctr ok24g (X := Int × List Int × Room) (fun x => [I x.1, ls x.2.1 x.2.2]) (fun x => cls x.1 x.2.1 ∧ rok x.2.1 x.2.2) (fun x => .tup [I (dimV x.1 (sOf x.2.1)), I 0]) (by intro x y e _ _; simp at e; simp [e]) (fun x => by simp [AV.bnds, AV.bnd, AV.wk, rm_wk_bnd]) (fun x => by first | rfl | simp [AV.bnd, AV.bnds, Room.bnd, rm_wk_bnd]) (fun x hx => ⟨_, _, _, .pure c52g (.pure c58 (.nil)), r24g (x.1) (x.2.1) (x.2.2).wk (by simp only [rok_wk]; exact hx)⟩)
theorem cls01 : cls 1 [0, 1] := by
  refine ⟨by decide, by decide, by decide, ?_⟩
  intro i hi
  have : i = 0 ∨ i = 1 := by simp at hi; omega
  rcases this with rfl | rfl <;> decide
theorem dim01 : dimV 1 (sOf [0, 1]) = 1 := by kernel_rfl
noncomputable def c24a : PCtr Tryd.prog where
  f := 24
  X := Unit
  args _ := [I 1, .sl [I 0, I 1] 2 .full]
  pre _ := True
  v _ := .tup [I 1, I 0]
  det _ _ _ _ _ := rfl
  ok _ _ := by
    have := c24g.ok (1, [0, 1], .full) ⟨cls01, by simp [rok]⟩
    have e : c24g.v (1, [0, 1], .full) = .tup [I 1, I 0] := by
      show AV.tup [I (dimV 1 (sOf [0, 1])), I 0] = _
      rw [dim01]
    rw [e] at this
    exact this
theorem ok21 : FokM Tryd.prog none1 21 Tryd.f21 := ⟨mixed, by kernel_rfl, by kernel_rfl, by kernel_rfl, by kernel_rfl⟩
theorem r21 : Body (En4 [c24a.to]) none1 Tryd.f21 [] .nil (.bool true, .nil) := by
  refine body_s ([Ans.o (Orc.val 5 (AV.tup [I 1, I 0]) (H.mk [] [] [])), Ans.o Orc.dflt, Ans.o Orc.dflt]) (aCall (Sof [c24a.to]) (AV.fn (Fn.func (24 : Nat)) [] []) [I 1, AV.sl [I 0, I 1] (2 : Nat) Room.full] (H.mk [] [] []) = some (AV.tup [I 1, I 0], H.mk [] [] []) ∧ (AV.bool true, H.mk [] [] []) = (AV.bool true, H.mk [] [] [])) (by kernel_rfl) ?_
  refine ⟨acall_hit (c := c24a.to) () _ rfl trivial, ?_⟩
  first | with_reducible rfl | (refine bleaf_t ?_; first | omega | (simp only [small, tiny, rng, decide_eq_true_eq, decide_eq_false_iff_not, true_or, or_true, true_and, and_true, Int.reduceEq, Int.reduceNeg, eq_self, reduceIte, if_true, if_false] at *; omega)) | (refine bleaf_f ?_; first | omega | (simp only [small, tiny, rng, decide_eq_true_eq, decide_eq_false_iff_not, true_or, or_true, true_and, and_true, Int.reduceEq, Int.reduceNeg, eq_self, reduceIte, if_true, if_false] at *; omega)) | (refine ileaf ?_; first | omega | (simp only [small, tiny, rng, decide_eq_true_eq, decide_eq_false_iff_not, true_or, or_true, true_and, and_true, Int.reduceEq, Int.reduceNeg, eq_self, reduceIte, if_true, if_false] at *; omega)) | (exfalso; omega) | (simp only [Prod.mk.injEq, AV.agg.injEq, AV.tup.injEq, List.cons.injEq, AV.int.injEq, AV.bool.injEq, and_true, true_and]; (repeat' apply And.intro) <;> first | with_reducible rfl | (simp []; done) | (simp []; omega) | omega | (simp only [small, tiny, rng, decide_eq_true_eq, decide_eq_false_iff_not, true_or, or_true, true_and, and_true, Int.reduceEq, Int.reduceNeg, eq_self, reduceIte, if_true, if_false] at *; omega) | (simp [small, tiny, rng, decide_eq_true_eq, decide_eq_false_iff_not, true_or, or_true, true_and, and_true, Int.reduceEq, Int.reduceNeg, eq_self, reduceIte, if_true, if_false, *]; done) | (simp [small, tiny, rng, decide_eq_true_eq, decide_eq_false_iff_not, true_or, or_true, true_and, and_true, Int.reduceEq, Int.reduceNeg, eq_self, reduceIte, if_true, if_false, *]; omega)) | (exfalso; simp only [small, tiny, rng, decide_eq_true_eq, decide_eq_false_iff_not, true_or, or_true, true_and, and_true, Int.reduceEq, Int.reduceNeg, eq_self, reduceIte, if_true, if_false] at *; omega) | (simp [small, tiny, rng, decide_eq_true_eq, decide_eq_false_iff_not, true_or, or_true, true_and, and_true, Int.reduceEq, Int.reduceNeg, eq_self, reduceIte, if_true, if_false] at *; done) | (simp [small, tiny, rng, decide_eq_true_eq, decide_eq_false_iff_not, true_or, or_true, true_and, and_true, Int.reduceEq, Int.reduceNeg, eq_self, reduceIte, if_true, if_false] at *; omega)
noncomputable def c21 : PCtr Tryd.prog := sctr ok21 (X := Unit) (fun _ => []) (fun _ => True) (fun _ => .bool true) (by intro x y e _ _; rfl) (fun _ => rfl) (fun _ => rfl) (fun x hx => ⟨_, _, _, .pure c24a .nil, r21⟩)
end Go.Proofs.Lrn

