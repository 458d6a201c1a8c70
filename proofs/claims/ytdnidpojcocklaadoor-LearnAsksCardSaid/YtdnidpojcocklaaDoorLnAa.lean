/- Layer 4: the reference's plans of questions. -/
import Derived.Test.YtdnidpojcocklaaDoorLnY
import Derived.Test.YtdnidpojcocklaaDoorLnT1
import Derived.KernelRfl
set_option linter.unusedSimpArgs false
set_option linter.unusedVariables false
set_option linter.unnecessarySimpa false
set_option maxHeartbeats 4000000
set_option maxRecDepth 100000
namespace Go.Proofs.Lrn
open Go Go.VM

abbrev C45ok (n : Nat) : Prop := ∀ p l r, p5 p ∧ lsn l r ∧ pc (sOf l) < n → CallOk Tryd.prog 45 [I p, ls l r] .nil (I (quV p (sOf l))) .nil
theorem ok45 : FokM Tryd.prog none1 45 Tryd.f45 := ⟨mixed, by kernel_rfl, by kernel_rfl, by kernel_rfl, by kernel_rfl⟩
noncomputable def C45 (n : Nat) (ih : C45ok n) : PCtr Tryd.prog where
  f := 45
  X := Int × List Int × Room
  args q := [I q.1, ls q.2.1 q.2.2]
  pre q := p5 q.1 ∧ lsn q.2.1 q.2.2 ∧ pc (sOf q.2.1) < n
  v q := I (quV q.1 (sOf q.2.1))
  det := by
    rintro ⟨p, l, r⟩ ⟨p', l', r'⟩ e _ _
    simp at e
    simp [e]
  ok := by
    rintro ⟨p, l, r⟩ h
    have h' : p5 p ∧ lsn l r.wk ∧ pc (sOf l) < n := ⟨h.1, lsn_wk.2 h.2.1, h.2.2⟩
    exact ⟨ok45.call, fun H => (pure_call (ih p l r.wk h') (by simp [AV.bnds, AV.bnd, rm_wk_bnd]) rfl H).wk⟩
abbrev o45 (p : Int) (b : BitVec 32) : List Out :=
  [.mk Unit (.exit 0) [5] (fun _ => True) (fun _ => [I (quL (quV p) b p p.toNat)]) (fun _ => .nil) (fun _ => [])]
theorem simp45 : allSimpleM none1 (loopAt Tryd.f45 0) = true := by kernel_rfl
theorem lp45 (n : Nat) (ih : C45ok n) (p : Int) (l : List Int) (r : Room) (h0 : p5 p) (hl : lsn l r) (hb : pc (sOf l) < n + 1) :
    LoopS (En4 [c57.to, (C45 n ih).to]) (loopAt Tryd.f45 0) 43 [0, 1, 5, 13, 14] [I p, ls l r, I p, I p, I 0] .nil (o45 p (sOf l)) := by
  have hR : Rests (En4 [c57.to, (C45 n ih).to]) none1 := rests mixed (.pure _ (.pure _ .nil))
  refine loop_s hR simp45 none (by intro _ h; cases h) (fun j vs h => h = .nil ∧ vs = [I p, ls l r, I (quL (quV p) (sOf l) p j), I p, I j] ∧ (j : Int) ≤ p) p.toNat ⟨rfl, rfl, by obtain ⟨_, _⟩ := h0; omega⟩ (by intro _ h; cases h) ?_
  have g0 := h0
  obtain ⟨g1, g2⟩ := g0
  have bd : ∀ j, 0 ≤ quL (quV p) (sOf l) p j ∧ quL (quV p) (sOf l) p j ≤ p := quL_bd (by omega) (fun c => (quV_bd (by omega) c).1)
  rintro j vs h hj ⟨rfl, rfl, hle⟩
  by_cases hz : (j : Int) < p
  · have hx : is5 (j : Int) := ⟨by omega, by omega⟩
    have hle2 : ((j + 1 : Nat) : Int) ≤ p := by omega
    have hq : (l.length ≤ 1000 ∧ rok l r) ∧ inL l ∧ is5 (j : Int) := ⟨hl.1.1, hl.1.2, hx⟩
    have hd := dfb_len hl.1.2 hx
    by_cases h1 : (0 : Int) < (spl l (j : Int) 0).length
    · by_cases h2 : (0 : Int) < (spl l (j : Int) 1).length
      · have hdt := hd.2 ⟨h1, h2⟩
        have e0 := sOf_spl hl.1.2 hx (y := 0) (.inl rfl)
        have e1 := sOf_spl hl.1.2 hx (y := 1) (.inr rfl)
        have e : quL (quV p) (sOf l) p (j + 1) = pick2 false (quL (quV p) (sOf l) p j) (1 + pick2 true (quV p (sOf (spl l (j : Int) 0))) (quV p (sOf (spl l (j : Int) 1)))) := by simp only [quL, hdt, if_true, e0, e1]
        have q0 : p5 p ∧ lsn (spl l (j : Int) 0) (rn (spl l (j : Int) 0)) ∧ pc (sOf (spl l (j : Int) 0)) < n := ⟨h0, spl_lsn hl _ _, by rw [e0]; have := pt_lt (y := 0) hdt; omega⟩
        have q1 : p5 p ∧ lsn (spl l (j : Int) 1) (rn (spl l (j : Int) 1)) ∧ pc (sOf (spl l (j : Int) 1)) < n := ⟨h0, spl_lsn hl _ _, by rw [e1]; have := pt_lt (y := 1) hdt; omega⟩
        have w0 : 0 ≤ pick2 true (quV p (sOf (spl l (j : Int) 0))) (quV p (sOf (spl l (j : Int) 1))) ∧ pick2 true (quV p (sOf (spl l (j : Int) 0))) (quV p (sOf (spl l (j : Int) 1))) ≤ 5 := by
          have := quV_bd (p := p) (by omega) (sOf (spl l (j : Int) 0))
          have := quV_bd (p := p) (by omega) (sOf (spl l (j : Int) 1))
          simp only [pick2, if_true]
          split <;> omega
        refine ⟨[Ans.o (Orc.b true), Ans.o (Orc.val (19 : Nat) (AV.sl (ints (spl l (↑j : Int) (0 : Int))) (spl l (↑j : Int) (0 : Int)).length (rn (spl l (↑j : Int) (0 : Int)))) (H.mk [] [] [])), Ans.o (Orc.val (22 : Nat) (AV.sl (ints (spl l (↑j : Int) (1 : Int))) (spl l (↑j : Int) (1 : Int)).length (rn (spl l (↑j : Int) (1 : Int)))) (H.mk [] [] [])), Ans.o (Orc.b true), Ans.o (Orc.b true), Ans.o (Orc.val (34 : Nat) (I (quV p (sOf (spl l (↑j : Int) (0 : Int))))) (H.mk [] [] [])), Ans.o (Orc.val (37 : Nat) (I (quV p (sOf (spl l (↑j : Int) (1 : Int))))) (H.mk [] [] []))], fun u => of_eq ((↑j : Int) < p ∧ aCall (Sof [c57.to, (C45 n ih).to]) (AV.fn (Fn.func (57 : Nat)) [] []) [AV.sl (ints l) l.length r, I (↑j : Int), I (0 : Int)] (H.mk [] [] []) = some (AV.sl (ints (spl l (↑j : Int) (0 : Int))) (spl l (↑j : Int) (0 : Int)).length (rn (spl l (↑j : Int) (0 : Int))), H.mk [] [] []) ∧ aCall (Sof [c57.to, (C45 n ih).to]) (AV.fn (Fn.func (57 : Nat)) [] []) [AV.sl (ints l) l.length r, I (↑j : Int), I (1 : Int)] (H.mk [] [] []) = some (AV.sl (ints (spl l (↑j : Int) (1 : Int))) (spl l (↑j : Int) (1 : Int)).length (rn (spl l (↑j : Int) (1 : Int))), H.mk [] [] []) ∧ (0 : Int) < (↑(spl l (↑j : Int) (0 : Int)).length : Int) ∧ (0 : Int) < (↑(spl l (↑j : Int) (1 : Int)).length : Int) ∧ aCall (Sof [c57.to, (C45 n ih).to]) (AV.fn (Fn.func (45 : Nat)) [] []) [I p, AV.sl (ints (spl l (↑j : Int) (0 : Int))) (spl l (↑j : Int) (0 : Int)).length (rn (spl l (↑j : Int) (0 : Int)))] (H.mk [] [] []) = some (I (quV p (sOf (spl l (↑j : Int) (0 : Int)))), H.mk [] [] []) ∧ aCall (Sof [c57.to, (C45 n ih).to]) (AV.fn (Fn.func (45 : Nat)) [] []) [I p, AV.sl (ints (spl l (↑j : Int) (1 : Int))) (spl l (↑j : Int) (1 : Int)).length (rn (spl l (↑j : Int) (1 : Int)))] (H.mk [] [] []) = some (I (quV p (sOf (spl l (↑j : Int) (1 : Int)))), H.mk [] [] []) ∧ IntKind.i64.wrap ((1 : Int) + pick2 true (quV p (sOf (spl l (↑j : Int) (0 : Int)))) (quV p (sOf (spl l (↑j : Int) (1 : Int))))) = (1 : Int) + pick2 true (quV p (sOf (spl l (↑j : Int) (0 : Int)))) (quV p (sOf (spl l (↑j : Int) (1 : Int)))) ∧ IntKind.i64.wrap ((↑j : Int) + (1 : Int)) = (↑j : Int) + (1 : Int) ∧ (43 : Nat) = (43 : Nat) ∧ j < p.toNat ∧ Keep (H.mk [] [] [] = H.mk [] [] [] ∧ [I p, AV.sl (ints l) l.length r, I (pick2 false (quL (quV p) (sOf l) p j) ((1 : Int) + pick2 true (quV p (sOf (spl l (↑j : Int) (0 : Int)))) (quV p (sOf (spl l (↑j : Int) (1 : Int)))))), I p, I ((↑j : Int) + (1 : Int))] = [I p, AV.sl (ints l) l.length r, I (quL (quV p) (sOf l) p (j + (1 : Nat))), I p, I (↑(j + (1 : Nat)) : Int)] ∧ (↑(j + (1 : Nat)) : Int) ≤ p)) (by kernel_rfl) ?_⟩
        refine And.intro (by first | assumption | omega | (simp only [small, tiny, rng, decide_eq_true_eq, decide_eq_false_iff_not, true_or, or_true, true_and, and_true, Int.reduceEq, Int.reduceNeg, eq_self, reduceIte, if_true, if_false] at *; omega) | (simp [small, tiny, rng, decide_eq_true_eq, decide_eq_false_iff_not, true_or, or_true, true_and, and_true, Int.reduceEq, Int.reduceNeg, eq_self, reduceIte, if_true, if_false] at *; done)) ?_
        refine And.intro (by first | exact acall_hit (c := c57.to) (l, r, (j : Int), 0) _ rfl hq | exact acall_hit (c := c57.to) (l, r, (j : Int), 1) _ rfl hq) ?_
        refine And.intro (by first | exact acall_hit (c := c57.to) (l, r, (j : Int), 0) _ rfl hq | exact acall_hit (c := c57.to) (l, r, (j : Int), 1) _ rfl hq) ?_
        refine And.intro (by first | assumption | omega | (simp only [small, tiny, rng, decide_eq_true_eq, decide_eq_false_iff_not, true_or, or_true, true_and, and_true, Int.reduceEq, Int.reduceNeg, eq_self, reduceIte, if_true, if_false] at *; omega) | (simp [small, tiny, rng, decide_eq_true_eq, decide_eq_false_iff_not, true_or, or_true, true_and, and_true, Int.reduceEq, Int.reduceNeg, eq_self, reduceIte, if_true, if_false] at *; done)) ?_
        refine And.intro (by first | assumption | omega | (simp only [small, tiny, rng, decide_eq_true_eq, decide_eq_false_iff_not, true_or, or_true, true_and, and_true, Int.reduceEq, Int.reduceNeg, eq_self, reduceIte, if_true, if_false] at *; omega) | (simp [small, tiny, rng, decide_eq_true_eq, decide_eq_false_iff_not, true_or, or_true, true_and, and_true, Int.reduceEq, Int.reduceNeg, eq_self, reduceIte, if_true, if_false] at *; done)) ?_
        refine And.intro (by first | exact acall_hit (c := (C45 n ih).to) (p, spl l (j : Int) 0, rn (spl l (j : Int) 0)) _ rfl q0 | exact acall_hit (c := (C45 n ih).to) (p, spl l (j : Int) 1, rn (spl l (j : Int) 1)) _ rfl q1) ?_
        refine And.intro (by first | exact acall_hit (c := (C45 n ih).to) (p, spl l (j : Int) 0, rn (spl l (j : Int) 0)) _ rfl q0 | exact acall_hit (c := (C45 n ih).to) (p, spl l (j : Int) 1, rn (spl l (j : Int) 1)) _ rfl q1) ?_
        refine And.intro (by first | exact wr _ (by omega) (by omega) | (refine wr _ ?_ ?_ <;> (simp only [small, tiny, rng, decide_eq_true_eq, decide_eq_false_iff_not, true_or, or_true, true_and, and_true, Int.reduceEq, Int.reduceNeg, eq_self, reduceIte, if_true, if_false] at *; omega))) ?_
        refine And.intro (by first | exact wr _ (by omega) (by omega) | (refine wr _ ?_ ?_ <;> (simp only [small, tiny, rng, decide_eq_true_eq, decide_eq_false_iff_not, true_or, or_true, true_and, and_true, Int.reduceEq, Int.reduceNeg, eq_self, reduceIte, if_true, if_false] at *; omega))) ?_
        refine And.intro (by first | assumption | omega | (simp only [small, tiny, rng, decide_eq_true_eq, decide_eq_false_iff_not, true_or, or_true, true_and, and_true, Int.reduceEq, Int.reduceNeg, eq_self, reduceIte, if_true, if_false] at *; omega) | (simp [small, tiny, rng, decide_eq_true_eq, decide_eq_false_iff_not, true_or, or_true, true_and, and_true, Int.reduceEq, Int.reduceNeg, eq_self, reduceIte, if_true, if_false] at *; done)) ?_
        refine And.intro (by first | assumption | omega | (simp only [small, tiny, rng, decide_eq_true_eq, decide_eq_false_iff_not, true_or, or_true, true_and, and_true, Int.reduceEq, Int.reduceNeg, eq_self, reduceIte, if_true, if_false] at *; omega) | (simp [small, tiny, rng, decide_eq_true_eq, decide_eq_false_iff_not, true_or, or_true, true_and, and_true, Int.reduceEq, Int.reduceNeg, eq_self, reduceIte, if_true, if_false] at *; done)) ?_
        exact ⟨rfl, by rw [e]; rfl, hle2⟩
      · have hdf : dfb (sOf l) (j : Int) = false := by
          cases hq : dfb (sOf l) (j : Int)
          · rfl
          · exact absurd (hd.1 hq).2 h2
        have e : quL (quV p) (sOf l) p (j + 1) = quL (quV p) (sOf l) p j := by simp only [quL, hdf]; rfl
        have h2 : ((spl l (j : Int) 1).length : Int) ≤ 0 := by omega
        refine ⟨[Ans.o (Orc.b true), Ans.o (Orc.val (19 : Nat) (AV.sl (ints (spl l (↑j : Int) (0 : Int))) (spl l (↑j : Int) (0 : Int)).length (rn (spl l (↑j : Int) (0 : Int)))) (H.mk [] [] [])), Ans.o (Orc.val (22 : Nat) (AV.sl (ints (spl l (↑j : Int) (1 : Int))) (spl l (↑j : Int) (1 : Int)).length (rn (spl l (↑j : Int) (1 : Int)))) (H.mk [] [] [])), Ans.o (Orc.b true), Ans.o (Orc.b false)], fun u => of_eq ((↑j : Int) < p ∧ aCall (Sof [c57.to, (C45 n ih).to]) (AV.fn (Fn.func (57 : Nat)) [] []) [AV.sl (ints l) l.length r, I (↑j : Int), I (0 : Int)] (H.mk [] [] []) = some (AV.sl (ints (spl l (↑j : Int) (0 : Int))) (spl l (↑j : Int) (0 : Int)).length (rn (spl l (↑j : Int) (0 : Int))), H.mk [] [] []) ∧ aCall (Sof [c57.to, (C45 n ih).to]) (AV.fn (Fn.func (57 : Nat)) [] []) [AV.sl (ints l) l.length r, I (↑j : Int), I (1 : Int)] (H.mk [] [] []) = some (AV.sl (ints (spl l (↑j : Int) (1 : Int))) (spl l (↑j : Int) (1 : Int)).length (rn (spl l (↑j : Int) (1 : Int))), H.mk [] [] []) ∧ (0 : Int) < (↑(spl l (↑j : Int) (0 : Int)).length : Int) ∧ (↑(spl l (↑j : Int) (1 : Int)).length : Int) ≤ (0 : Int) ∧ IntKind.i64.wrap ((↑j : Int) + (1 : Int)) = (↑j : Int) + (1 : Int) ∧ (43 : Nat) = (43 : Nat) ∧ j < p.toNat ∧ Keep (H.mk [] [] [] = H.mk [] [] [] ∧ [I p, AV.sl (ints l) l.length r, I (quL (quV p) (sOf l) p j), I p, I ((↑j : Int) + (1 : Int))] = [I p, AV.sl (ints l) l.length r, I (quL (quV p) (sOf l) p (j + (1 : Nat))), I p, I (↑(j + (1 : Nat)) : Int)] ∧ (↑(j + (1 : Nat)) : Int) ≤ p)) (by kernel_rfl) ?_⟩
        refine And.intro (by first | assumption | omega | (simp only [small, tiny, rng, decide_eq_true_eq, decide_eq_false_iff_not, true_or, or_true, true_and, and_true, Int.reduceEq, Int.reduceNeg, eq_self, reduceIte, if_true, if_false] at *; omega) | (simp [small, tiny, rng, decide_eq_true_eq, decide_eq_false_iff_not, true_or, or_true, true_and, and_true, Int.reduceEq, Int.reduceNeg, eq_self, reduceIte, if_true, if_false] at *; done)) ?_
        refine And.intro (by first | exact acall_hit (c := c57.to) (l, r, (j : Int), 0) _ rfl hq | exact acall_hit (c := c57.to) (l, r, (j : Int), 1) _ rfl hq) ?_
        refine And.intro (by first | exact acall_hit (c := c57.to) (l, r, (j : Int), 0) _ rfl hq | exact acall_hit (c := c57.to) (l, r, (j : Int), 1) _ rfl hq) ?_
        refine And.intro (by first | assumption | omega | (simp only [small, tiny, rng, decide_eq_true_eq, decide_eq_false_iff_not, true_or, or_true, true_and, and_true, Int.reduceEq, Int.reduceNeg, eq_self, reduceIte, if_true, if_false] at *; omega) | (simp [small, tiny, rng, decide_eq_true_eq, decide_eq_false_iff_not, true_or, or_true, true_and, and_true, Int.reduceEq, Int.reduceNeg, eq_self, reduceIte, if_true, if_false] at *; done)) ?_
        refine And.intro (by first | assumption | omega | (simp only [small, tiny, rng, decide_eq_true_eq, decide_eq_false_iff_not, true_or, or_true, true_and, and_true, Int.reduceEq, Int.reduceNeg, eq_self, reduceIte, if_true, if_false] at *; omega) | (simp [small, tiny, rng, decide_eq_true_eq, decide_eq_false_iff_not, true_or, or_true, true_and, and_true, Int.reduceEq, Int.reduceNeg, eq_self, reduceIte, if_true, if_false] at *; done)) ?_
        refine And.intro (by first | exact wr _ (by omega) (by omega) | (refine wr _ ?_ ?_ <;> (simp only [small, tiny, rng, decide_eq_true_eq, decide_eq_false_iff_not, true_or, or_true, true_and, and_true, Int.reduceEq, Int.reduceNeg, eq_self, reduceIte, if_true, if_false] at *; omega))) ?_
        refine And.intro (by first | assumption | omega | (simp only [small, tiny, rng, decide_eq_true_eq, decide_eq_false_iff_not, true_or, or_true, true_and, and_true, Int.reduceEq, Int.reduceNeg, eq_self, reduceIte, if_true, if_false] at *; omega) | (simp [small, tiny, rng, decide_eq_true_eq, decide_eq_false_iff_not, true_or, or_true, true_and, and_true, Int.reduceEq, Int.reduceNeg, eq_self, reduceIte, if_true, if_false] at *; done)) ?_
        refine And.intro (by first | assumption | omega | (simp only [small, tiny, rng, decide_eq_true_eq, decide_eq_false_iff_not, true_or, or_true, true_and, and_true, Int.reduceEq, Int.reduceNeg, eq_self, reduceIte, if_true, if_false] at *; omega) | (simp [small, tiny, rng, decide_eq_true_eq, decide_eq_false_iff_not, true_or, or_true, true_and, and_true, Int.reduceEq, Int.reduceNeg, eq_self, reduceIte, if_true, if_false] at *; done)) ?_
        exact ⟨rfl, by rw [e]; rfl, hle2⟩
    · have hdf : dfb (sOf l) (j : Int) = false := by
        cases hq : dfb (sOf l) (j : Int)
        · rfl
        · exact absurd (hd.1 hq).1 h1
      have e : quL (quV p) (sOf l) p (j + 1) = quL (quV p) (sOf l) p j := by simp only [quL, hdf]; rfl
      have h1 : ((spl l (j : Int) 0).length : Int) ≤ 0 := by omega
      refine ⟨[Ans.o (Orc.b true), Ans.o (Orc.val (19 : Nat) (AV.sl (ints (spl l (↑j : Int) (0 : Int))) (spl l (↑j : Int) (0 : Int)).length (rn (spl l (↑j : Int) (0 : Int)))) (H.mk [] [] [])), Ans.o (Orc.val (22 : Nat) (AV.sl (ints (spl l (↑j : Int) (1 : Int))) (spl l (↑j : Int) (1 : Int)).length (rn (spl l (↑j : Int) (1 : Int)))) (H.mk [] [] [])), Ans.o (Orc.b false)], fun u => of_eq ((↑j : Int) < p ∧ aCall (Sof [c57.to, (C45 n ih).to]) (AV.fn (Fn.func (57 : Nat)) [] []) [AV.sl (ints l) l.length r, I (↑j : Int), I (0 : Int)] (H.mk [] [] []) = some (AV.sl (ints (spl l (↑j : Int) (0 : Int))) (spl l (↑j : Int) (0 : Int)).length (rn (spl l (↑j : Int) (0 : Int))), H.mk [] [] []) ∧ aCall (Sof [c57.to, (C45 n ih).to]) (AV.fn (Fn.func (57 : Nat)) [] []) [AV.sl (ints l) l.length r, I (↑j : Int), I (1 : Int)] (H.mk [] [] []) = some (AV.sl (ints (spl l (↑j : Int) (1 : Int))) (spl l (↑j : Int) (1 : Int)).length (rn (spl l (↑j : Int) (1 : Int))), H.mk [] [] []) ∧ (↑(spl l (↑j : Int) (0 : Int)).length : Int) ≤ (0 : Int) ∧ IntKind.i64.wrap ((↑j : Int) + (1 : Int)) = (↑j : Int) + (1 : Int) ∧ (43 : Nat) = (43 : Nat) ∧ j < p.toNat ∧ Keep (H.mk [] [] [] = H.mk [] [] [] ∧ [I p, AV.sl (ints l) l.length r, I (quL (quV p) (sOf l) p j), I p, I ((↑j : Int) + (1 : Int))] = [I p, AV.sl (ints l) l.length r, I (quL (quV p) (sOf l) p (j + (1 : Nat))), I p, I (↑(j + (1 : Nat)) : Int)] ∧ (↑(j + (1 : Nat)) : Int) ≤ p)) (by kernel_rfl) ?_⟩
      refine And.intro (by first | assumption | omega | (simp only [small, tiny, rng, decide_eq_true_eq, decide_eq_false_iff_not, true_or, or_true, true_and, and_true, Int.reduceEq, Int.reduceNeg, eq_self, reduceIte, if_true, if_false] at *; omega) | (simp [small, tiny, rng, decide_eq_true_eq, decide_eq_false_iff_not, true_or, or_true, true_and, and_true, Int.reduceEq, Int.reduceNeg, eq_self, reduceIte, if_true, if_false] at *; done)) ?_
      refine And.intro (by first | exact acall_hit (c := c57.to) (l, r, (j : Int), 0) _ rfl hq | exact acall_hit (c := c57.to) (l, r, (j : Int), 1) _ rfl hq) ?_
      refine And.intro (by first | exact acall_hit (c := c57.to) (l, r, (j : Int), 0) _ rfl hq | exact acall_hit (c := c57.to) (l, r, (j : Int), 1) _ rfl hq) ?_
      refine And.intro (by first | assumption | omega | (simp only [small, tiny, rng, decide_eq_true_eq, decide_eq_false_iff_not, true_or, or_true, true_and, and_true, Int.reduceEq, Int.reduceNeg, eq_self, reduceIte, if_true, if_false] at *; omega) | (simp [small, tiny, rng, decide_eq_true_eq, decide_eq_false_iff_not, true_or, or_true, true_and, and_true, Int.reduceEq, Int.reduceNeg, eq_self, reduceIte, if_true, if_false] at *; done)) ?_
      refine And.intro (by first | exact wr _ (by omega) (by omega) | (refine wr _ ?_ ?_ <;> (simp only [small, tiny, rng, decide_eq_true_eq, decide_eq_false_iff_not, true_or, or_true, true_and, and_true, Int.reduceEq, Int.reduceNeg, eq_self, reduceIte, if_true, if_false] at *; omega))) ?_
      refine And.intro (by first | assumption | omega | (simp only [small, tiny, rng, decide_eq_true_eq, decide_eq_false_iff_not, true_or, or_true, true_and, and_true, Int.reduceEq, Int.reduceNeg, eq_self, reduceIte, if_true, if_false] at *; omega) | (simp [small, tiny, rng, decide_eq_true_eq, decide_eq_false_iff_not, true_or, or_true, true_and, and_true, Int.reduceEq, Int.reduceNeg, eq_self, reduceIte, if_true, if_false] at *; done)) ?_
      refine And.intro (by first | assumption | omega | (simp only [small, tiny, rng, decide_eq_true_eq, decide_eq_false_iff_not, true_or, or_true, true_and, and_true, Int.reduceEq, Int.reduceNeg, eq_self, reduceIte, if_true, if_false] at *; omega) | (simp [small, tiny, rng, decide_eq_true_eq, decide_eq_false_iff_not, true_or, or_true, true_and, and_true, Int.reduceEq, Int.reduceNeg, eq_self, reduceIte, if_true, if_false] at *; done)) ?_
      exact ⟨rfl, by rw [e]; rfl, hle2⟩
  · have hz : p ≤ (j : Int) := by omega
    have e : j = p.toNat := by omega
    subst e
    refine ⟨[Ans.o (Orc.b false)], fun u => of_eq (p ≤ (↑p.toNat : Int) ∧ (43 : Nat) = (43 : Nat) ∧ hits [Out.mk Unit (AX.exit (0 : Nat)) [(5 : Nat)] (fun x => True) (fun x => [I (quL (quV p) (sOf l) p p.toNat)]) (fun x => H.nil) fun x => []] (AX.exit (0 : Nat)) [I p, AV.sl (ints l) l.length r, u (2 : Nat), u (3 : Nat), u (4 : Nat), I (quL (quV p) (sOf l) p p.toNat), u (6 : Nat), u (7 : Nat), u (8 : Nat), u (9 : Nat), u (10 : Nat), u (11 : Nat), u (12 : Nat), I p, I (↑p.toNat : Int), AV.bool false, u (16 : Nat), u (17 : Nat), u (18 : Nat), u (19 : Nat), u (20 : Nat), u (21 : Nat), u (22 : Nat), u (23 : Nat), u (24 : Nat), u (25 : Nat), u (26 : Nat), u (27 : Nat), u (28 : Nat), u (29 : Nat), u (30 : Nat), u (31 : Nat), u (32 : Nat), u (33 : Nat), u (34 : Nat), u (35 : Nat), u (36 : Nat), u (37 : Nat), u (38 : Nat), u (39 : Nat), u (40 : Nat), u (41 : Nat), u (42 : Nat)] (H.mk [] [] [])) (by kernel_rfl) ?_⟩
    refine And.intro (by first | assumption | omega | (simp only [small, tiny, rng, decide_eq_true_eq, decide_eq_false_iff_not, true_or, or_true, true_and, and_true, Int.reduceEq, Int.reduceNeg, eq_self, reduceIte, if_true, if_false] at *; omega) | (simp [small, tiny, rng, decide_eq_true_eq, decide_eq_false_iff_not, true_or, or_true, true_and, and_true, Int.reduceEq, Int.reduceNeg, eq_self, reduceIte, if_true, if_false] at *; done)) ?_
    refine And.intro (by first | assumption | omega | (simp only [small, tiny, rng, decide_eq_true_eq, decide_eq_false_iff_not, true_or, or_true, true_and, and_true, Int.reduceEq, Int.reduceNeg, eq_self, reduceIte, if_true, if_false] at *; omega) | (simp [small, tiny, rng, decide_eq_true_eq, decide_eq_false_iff_not, true_or, or_true, true_and, and_true, Int.reduceEq, Int.reduceNeg, eq_self, reduceIte, if_true, if_false] at *; done)) ?_
    exact .inl ⟨(), trivial, rfl, rfl, rfl⟩
theorem r45 (n : Nat) (ih : C45ok n) (p : Int) (l : List Int) (r : Room) (hp : p5 p ∧ lsn l r ∧ pc (sOf l) < n + 1) : Body (En4 [c57.to, (C45 n ih).to]) none1 Tryd.f45 [I p, ls l r] .nil (I (quV p (sOf l)), .nil) := by
  have hl := pc_len hp.2.1.1.2 hp.2.1.2
  by_cases h1 : (l.length : Int) = 1
  · rw [quV_one (by omega)]
    refine body_s ([Ans.o (Orc.b true)]) ((↑l.length : Int) = (1 : Int) ∧ (I (0 : Int), H.mk [] [] []) = (I (0 : Int), H.mk [] [] [])) (by kernel_rfl) ?_
    refine And.intro (by first | assumption | omega | (simp only [small, tiny, rng, decide_eq_true_eq, decide_eq_false_iff_not, true_or, or_true, true_and, and_true, Int.reduceEq, Int.reduceNeg, eq_self, reduceIte, if_true, if_false] at *; omega) | (simp [small, tiny, rng, decide_eq_true_eq, decide_eq_false_iff_not, true_or, or_true, true_and, and_true, Int.reduceEq, Int.reduceNeg, eq_self, reduceIte, if_true, if_false] at *; done)) ?_
    first | with_reducible rfl | (refine bleaf_t ?_; first | omega | (simp only [small, tiny, rng, decide_eq_true_eq, decide_eq_false_iff_not, true_or, or_true, true_and, and_true, Int.reduceEq, Int.reduceNeg, eq_self, reduceIte, if_true, if_false] at *; omega)) | (refine bleaf_f ?_; first | omega | (simp only [small, tiny, rng, decide_eq_true_eq, decide_eq_false_iff_not, true_or, or_true, true_and, and_true, Int.reduceEq, Int.reduceNeg, eq_self, reduceIte, if_true, if_false] at *; omega)) | (refine ileaf ?_; first | omega | (simp only [small, tiny, rng, decide_eq_true_eq, decide_eq_false_iff_not, true_or, or_true, true_and, and_true, Int.reduceEq, Int.reduceNeg, eq_self, reduceIte, if_true, if_false] at *; omega)) | (exfalso; omega) | (simp only [Prod.mk.injEq, AV.agg.injEq, AV.tup.injEq, List.cons.injEq, AV.int.injEq, AV.bool.injEq, and_true, true_and]; (repeat' apply And.intro) <;> first | with_reducible rfl | (simp []; done) | (simp []; omega) | omega | (simp only [small, tiny, rng, decide_eq_true_eq, decide_eq_false_iff_not, true_or, or_true, true_and, and_true, Int.reduceEq, Int.reduceNeg, eq_self, reduceIte, if_true, if_false] at *; omega) | (simp [small, tiny, rng, decide_eq_true_eq, decide_eq_false_iff_not, true_or, or_true, true_and, and_true, Int.reduceEq, Int.reduceNeg, eq_self, reduceIte, if_true, if_false, *]; done) | (simp [small, tiny, rng, decide_eq_true_eq, decide_eq_false_iff_not, true_or, or_true, true_and, and_true, Int.reduceEq, Int.reduceNeg, eq_self, reduceIte, if_true, if_false, *]; omega)) | (exfalso; simp only [small, tiny, rng, decide_eq_true_eq, decide_eq_false_iff_not, true_or, or_true, true_and, and_true, Int.reduceEq, Int.reduceNeg, eq_self, reduceIte, if_true, if_false] at *; omega) | (simp [small, tiny, rng, decide_eq_true_eq, decide_eq_false_iff_not, true_or, or_true, true_and, and_true, Int.reduceEq, Int.reduceNeg, eq_self, reduceIte, if_true, if_false] at *; done) | (simp [small, tiny, rng, decide_eq_true_eq, decide_eq_false_iff_not, true_or, or_true, true_and, and_true, Int.reduceEq, Int.reduceNeg, eq_self, reduceIte, if_true, if_false] at *; omega)
  · rw [quV_eq (by omega)]
    have h1 : (l.length : Int) ≠ 1 := h1
    refine body_s ([Ans.o (Orc.b false), Ans.loop [(0 : Nat), (1 : Nat), (5 : Nat), (13 : Nat), (14 : Nat)] [Out.mk Unit (AX.exit (0 : Nat)) [(5 : Nat)] (fun x => True) (fun x => [I (quL (quV p) (sOf l) p p.toNat)]) (fun x => H.nil) fun y => []]]) ((↑l.length : Int) ≠ (1 : Int) ∧ LoopS (Env.mk Tryd.prog (Sof [c57.to, (C45 n ih).to]) (Pof (P := Tryd.prog) []) H.nil.base (300 : Nat)) (loopAt Tryd.f45 (0 : Nat)) (43 : Nat) [(0 : Nat), (1 : Nat), (5 : Nat), (13 : Nat), (14 : Nat)] [I p, AV.sl (ints l) l.length r, I p, I p, I (0 : Int)] (H.mk [] [] []) [Out.mk Unit (AX.exit (0 : Nat)) [(5 : Nat)] (fun x => True) (fun x => [I (quL (quV p) (sOf l) p p.toNat)]) (fun x => H.nil) fun y => []] ∧ (∀ (y : Unit), True → ∀ (u : Nat → AV), (I (quL (quV p) (sOf l) p p.toNat), H.mk [] [] []) = (I (quL (quV p) (sOf l) p p.toNat), H.mk [] [] [])) ∧ True) (by kernel_rfl) ?_
    refine And.intro (by first | assumption | omega | (simp only [small, tiny, rng, decide_eq_true_eq, decide_eq_false_iff_not, true_or, or_true, true_and, and_true, Int.reduceEq, Int.reduceNeg, eq_self, reduceIte, if_true, if_false] at *; omega) | (simp [small, tiny, rng, decide_eq_true_eq, decide_eq_false_iff_not, true_or, or_true, true_and, and_true, Int.reduceEq, Int.reduceNeg, eq_self, reduceIte, if_true, if_false] at *; done)) ?_
    refine And.intro (by exact lp45 n ih p l r hp.1 hp.2.1 hp.2.2) ?_
    refine And.intro ?_ ?_
    · skip
      intro y
      intro w1
      intro u
      first | with_reducible rfl | (refine bleaf_t ?_; first | omega | (simp only [small, tiny, rng, decide_eq_true_eq, decide_eq_false_iff_not, true_or, or_true, true_and, and_true, Int.reduceEq, Int.reduceNeg, eq_self, reduceIte, if_true, if_false] at *; omega)) | (refine bleaf_f ?_; first | omega | (simp only [small, tiny, rng, decide_eq_true_eq, decide_eq_false_iff_not, true_or, or_true, true_and, and_true, Int.reduceEq, Int.reduceNeg, eq_self, reduceIte, if_true, if_false] at *; omega)) | (refine ileaf ?_; first | omega | (simp only [small, tiny, rng, decide_eq_true_eq, decide_eq_false_iff_not, true_or, or_true, true_and, and_true, Int.reduceEq, Int.reduceNeg, eq_self, reduceIte, if_true, if_false] at *; omega)) | (exfalso; omega) | (simp only [Prod.mk.injEq, AV.agg.injEq, AV.tup.injEq, List.cons.injEq, AV.int.injEq, AV.bool.injEq, and_true, true_and]; (repeat' apply And.intro) <;> first | with_reducible rfl | (simp []; done) | (simp []; omega) | omega | (simp only [small, tiny, rng, decide_eq_true_eq, decide_eq_false_iff_not, true_or, or_true, true_and, and_true, Int.reduceEq, Int.reduceNeg, eq_self, reduceIte, if_true, if_false] at *; omega) | (simp [small, tiny, rng, decide_eq_true_eq, decide_eq_false_iff_not, true_or, or_true, true_and, and_true, Int.reduceEq, Int.reduceNeg, eq_self, reduceIte, if_true, if_false, *]; done) | (simp [small, tiny, rng, decide_eq_true_eq, decide_eq_false_iff_not, true_or, or_true, true_and, and_true, Int.reduceEq, Int.reduceNeg, eq_self, reduceIte, if_true, if_false, *]; omega)) | (exfalso; simp only [small, tiny, rng, decide_eq_true_eq, decide_eq_false_iff_not, true_or, or_true, true_and, and_true, Int.reduceEq, Int.reduceNeg, eq_self, reduceIte, if_true, if_false] at *; omega) | (simp [small, tiny, rng, decide_eq_true_eq, decide_eq_false_iff_not, true_or, or_true, true_and, and_true, Int.reduceEq, Int.reduceNeg, eq_self, reduceIte, if_true, if_false] at *; done) | (simp [small, tiny, rng, decide_eq_true_eq, decide_eq_false_iff_not, true_or, or_true, true_and, and_true, Int.reduceEq, Int.reduceNeg, eq_self, reduceIte, if_true, if_false] at *; omega)
    · skip
      trivial
theorem C45_all : ∀ n, C45ok n
  | 0 => fun _ _ _ hp => absurd hp.2.2 (Nat.not_lt_zero _)
  | n + 1 => fun p l r hp => (r45 n (C45_all n) p l r hp).run ok45 (.pure _ (.pure _ .nil)) rfl
noncomputable def c45 : PCtr Tryd.prog where
  f := 45
  X := Int × List Int × Room
  args q := [I q.1, ls q.2.1 q.2.2]
  pre q := p5 q.1 ∧ lsn q.2.1 q.2.2
  v q := I (quV q.1 (sOf q.2.1))
  det := by
    rintro ⟨p, l, r⟩ ⟨p', l', r'⟩ e _ _
    simp at e
    simp [e]
  ok := by
    rintro ⟨p, l, r⟩ h
    exact (C45 33 (C45_all 33)).ok (p, l, r) ⟨h.1, h.2, by have := pc_le (sOf l); show pc (sOf l) < 33; omega⟩
end Go.Proofs.Lrn
