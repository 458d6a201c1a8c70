/- Layer 3: lists that are the same; a plan's copy. -/
import Derived.Test.YtheoddlhpklccaaTkG
import Derived.KernelRfl
set_option linter.unusedSimpArgs false
set_option linter.unusedVariables false
set_option linter.unnecessarySimpa false
set_option maxHeartbeats 4000000
set_option maxRecDepth 100000
namespace Go.Proofs.Tlk
open Go Go.VM
abbrev lim (n : Nat) : Prop := n ≤ 9223372036854775807
abbrev ls (l : List Int) (r : Room) : AV := .sl (ints l) l.length r
theorem at_ext {l m : List Int} (h : l.length = m.length) (k : ∀ i, i < l.length → l.getD i i0 = m.getD i i0) : l = m := by
  apply List.ext_getElem h
  intro i h1 h2
  have := k i h1
  simpa [List.getD_eq_getElem?_getD, List.getElem?_eq_getElem h1, List.getElem?_eq_getElem h2] using this
def o26 (l m : List Int) : List Out := [.mk Unit .ret [4] (fun _ => l ≠ m) (fun _ => [.bool false]) (fun _ => .nil) (fun _ => []), .mk Unit (.exit 0) [] (fun _ => l = m) (fun _ => []) (fun _ => .nil) (fun _ => [])]
theorem simp26 : allSimpleM none1 (loopAt Try.f26 0) = true := by kernel_rfl
theorem lp26 (l m : List Int) (r1 r2 : Room) (hlm : l.length = m.length) (h0 : lim l.length) (h1 : rok l r1) (h2 : rok m r2) :
    LoopS (EnT []) (loopAt Try.f26 0) 26 [0, 1, 12, 13] [ls l r1, ls m r2, I l.length, I 0] .nil (o26 l m) := by
  have hR : Rests (EnT []) none1 := rests mixed .nil
  refine loop_s hR simp26 none (by intro _ h; cases h) (fun j vs h => h = .nil ∧ vs = [ls l r1, ls m r2, I l.length, I j] ∧ ∀ i, i < j → l.getD i i0 = m.getD i i0) l.length ⟨rfl, rfl, fun i hi => absurd hi (Nat.not_lt_zero _)⟩ (by intro _ h; cases h) ?_
  rintro j vs h hj ⟨rfl, rfl, hI⟩
  by_cases hz : (j : Int) < l.length
  · have hz' : j < l.length := by omega
    have hz2 : j < m.length := by omega
    have hr1 := rok_idx h1 hz'
    have hr2 := rok_idx h2 hz2
    have ev0 : IntKind.i64.wrap ((j : Int) + 1) = ((j + 1 : Nat) : Int) := by rw [wr _ (by omega) (by omega)]; omega
    refine ⟨[Ans.o (Orc.b true), Ans.o (Orc.val 18 (AV.cptr (ints (List.drop j l))) H.nil), Ans.o (Orc.val 19 (I (l.getD j i0)) H.nil), Ans.o (Orc.val 22 (AV.cptr (ints (List.drop j m))) H.nil), Ans.o (Orc.val 23 (I (m.getD j i0)) H.nil), Ans.fork [] [Ans.o (Orc.val 25 (I (↑(j + (1 : Nat)) : Int)) H.nil)]], fun u => of_eq ((↑j : Int) < (↑l.length : Int) ∧ aIndexAddr Try.prog (41 : Nat) (AV.sl (ints l) l.length r1) (I (↑j : Int)) = some (AV.cptr (ints (List.drop j l))) ∧ aLoad Try.prog (3 : Nat) (ints (List.drop j l)) = some (I (l.getD j i0)) ∧ aIndexAddr Try.prog (41 : Nat) (AV.sl (ints m) m.length r2) (I (↑j : Int)) = some (AV.cptr (ints (List.drop j m))) ∧ aLoad Try.prog (3 : Nat) (ints (List.drop j m)) = some (I (m.getD j i0)) ∧ (l.getD j i0 ≠ m.getD j i0 → (26 : Nat) = (26 : Nat) ∧ hits [Out.mk Unit AX.ret [(4 : Nat)] (fun x => l ≠ m) (fun x => [AV.bool false]) (fun x => H.nil) fun x => [], Out.mk Unit (AX.exit (0 : Nat)) [] (fun x => l = m) (fun x => []) (fun x => H.nil) fun x => []] AX.ret [AV.sl (ints l) l.length r1, AV.sl (ints m) m.length r2, u (2 : Nat), u (3 : Nat), AV.bool false, I (↑j : Int), u (6 : Nat), u (7 : Nat), u (8 : Nat), u (9 : Nat), u (10 : Nat), u (11 : Nat), I (↑l.length : Int), I (↑j : Int), AV.bool true, I (↑j : Int), AV.sl (ints l) l.length r1, I (↑j : Int), AV.cptr (ints (List.drop j l)), I (l.getD j i0), AV.sl (ints m) m.length r2, I (↑j : Int), AV.cptr (ints (List.drop j m)), I (m.getD j i0), AV.bool true, u (25 : Nat)] (H.mk [] [] [])) ∧ (l.getD j i0 = m.getD j i0 → aBin Try.prog BinOp.add (3 : Nat) (I (↑j : Int)) (I 1) = some (I (↑(j + (1 : Nat)) : Int)) ∧ (26 : Nat) = (26 : Nat) ∧ j < l.length ∧ Keep (H.mk [] [] [] = H.mk [] [] [] ∧ [AV.sl (ints l) l.length r1, AV.sl (ints m) m.length r2, I (↑l.length : Int), I (↑(j + (1 : Nat)) : Int)] = [AV.sl (ints l) l.length r1, AV.sl (ints m) m.length r2, I (↑l.length : Int), I (↑(j + (1 : Nat)) : Int)] ∧ ∀ (i : Nat), i < j + (1 : Nat) → l.getD i i0 = m.getD i i0))) (by kernel_rfl) ?_⟩
    refine ⟨by first | with_reducible assumption | omega | assumption, ?_⟩
    refine ⟨by first | exact ix_ints (by kernel_rfl) (by omega) hr1 | exact ix_ints (by kernel_rfl) (by omega) hr2, ?_⟩
    refine ⟨by first | exact ld_ints (by kernel_rfl) (by kernel_rfl) (by omega) | exact ldm_ints (by kernel_rfl) (by kernel_rfl) (by first | omega | (simp; omega)), ?_⟩
    refine ⟨by first | exact ix_ints (by kernel_rfl) (by omega) hr1 | exact ix_ints (by kernel_rfl) (by omega) hr2, ?_⟩
    refine ⟨by first | exact ld_ints (by kernel_rfl) (by kernel_rfl) (by omega) | exact ldm_ints (by kernel_rfl) (by kernel_rfl) (by first | omega | (simp; omega)), ?_⟩
    refine And.intro ?_ ?_
    · skip
      intro w0
      refine ⟨by first | with_reducible assumption | omega | assumption, ?_⟩
      exact .inl ⟨(), fun e => by subst e; contradiction, rfl, rfl, rfl⟩
    · skip
      intro w0
      refine ⟨told_add (by with_reducible assumption), ?_⟩
      refine ⟨by first | with_reducible assumption | omega | assumption, ?_⟩
      refine ⟨by first | with_reducible assumption | omega | assumption, ?_⟩
      exact ⟨rfl, rfl, fun i hi => by by_cases e : i = j; (· subst e; assumption); (· exact hI i (by omega))⟩
  · have hz : (l.length : Int) ≤ j := by omega
    refine ⟨[Ans.o (Orc.b false)], fun u => of_eq ((↑l.length : Int) ≤ (↑j : Int) ∧ (26 : Nat) = (26 : Nat) ∧ hits [Out.mk Unit AX.ret [(4 : Nat)] (fun x => l ≠ m) (fun x => [AV.bool false]) (fun x => H.nil) fun x => [], Out.mk Unit (AX.exit (0 : Nat)) [] (fun x => l = m) (fun x => []) (fun x => H.nil) fun x => []] (AX.exit (0 : Nat)) [AV.sl (ints l) l.length r1, AV.sl (ints m) m.length r2, u (2 : Nat), u (3 : Nat), u (4 : Nat), u (5 : Nat), u (6 : Nat), u (7 : Nat), u (8 : Nat), u (9 : Nat), u (10 : Nat), u (11 : Nat), I (↑l.length : Int), I (↑j : Int), AV.bool false, u (15 : Nat), u (16 : Nat), u (17 : Nat), u (18 : Nat), u (19 : Nat), u (20 : Nat), u (21 : Nat), u (22 : Nat), u (23 : Nat), u (24 : Nat), u (25 : Nat)] (H.mk [] [] [])) (by kernel_rfl) ?_⟩
    refine ⟨by first | with_reducible assumption | omega | assumption, ?_⟩
    refine ⟨by first | with_reducible assumption | omega | assumption, ?_⟩
    exact .inr (.inl ⟨(), at_ext hlm fun i hi => hI i (by omega), rfl, rfl, rfl⟩)
theorem ok26 : FokM Try.prog none1 26 Try.f26 := ⟨mixed, by kernel_rfl, by kernel_rfl, by kernel_rfl, by kernel_rfl⟩
theorem r26 (l m : List Int) (r1 r2 : Room) (h0 : lim l.length) (h1 : rok l r1) (h2 : rok m r2) : Body (EnT []) none1 Try.f26 [ls l r1, ls m r2] .nil (.bool (decide (l = m)), .nil) := by
  by_cases hlm : l.length = m.length
  · have he : (l.length : Int) = m.length := by omega
    have hl := lp26 l m r1 r2 hlm h0 h1 h2
    refine body_s ([Ans.o (Orc.b false), Ans.loop [(0 : Nat), (1 : Nat), (12 : Nat), (13 : Nat)] [Out.mk Unit AX.ret [(4 : Nat)] (fun x => l ≠ m) (fun x => [AV.bool false]) (fun x => H.nil) fun y => [], Out.mk Unit (AX.exit (0 : Nat)) [] (fun x => l = m) (fun x => []) (fun x => H.nil) fun y => []]]) ((↑l.length : Int) = (↑m.length : Int) ∧ LoopS (Env.mk Try.prog (Sof (P := Try.prog) []) (Pof (P := Try.prog) []) H.nil.base (300 : Nat)) (loopAt Try.f26 (0 : Nat)) (26 : Nat) [(0 : Nat), (1 : Nat), (12 : Nat), (13 : Nat)] [AV.sl (ints l) l.length r1, AV.sl (ints m) m.length r2, I (↑l.length : Int), I 0] (H.mk [] [] []) [Out.mk Unit AX.ret [(4 : Nat)] (fun x => l ≠ m) (fun x => [AV.bool false]) (fun x => H.nil) fun y => [], Out.mk Unit (AX.exit (0 : Nat)) [] (fun x => l = m) (fun x => []) (fun x => H.nil) fun y => []] ∧ (∀ (y : Unit), l ≠ m → ∀ (u : Nat → AV), (AV.bool false, H.mk [] [] []) = (AV.bool (decide (l = m)), H.mk [] [] [])) ∧ (∀ (y : Unit), l = m → ∀ (u : Nat → AV), (AV.bool true, H.mk [] [] []) = (AV.bool (decide (l = m)), H.mk [] [] [])) ∧ True) (by kernel_rfl) ?_
    refine ⟨by first | with_reducible assumption | omega | assumption, ?_⟩
    refine ⟨hl, ?_⟩
    refine And.intro ?_ ?_
    · skip
      intro y
      intro w1
      intro u
      first | (rw [decide_eq_true (by assumption)]) | (rw [decide_eq_false (by assumption)])
    · skip
      refine And.intro ?_ ?_
      · skip
        intro y
        intro w1
        intro u
        first | (rw [decide_eq_true (by assumption)]) | (rw [decide_eq_false (by assumption)])
      · skip
        trivial
  · have he : (l.length : Int) ≠ m.length := by omega
    have hf : l ≠ m := fun e => hlm (by rw [e])
    refine body_s ([Ans.o (Orc.b true)]) ((↑l.length : Int) ≠ (↑m.length : Int) ∧ (AV.bool false, H.mk [] [] []) = (AV.bool (decide (l = m)), H.mk [] [] [])) (by kernel_rfl) ?_
    refine ⟨by first | with_reducible assumption | omega | assumption, ?_⟩
    rw [decide_eq_false hf]
noncomputable def c26 : PCtr Try.prog := sctr ok26 (X := List Int × Room × List Int × Room) (fun x => [ls x.1 x.2.1, ls x.2.2.1 x.2.2.2]) (fun x => lim x.1.length ∧ rok x.1 x.2.1 ∧ rok x.2.2.1 x.2.2.2) (fun x => .bool (decide (x.1 = x.2.2.1)))
  (by rintro ⟨a, b, c, d⟩ ⟨a', b', c', d'⟩ e _ _; simp at e; simp only [e.1.1, e.2.1]) (fun x => by simp [AV.bnds, AV.bnd, AV.wk, rm_wk_bnd]) (fun _ => rfl) (fun x hx => ⟨_, _, _, .nil, r26 x.1 x.2.2.1 x.2.1.wk x.2.2.2.wk hx.1 (by simpa using hx.2.1) (by simpa using hx.2.2)⟩)
end Go.Proofs.Tlk

