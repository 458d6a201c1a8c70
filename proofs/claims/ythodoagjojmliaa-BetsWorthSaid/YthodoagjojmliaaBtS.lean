/- Layer 9: sure forecasts; slices of fractions compared; what may still be written, copied. -/
import Derived.Test.YthodoagjojmliaaBtQ
import Derived.Test.YthodoagjojmliaaVm9
import Derived.KernelRfl
set_option linter.unusedSimpArgs false
set_option linter.unusedVariables false
set_option linter.unnecessarySimpa false
set_option maxHeartbeats 4000000
set_option maxRecDepth 100000
namespace Go.Proofs.Bts
open Go Go.VM

abbrev o42 (l m : List Pr) : List Out :=
  [.mk Unit .ret [4] (fun _ => l ≠ m) (fun _ => [.bool false]) (fun _ => .nil) (fun _ => []),
   .mk Unit (.exit 0) [] (fun _ => l = m) (fun _ => []) (fun _ => .nil) (fun _ => [])]
theorem simp42 : allSimpleM none1 (loopAt Try.f42 0) = true := by kernel_rfl
theorem lp42 (l m : List Pr) (r q : Room) (h0 : lim l.length) (hl : l.length = m.length) (hr0 : rok l r) (hq0 : rok m q) :
    LoopS (En6 []) (loopAt Try.f42 0) 26 [0, 1, 12, 13] [pz l r, pz m q, I l.length, I 0] .nil (o42 l m) := by
  have hR : Rests (En6 []) none1 := rests mixed .nil
  refine loop_s hR simp42 none (by intro _ h; cases h) (fun j vs h => h = .nil ∧ vs = [pz l r, pz m q, I l.length, I (j : Nat)] ∧ ∀ i, i < j → l.getD i pair0 = m.getD i pair0) l.length ⟨rfl, rfl, fun i hi => absurd hi (by omega)⟩ (by intro _ h; cases h) ?_
  rintro j vs h hj ⟨rfl, rfl, ha⟩
  by_cases hz : (j : Int) < l.length
  · have hz' : j < l.length := by omega
    have hzm : j < m.length := by omega
    have hzm' : (j : Int) < m.length := by omega
    have hr := rok_idx hr0 hz'
    have hq := rok_idx hq0 hzm
    have ev0 := wj1 (j := j) (by simp only [lim] at h0; omega)
    refine ⟨[Ans.o (Orc.b true), Ans.o (Orc.val 18 (AV.cptr (pairsA (List.drop j l))) H.nil), Ans.o (Orc.val 19 (AV.agg [I (l.getD j pair0).fst, I (l.getD j pair0).snd]) H.nil), Ans.o (Orc.val 22 (AV.cptr (pairsA (List.drop j m))) H.nil), Ans.o (Orc.val 23 (AV.agg [I (m.getD j pair0).fst, I (m.getD j pair0).snd]) H.nil), Ans.bfork (24 : Nat) [] [Ans.o (Orc.val 25 (I (↑(j + (1 : Nat)) : Int)) H.nil)]], fun u => of_eq ((↑j : Int) < (↑l.length : Int) ∧ aIndexAddr Try.prog (23 : Nat) (AV.sl (pairsA l) l.length r) (I (↑j : Int)) = some (AV.cptr (pairsA (List.drop j l))) ∧ aLoad Try.prog (47 : Nat) (pairsA (List.drop j l)) = some (AV.agg [I (l.getD j pair0).fst, I (l.getD j pair0).snd]) ∧ aIndexAddr Try.prog (23 : Nat) (AV.sl (pairsA m) m.length q) (I (↑j : Int)) = some (AV.cptr (pairsA (List.drop j m))) ∧ aLoad Try.prog (47 : Nat) (pairsA (List.drop j m)) = some (AV.agg [I (m.getD j pair0).fst, I (m.getD j pair0).snd]) ∧ ((!((l.getD j pair0).fst == (m.getD j pair0).fst && ((l.getD j pair0).snd == (m.getD j pair0).snd && true))) = true → (26 : Nat) = (26 : Nat) ∧ hits [Out.mk Unit AX.ret [(4 : Nat)] (fun x => l ≠ m) (fun x => [AV.bool false]) (fun x => H.nil) fun x => [], Out.mk Unit (AX.exit (0 : Nat)) [] (fun x => l = m) (fun x => []) (fun x => H.nil) fun x => []] AX.ret [AV.sl (pairsA l) l.length r, AV.sl (pairsA m) m.length q, u (2 : Nat), u (3 : Nat), AV.bool false, I (↑j : Int), u (6 : Nat), u (7 : Nat), u (8 : Nat), u (9 : Nat), u (10 : Nat), u (11 : Nat), I (↑l.length : Int), I (↑j : Int), AV.bool true, I (↑j : Int), AV.sl (pairsA l) l.length r, I (↑j : Int), AV.cptr (pairsA (List.drop j l)), AV.agg [I (l.getD j pair0).fst, I (l.getD j pair0).snd], AV.sl (pairsA m) m.length q, I (↑j : Int), AV.cptr (pairsA (List.drop j m)), AV.agg [I (m.getD j pair0).fst, I (m.getD j pair0).snd], AV.bool true, u (25 : Nat)] (H.mk [] [] [])) ∧ ((!((l.getD j pair0).fst == (m.getD j pair0).fst && ((l.getD j pair0).snd == (m.getD j pair0).snd && true))) = false → aBin Try.prog BinOp.add (3 : Nat) (I (↑j : Int)) (I 1) = some (I (↑(j + (1 : Nat)) : Int)) ∧ (26 : Nat) = (26 : Nat) ∧ j < l.length ∧ Keep (H.mk [] [] [] = H.mk [] [] [] ∧ [AV.sl (pairsA l) l.length r, AV.sl (pairsA m) m.length q, I (↑l.length : Int), I (↑(j + (1 : Nat)) : Int)] = [AV.sl (pairsA l) l.length r, AV.sl (pairsA m) m.length q, I (↑l.length : Int), I (↑(j + (1 : Nat)) : Int)] ∧ ∀ (i : Nat), i < j + (1 : Nat) → l.getD i pair0 = m.getD i pair0))) (by kernel_rfl) ?_⟩
    refine ⟨by first | with_reducible assumption | omega | assumption, ?_⟩
    refine ⟨by first | exact ix_pairs (by kernel_rfl) hz' hr | exact ix_pairs (by kernel_rfl) hzm hq, ?_⟩
    refine ⟨by first | exact ld_pairs (by kernel_rfl) (by kernel_rfl) (by kernel_rfl) hz' | exact ld_pairs (by kernel_rfl) (by kernel_rfl) (by kernel_rfl) hzm, ?_⟩
    refine ⟨by first | exact ix_pairs (by kernel_rfl) hz' hr | exact ix_pairs (by kernel_rfl) hzm hq, ?_⟩
    refine ⟨by first | exact ld_pairs (by kernel_rfl) (by kernel_rfl) (by kernel_rfl) hz' | exact ld_pairs (by kernel_rfl) (by kernel_rfl) (by kernel_rfl) hzm, ?_⟩
    refine And.intro ?_ ?_
    · skip
      intro w0
      refine ⟨by first | with_reducible assumption | omega | assumption, ?_⟩
      exact .inl ⟨(), fun e => by subst e; simp at w0, rfl, rfl, rfl⟩
    · skip
      intro w0
      refine ⟨told_add (by with_reducible assumption), ?_⟩
      refine ⟨by first | with_reducible assumption | omega | assumption, ?_⟩
      refine ⟨by first | with_reducible assumption | omega | assumption, ?_⟩
      exact ⟨rfl, rfl, all_succ (q := fun i => l.getD i pair0 = m.getD i pair0) ha (by simp at w0; exact Prod.ext (by simp [w0]) (by simp [w0]))⟩
  · have hz : (l.length : Int) ≤ j := by omega
    have e : l = m := List.ext_getElem hl fun i h1 h2 => by
      have := ha i (by omega)
      simpa [List.getD_eq_getElem?_getD, h1, h2] using this
    refine ⟨[Ans.o (Orc.b false)], fun u => of_eq ((↑l.length : Int) ≤ (↑j : Int) ∧ (26 : Nat) = (26 : Nat) ∧ hits [Out.mk Unit AX.ret [(4 : Nat)] (fun x => l ≠ m) (fun x => [AV.bool false]) (fun x => H.nil) fun x => [], Out.mk Unit (AX.exit (0 : Nat)) [] (fun x => l = m) (fun x => []) (fun x => H.nil) fun x => []] (AX.exit (0 : Nat)) [AV.sl (pairsA l) l.length r, AV.sl (pairsA m) m.length q, u (2 : Nat), u (3 : Nat), u (4 : Nat), u (5 : Nat), u (6 : Nat), u (7 : Nat), u (8 : Nat), u (9 : Nat), u (10 : Nat), u (11 : Nat), I (↑l.length : Int), I (↑j : Int), AV.bool false, u (15 : Nat), u (16 : Nat), u (17 : Nat), u (18 : Nat), u (19 : Nat), u (20 : Nat), u (21 : Nat), u (22 : Nat), u (23 : Nat), u (24 : Nat), u (25 : Nat)] (H.mk [] [] [])) (by kernel_rfl) ?_⟩
    refine ⟨by first | with_reducible assumption | omega | assumption, ?_⟩
    refine ⟨by first | with_reducible assumption | omega | assumption, ?_⟩
    exact .inr (.inl ⟨(), e, rfl, rfl, rfl⟩)
open Classical in
noncomputable def eqB (l m : List Pr) : Bool := decide (l = m)
theorem eqB_t {l m : List Pr} (h : l = m) : eqB l m = true := by simp only [eqB, decide_eq_true_eq]; exact h
theorem eqB_f {l m : List Pr} (h : l ≠ m) : eqB l m = false := by simp only [eqB, decide_eq_false_iff_not]; exact h
theorem ok42 : FokM Try.prog none1 42 Try.f42 := ⟨mixed, by kernel_rfl, by kernel_rfl, by kernel_rfl, by kernel_rfl⟩
abbrev p42 (l : List Pr) (r : Room) (m : List Pr) (q : Room) : Prop := (lim l.length ∧ lim m.length) ∧ rok l r ∧ rok m q
theorem r42 (l : List Pr) (r : Room) (m : List Pr) (q : Room) (hp : p42 l r m q) : Body (En6 []) none1 Try.f42 [pz l r, pz m q] .nil (.bool (eqB l m), .nil) := by
  by_cases hl : l.length = m.length
  · have hl' : (l.length : Int) = m.length := by omega
    have lp := lp42 l m r q hp.1.1 hl hp.2.1 hp.2.2
    refine body_s ([Ans.o (Orc.b false), Ans.loop [(0 : Nat), (1 : Nat), (12 : Nat), (13 : Nat)] [Out.mk Unit AX.ret [(4 : Nat)] (fun x => l ≠ m) (fun x => [AV.bool false]) (fun x => H.nil) fun y => [], Out.mk Unit (AX.exit (0 : Nat)) [] (fun x => l = m) (fun x => []) (fun x => H.nil) fun y => []]]) ((↑l.length : Int) = (↑m.length : Int) ∧ LoopS (Env.mk Try.prog (Sof (P := Try.prog) []) (Pof (P := Try.prog) []) H.nil.base (300 : Nat)) (loopAt Try.f42 (0 : Nat)) (26 : Nat) [(0 : Nat), (1 : Nat), (12 : Nat), (13 : Nat)] [AV.sl (pairsA l) l.length r, AV.sl (pairsA m) m.length q, I (↑l.length : Int), I 0] (H.mk [] [] []) [Out.mk Unit AX.ret [(4 : Nat)] (fun x => l ≠ m) (fun x => [AV.bool false]) (fun x => H.nil) fun y => [], Out.mk Unit (AX.exit (0 : Nat)) [] (fun x => l = m) (fun x => []) (fun x => H.nil) fun y => []] ∧ (∀ (y : Unit), l ≠ m → ∀ (u : Nat → AV), (AV.bool false, H.mk [] [] []) = (AV.bool (eqB l m), H.mk [] [] [])) ∧ (∀ (y : Unit), l = m → ∀ (u : Nat → AV), (AV.bool true, H.mk [] [] []) = (AV.bool (eqB l m), H.mk [] [] [])) ∧ True) (by kernel_rfl) ?_
    refine ⟨by first | with_reducible assumption | omega | assumption, ?_⟩
    refine ⟨lp, ?_⟩
    refine And.intro ?_ ?_
    · skip
      intro y
      intro w1
      intro u
      first | rw [eqB_t (by assumption)] | rw [eqB_f (by assumption)]
    · skip
      refine And.intro ?_ ?_
      · skip
        intro y
        intro w1
        intro u
        first | rw [eqB_t (by assumption)] | rw [eqB_f (by assumption)]
      · skip
        trivial
  · have hl' : (l.length : Int) ≠ m.length := by omega
    rw [eqB_f (fun e => hl (by rw [e]))]
    refine body_s ([Ans.o (Orc.b true)]) ((↑l.length : Int) ≠ (↑m.length : Int) ∧ (AV.bool false, H.mk [] [] []) = (AV.bool false, H.mk [] [] [])) (by kernel_rfl) ?_
    refine ⟨by first | with_reducible assumption | omega | assumption, ?_⟩
    rfl
noncomputable def c42 : PCtr Try.prog := sctr ok42 (X := (List Pr × Room) × List Pr × Room) (fun x => [pz x.1.1 x.1.2, pz x.2.1 x.2.2]) (fun x => p42 x.1.1 x.1.2 x.2.1 x.2.2) (fun x => .bool (eqB x.1.1 x.2.1))
  (by
    rintro ⟨⟨l, r⟩, m, s⟩ ⟨⟨l', r'⟩, m', s'⟩ e _ _
    simp only [List.cons.injEq, and_true] at e
    simp only [pz_det e.1, pz_det e.2]) (fun x => by simp [AV.bnds, AV.bnd, AV.wk, rm_wk_bnd]) (fun x => rfl)
  (fun x hx => ⟨_, _, _, .nil, r42 x.1.1 x.1.2.wk x.2.1 x.2.2.wk ⟨hx.1, by simpa using hx.2.1, by simpa using hx.2.2⟩⟩)
end Go.Proofs.Bts

