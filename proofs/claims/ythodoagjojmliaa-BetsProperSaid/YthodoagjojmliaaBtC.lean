/- Layer 9: a check of all fractions; lowest terms. -/
import Derived.Test.YthodoagjojmliaaBtB
import Derived.Test.YthodoagjojmliaaVm8
import Derived.KernelRfl
set_option linter.unusedSimpArgs false
set_option linter.unusedVariables false
set_option linter.unnecessarySimpa false
set_option maxHeartbeats 4000000
set_option maxRecDepth 100000
namespace Go.Proofs.Bts
open Go Go.VM

abbrev rn {α : Type} (l : List α) : Room := (rm 0 l).wk
theorem rn_rok {α : Type} (l : List α) : rok l (rn l) := by cases l <;> simp [rok, rn, rm, Room.wk]
abbrev okPs (l : List Pr) : Prop := ∀ i, i < l.length → okP (l.getD i pair0)
abbrev smP (p : Pr) : Prop := p.2 ≤ 60
abbrev smPs (l : List Pr) : Prop := ∀ i, i < l.length → (l.getD i pair0).2 ≤ 60
open Classical in
noncomputable def okBs (l : List Pr) : Bool := decide (okPs l)
theorem okBs_t {l : List Pr} (h : okPs l) : okBs l = true := by simp only [okBs, decide_eq_true_eq]; exact h
theorem okBs_f {l : List Pr} (h : ¬ okPs l) : okBs l = false := by simp only [okBs, decide_eq_false_iff_not]; exact h
open Classical in
noncomputable def smBs (l : List Pr) : Bool := decide (smPs l)
theorem smBs_t {l : List Pr} (h : smPs l) : smBs l = true := by simp only [smBs, decide_eq_true_eq]; exact h
theorem smBs_f {l : List Pr} (h : ¬ smPs l) : smBs l = false := by simp only [smBs, decide_eq_false_iff_not]; exact h
theorem sm_t {p : Pr} (h : smP p) : decide (p.2 ≤ 60) = true := decide_eq_true h
theorem sm_f {p : Pr} (h : ¬ smP p) : decide (p.2 ≤ 60) = false := decide_eq_false h
theorem simp116 : allSimpleM none1 (loopAt Try.f116 0) = true := by kernel_rfl
theorem ok116 : FokM Try.prog none1 116 Try.f116 := ⟨mixed, by kernel_rfl, by kernel_rfl, by kernel_rfl, by kernel_rfl⟩

abbrev o116p (l : List Pr) : List Out :=
  [.mk (List (List AV)) .ret [4] (fun _ => ¬ okPs l) (fun _ => [.bool false]) (fun bs => ⟨bs, [], []⟩) (fun _ => []),
   .mk Unit (.exit 0) [] (fun _ => okPs l) (fun _ => []) (fun _ => .nil) (fun _ => [])]
theorem lp116p (l : List Pr) (r : Room) (h1 : lim l.length) (h2 : rok l r) :
    LoopS (En6 [c117.to]) (loopAt Try.f116 0) 18 [1, 7, 8, 9] [.fn (.func 117) [] [], pz l r.wk, I l.length, I 0] .nil (o116p l) := by
  have hR : Rests (En6 [c117.to]) none1 := rests mixed (.pure _ .nil)
  refine loop_s hR simp116 (some 0) (by intro nb h; cases h; exact ⟨Nat.zero_le _, Nat.le_refl 0⟩) (fun j vs h => h = .nil ∧ vs = [.fn (.func 117) [] [], pz l r.wk, I l.length, I (j : Nat)] ∧ ∀ i, i < j → okP (l.getD i pair0)) l.length ⟨rfl, rfl, fun i hi => absurd hi (by omega)⟩ (by rintro nb h j vs h' ⟨rfl, _⟩; cases h; exact Nat.le_refl 0) ?_
  have h3 : rok l r.wk := by simpa using h2
  rintro j vs h hj ⟨rfl, rfl, ha⟩
  by_cases hz : (j : Int) < l.length
  · have hz' : j < l.length := by omega
    have hr := rok_idx h3 hz'
    have ev0 := wj1 (j := j) (by simp only [lim] at h1; omega)
    have hcl : AV.bnds 0 0 0 [.fn (.func 117) [] [], pz l r.wk, I l.length, I (j + 1 : Nat)] = true := by simp [AV.bnds, AV.bnd, rm_wk_bnd]
    by_cases z : okP (l.getD j pair0)
    · have hk := all_succ (q := fun i => okP (l.getD i pair0)) ha z
      have hb := okB_t z
      refine ⟨[Ans.o (Orc.b true), Ans.o (Orc.val 11 (AV.cptr (pairsA (List.drop j l))) H.nil), Ans.o (Orc.val 12 (AV.agg [I (l.getD j pair0).fst, I (l.getD j pair0).snd]) H.nil), Ans.o (Orc.val 15 (AV.bool true) (H.mk [[I (l.getD j pair0).fst, I (l.getD j pair0).snd]] [] [])), Ans.o (Orc.val 17 (I (↑(j + (1 : Nat)) : Int)) H.nil)], fun u => of_eq ((↑j : Int) < (↑l.length : Int) ∧ aIndexAddr Try.prog (23 : Nat) (AV.sl (pairsA l) l.length r.wk) (I (↑j : Int)) = some (AV.cptr (pairsA (List.drop j l))) ∧ aLoad Try.prog (47 : Nat) (pairsA (List.drop j l)) = some (AV.agg [I (l.getD j pair0).fst, I (l.getD j pair0).snd]) ∧ aCall (Sof [c117.to]) (AV.fn (Fn.func (117 : FuncId)) [] []) [AV.agg [I (l.getD j pair0).fst, I (l.getD j pair0).snd]] (H.mk [[I (l.getD j pair0).fst, I (l.getD j pair0).snd]] [] []) = some (AV.bool true, H.mk [[I (l.getD j pair0).fst, I (l.getD j pair0).snd]] [] []) ∧ aBin Try.prog BinOp.add (3 : Nat) (I (↑j : Int)) (I 1) = some (I (↑(j + (1 : Nat)) : Int)) ∧ (18 : Nat) = (18 : Nat) ∧ j < l.length ∧ Keep (AV.bnds (0 : Nat) (0 : Nat) (0 : Nat) [AV.fn (Fn.func (117 : FuncId)) [] [], AV.sl (pairsA l) l.length r.wk, I (↑l.length : Int), I (↑(j + (1 : Nat)) : Int)] = true ∧ (H.mk [[I (l.getD j pair0).fst, I (l.getD j pair0).snd]] [] []).clean (0 : Nat) ∧ H.mk [] [] [] = H.mk [] [] [] ∧ [AV.fn (Fn.func (117 : FuncId)) [] [], AV.sl (pairsA l) l.length r.wk, I (↑l.length : Int), I (↑(j + (1 : Nat)) : Int)] = [AV.fn (Fn.func (117 : FuncId)) [] [], AV.sl (pairsA l) l.length r.wk, I (↑l.length : Int), I (↑(j + (1 : Nat)) : Int)] ∧ ∀ (i : Nat), i < j + (1 : Nat) → okP (l.getD i pair0))) (by kernel_rfl) ?_⟩
      refine ⟨by first | with_reducible assumption | omega | assumption, ?_⟩
      refine ⟨by first | exact ix_pairs (by kernel_rfl) (by omega) (by assumption) | exact ix_pairs (by kernel_rfl) (by omega) (rok_idx (by assumption) (by omega)), ?_⟩
      refine ⟨ld_pairs (by kernel_rfl) (by kernel_rfl) (by kernel_rfl) (by omega), ?_⟩
      refine ⟨acall_b (acall_hit (c := c117.to) ((l.getD j pair0).1, (l.getD j pair0).2) _ rfl trivial) hb, ?_⟩
      refine ⟨told_add (by with_reducible assumption), ?_⟩
      refine ⟨by first | with_reducible assumption | omega | assumption, ?_⟩
      refine ⟨by first | with_reducible assumption | omega | assumption, ?_⟩
      exact ⟨hcl, clean0 _, rfl, rfl, hk⟩
    · have hn : ¬ okPs l := fun h => z (h j hz')
      have hb := okB_f z
      refine ⟨[Ans.o (Orc.b true), Ans.o (Orc.val 11 (AV.cptr (pairsA (List.drop j l))) H.nil), Ans.o (Orc.val 12 (AV.agg [I (l.getD j pair0).fst, I (l.getD j pair0).snd]) H.nil), Ans.o (Orc.val 15 (AV.bool false) (H.mk [[I (l.getD j pair0).fst, I (l.getD j pair0).snd]] [] []))], fun u => of_eq ((↑j : Int) < (↑l.length : Int) ∧ aIndexAddr Try.prog (23 : Nat) (AV.sl (pairsA l) l.length r.wk) (I (↑j : Int)) = some (AV.cptr (pairsA (List.drop j l))) ∧ aLoad Try.prog (47 : Nat) (pairsA (List.drop j l)) = some (AV.agg [I (l.getD j pair0).fst, I (l.getD j pair0).snd]) ∧ aCall (Sof [c117.to]) (AV.fn (Fn.func (117 : FuncId)) [] []) [AV.agg [I (l.getD j pair0).fst, I (l.getD j pair0).snd]] (H.mk [[I (l.getD j pair0).fst, I (l.getD j pair0).snd]] [] []) = some (AV.bool false, H.mk [[I (l.getD j pair0).fst, I (l.getD j pair0).snd]] [] []) ∧ (18 : Nat) = (18 : Nat) ∧ hits [Out.mk (List (List AV)) AX.ret [(4 : Nat)] (fun x => ¬okPs l) (fun x => [AV.bool false]) (fun bs => H.mk bs [] []) fun x => [], Out.mk Unit (AX.exit (0 : Nat)) [] (fun x => okPs l) (fun x => []) (fun x => H.nil) fun x => []] AX.ret [u (0 : Nat), AV.fn (Fn.func (117 : FuncId)) [] [], u (2 : Nat), u (3 : Nat), AV.bool false, u (5 : Nat), AV.ptr 0 0, AV.sl (pairsA l) l.length r.wk, I (↑l.length : Int), I (↑j : Int), AV.bool true, AV.cptr (pairsA (List.drop j l)), AV.agg [I (l.getD j pair0).fst, I (l.getD j pair0).snd], AV.fn (Fn.func (117 : FuncId)) [] [], AV.agg [I (l.getD j pair0).fst, I (l.getD j pair0).snd], AV.bool false, AV.bool true, u (17 : Nat)] (H.mk [[I (l.getD j pair0).fst, I (l.getD j pair0).snd]] [] [])) (by kernel_rfl) ?_⟩
      refine ⟨by first | with_reducible assumption | omega | assumption, ?_⟩
      refine ⟨by first | exact ix_pairs (by kernel_rfl) (by omega) (by assumption) | exact ix_pairs (by kernel_rfl) (by omega) (rok_idx (by assumption) (by omega)), ?_⟩
      refine ⟨ld_pairs (by kernel_rfl) (by kernel_rfl) (by kernel_rfl) (by omega), ?_⟩
      refine ⟨acall_b (acall_hit (c := c117.to) ((l.getD j pair0).1, (l.getD j pair0).2) _ rfl trivial) hb, ?_⟩
      refine ⟨by first | with_reducible assumption | omega | assumption, ?_⟩
      exact .inl ⟨_, hn, rfl, rfl, rfl⟩
  · have hz : (l.length : Int) ≤ j := by omega
    have hk : okPs l := fun i hi => ha i (by omega)
    refine ⟨[Ans.o (Orc.b false)], fun u => of_eq ((↑l.length : Int) ≤ (↑j : Int) ∧ (18 : Nat) = (18 : Nat) ∧ hits [Out.mk (List (List AV)) AX.ret [(4 : Nat)] (fun x => ¬okPs l) (fun x => [AV.bool false]) (fun bs => H.mk bs [] []) fun x => [], Out.mk Unit (AX.exit (0 : Nat)) [] (fun x => okPs l) (fun x => []) (fun x => H.nil) fun x => []] (AX.exit (0 : Nat)) [u (0 : Nat), AV.fn (Fn.func (117 : FuncId)) [] [], u (2 : Nat), u (3 : Nat), u (4 : Nat), u (5 : Nat), u (6 : Nat), AV.sl (pairsA l) l.length r.wk, I (↑l.length : Int), I (↑j : Int), AV.bool false, u (11 : Nat), u (12 : Nat), u (13 : Nat), u (14 : Nat), u (15 : Nat), u (16 : Nat), u (17 : Nat)] (H.mk [] [] [])) (by kernel_rfl) ?_⟩
    refine ⟨by first | with_reducible assumption | omega | assumption, ?_⟩
    refine ⟨by first | with_reducible assumption | omega | assumption, ?_⟩
    exact .inr (.inl ⟨(), hk, rfl, rfl, rfl⟩)
theorem r116p (l : List Pr) (r : Room) (h1 : lim l.length) (h2 : rok l r) : Body (En6 [c117.to]) none1 Try.f116 [pz l r.wk, .fn (.func 117) [] []] .nil (.bool (okBs l), .nil) := by
  refine body_s ([Ans.loop [(1 : Nat), (7 : Nat), (8 : Nat), (9 : Nat)] [Out.mk (List (List AV)) AX.ret [(4 : Nat)] (fun x => ¬okPs l) (fun x => [AV.bool false]) (fun bs => H.mk bs [] []) fun y => [], Out.mk Unit (AX.exit (0 : Nat)) [] (fun x => okPs l) (fun x => []) (fun x => H.nil) fun y => []]]) (LoopS (Env.mk Try.prog (Sof [c117.to]) (Pof (P := Try.prog) []) H.nil.base (300 : Nat)) (loopAt Try.f116 (0 : Nat)) (18 : Nat) [(1 : Nat), (7 : Nat), (8 : Nat), (9 : Nat)] [AV.fn (Fn.func (117 : FuncId)) [] [], AV.sl (pairsA l) l.length r.wk, I (↑l.length : Int), I 0] (H.mk [] [] []) [Out.mk (List (List AV)) AX.ret [(4 : Nat)] (fun x => ¬okPs l) (fun x => [AV.bool false]) (fun bs => H.mk bs [] []) fun y => [], Out.mk Unit (AX.exit (0 : Nat)) [] (fun x => okPs l) (fun x => []) (fun x => H.nil) fun y => []] ∧ (∀ (y : List (List AV)), ¬okPs l → ∀ (u : Nat → AV), (AV.bool false, H.mk [] [] []) = (AV.bool (okBs l), H.mk [] [] [])) ∧ (∀ (y : Unit), (∀ (i : Nat), i < l.length → (1 : Int) ≤ (l.getD i pair0).snd ∧ ((0 : Int) ≤ (l.getD i pair0).fst ∧ (l.getD i pair0).fst ≤ (l.getD i pair0).snd) ∧ gcI (l.getD i pair0).fst (l.getD i pair0).snd = (1 : Int)) → ∀ (u : Nat → AV), (AV.bool true, H.mk [] [] []) = (AV.bool (okBs l), H.mk [] [] [])) ∧ True) (by kernel_rfl) ?_
  refine ⟨lp116p l r h1 h2, ?_⟩
  refine And.intro ?_ ?_
  · skip
    intro y
    intro w1
    intro u
    first | exact congrArg (fun b => (AV.bool b, H.nil)) (okBs_f (by with_reducible assumption)).symm | exact congrArg (fun b => (AV.bool b, H.nil)) (okBs_t (by with_reducible assumption)).symm
  · skip
    refine And.intro ?_ ?_
    · skip
      intro y
      intro w1
      intro u
      first | exact congrArg (fun b => (AV.bool b, H.nil)) (okBs_f (by with_reducible assumption)).symm | exact congrArg (fun b => (AV.bool b, H.nil)) (okBs_t (by with_reducible assumption)).symm
    · skip
      trivial
noncomputable def c116p : PCtr Try.prog := sctr ok116 (X := List Pr × Room) (fun x => [pz x.1 x.2, .fn (.func 117) [] []]) (fun x => lim x.1.length ∧ rok x.1 x.2) (fun x => .bool (okBs x.1))
  (by intro x y e _ _; simp at e; simp [e]) (fun x => by simp [AV.bnds, AV.bnd, AV.wk, rm_wk_bnd]) (fun _ => rfl) (fun x hx => ⟨_, _, _, .pure c117 .nil, r116p x.1 x.2 hx.1 hx.2⟩)

abbrev o116q (l : List Pr) : List Out :=
  [.mk (List (List AV)) .ret [4] (fun _ => ¬ smPs l) (fun _ => [.bool false]) (fun bs => ⟨bs, [], []⟩) (fun _ => []),
   .mk Unit (.exit 0) [] (fun _ => smPs l) (fun _ => []) (fun _ => .nil) (fun _ => [])]
theorem lp116q (l : List Pr) (r : Room) (h1 : lim l.length) (h2 : rok l r) :
    LoopS (En6 [c127.to]) (loopAt Try.f116 0) 18 [1, 7, 8, 9] [.fn (.func 127) [] [], pz l r.wk, I l.length, I 0] .nil (o116q l) := by
  have hR : Rests (En6 [c127.to]) none1 := rests mixed (.pure _ .nil)
  refine loop_s hR simp116 (some 0) (by intro nb h; cases h; exact ⟨Nat.zero_le _, Nat.le_refl 0⟩) (fun j vs h => h = .nil ∧ vs = [.fn (.func 127) [] [], pz l r.wk, I l.length, I (j : Nat)] ∧ ∀ i, i < j → smP (l.getD i pair0)) l.length ⟨rfl, rfl, fun i hi => absurd hi (by omega)⟩ (by rintro nb h j vs h' ⟨rfl, _⟩; cases h; exact Nat.le_refl 0) ?_
  have h3 : rok l r.wk := by simpa using h2
  rintro j vs h hj ⟨rfl, rfl, ha⟩
  by_cases hz : (j : Int) < l.length
  · have hz' : j < l.length := by omega
    have hr := rok_idx h3 hz'
    have ev0 := wj1 (j := j) (by simp only [lim] at h1; omega)
    have hcl : AV.bnds 0 0 0 [.fn (.func 127) [] [], pz l r.wk, I l.length, I (j + 1 : Nat)] = true := by simp [AV.bnds, AV.bnd, rm_wk_bnd]
    by_cases z : smP (l.getD j pair0)
    · have hk := all_succ (q := fun i => smP (l.getD i pair0)) ha z
      have hb := sm_t z
      refine ⟨[Ans.o (Orc.b true), Ans.o (Orc.val 11 (AV.cptr (pairsA (List.drop j l))) H.nil), Ans.o (Orc.val 12 (AV.agg [I (l.getD j pair0).fst, I (l.getD j pair0).snd]) H.nil), Ans.o (Orc.val 15 (AV.bool true) (H.mk [[I (l.getD j pair0).fst, I (l.getD j pair0).snd]] [] [])), Ans.o (Orc.val 17 (I (↑(j + (1 : Nat)) : Int)) H.nil)], fun u => of_eq ((↑j : Int) < (↑l.length : Int) ∧ aIndexAddr Try.prog (23 : Nat) (AV.sl (pairsA l) l.length r.wk) (I (↑j : Int)) = some (AV.cptr (pairsA (List.drop j l))) ∧ aLoad Try.prog (47 : Nat) (pairsA (List.drop j l)) = some (AV.agg [I (l.getD j pair0).fst, I (l.getD j pair0).snd]) ∧ aCall (Sof [c127.to]) (AV.fn (Fn.func (127 : FuncId)) [] []) [AV.agg [I (l.getD j pair0).fst, I (l.getD j pair0).snd]] (H.mk [[I (l.getD j pair0).fst, I (l.getD j pair0).snd]] [] []) = some (AV.bool true, H.mk [[I (l.getD j pair0).fst, I (l.getD j pair0).snd]] [] []) ∧ aBin Try.prog BinOp.add (3 : Nat) (I (↑j : Int)) (I 1) = some (I (↑(j + (1 : Nat)) : Int)) ∧ (18 : Nat) = (18 : Nat) ∧ j < l.length ∧ Keep (AV.bnds (0 : Nat) (0 : Nat) (0 : Nat) [AV.fn (Fn.func (127 : FuncId)) [] [], AV.sl (pairsA l) l.length r.wk, I (↑l.length : Int), I (↑(j + (1 : Nat)) : Int)] = true ∧ (H.mk [[I (l.getD j pair0).fst, I (l.getD j pair0).snd]] [] []).clean (0 : Nat) ∧ H.mk [] [] [] = H.mk [] [] [] ∧ [AV.fn (Fn.func (127 : FuncId)) [] [], AV.sl (pairsA l) l.length r.wk, I (↑l.length : Int), I (↑(j + (1 : Nat)) : Int)] = [AV.fn (Fn.func (127 : FuncId)) [] [], AV.sl (pairsA l) l.length r.wk, I (↑l.length : Int), I (↑(j + (1 : Nat)) : Int)] ∧ ∀ (i : Nat), i < j + (1 : Nat) → smP (l.getD i pair0))) (by kernel_rfl) ?_⟩
      refine ⟨by first | with_reducible assumption | omega | assumption, ?_⟩
      refine ⟨by first | exact ix_pairs (by kernel_rfl) (by omega) (by assumption) | exact ix_pairs (by kernel_rfl) (by omega) (rok_idx (by assumption) (by omega)), ?_⟩
      refine ⟨ld_pairs (by kernel_rfl) (by kernel_rfl) (by kernel_rfl) (by omega), ?_⟩
      refine ⟨acall_b (acall_hit (c := c127.to) ((l.getD j pair0).1, (l.getD j pair0).2) _ rfl trivial) hb, ?_⟩
      refine ⟨told_add (by with_reducible assumption), ?_⟩
      refine ⟨by first | with_reducible assumption | omega | assumption, ?_⟩
      refine ⟨by first | with_reducible assumption | omega | assumption, ?_⟩
      exact ⟨hcl, clean0 _, rfl, rfl, hk⟩
    · have hn : ¬ smPs l := fun h => z (h j hz')
      have hb := sm_f z
      refine ⟨[Ans.o (Orc.b true), Ans.o (Orc.val 11 (AV.cptr (pairsA (List.drop j l))) H.nil), Ans.o (Orc.val 12 (AV.agg [I (l.getD j pair0).fst, I (l.getD j pair0).snd]) H.nil), Ans.o (Orc.val 15 (AV.bool false) (H.mk [[I (l.getD j pair0).fst, I (l.getD j pair0).snd]] [] []))], fun u => of_eq ((↑j : Int) < (↑l.length : Int) ∧ aIndexAddr Try.prog (23 : Nat) (AV.sl (pairsA l) l.length r.wk) (I (↑j : Int)) = some (AV.cptr (pairsA (List.drop j l))) ∧ aLoad Try.prog (47 : Nat) (pairsA (List.drop j l)) = some (AV.agg [I (l.getD j pair0).fst, I (l.getD j pair0).snd]) ∧ aCall (Sof [c127.to]) (AV.fn (Fn.func (127 : FuncId)) [] []) [AV.agg [I (l.getD j pair0).fst, I (l.getD j pair0).snd]] (H.mk [[I (l.getD j pair0).fst, I (l.getD j pair0).snd]] [] []) = some (AV.bool false, H.mk [[I (l.getD j pair0).fst, I (l.getD j pair0).snd]] [] []) ∧ (18 : Nat) = (18 : Nat) ∧ hits [Out.mk (List (List AV)) AX.ret [(4 : Nat)] (fun x => ¬smPs l) (fun x => [AV.bool false]) (fun bs => H.mk bs [] []) fun x => [], Out.mk Unit (AX.exit (0 : Nat)) [] (fun x => smPs l) (fun x => []) (fun x => H.nil) fun x => []] AX.ret [u (0 : Nat), AV.fn (Fn.func (127 : FuncId)) [] [], u (2 : Nat), u (3 : Nat), AV.bool false, u (5 : Nat), AV.ptr 0 0, AV.sl (pairsA l) l.length r.wk, I (↑l.length : Int), I (↑j : Int), AV.bool true, AV.cptr (pairsA (List.drop j l)), AV.agg [I (l.getD j pair0).fst, I (l.getD j pair0).snd], AV.fn (Fn.func (127 : FuncId)) [] [], AV.agg [I (l.getD j pair0).fst, I (l.getD j pair0).snd], AV.bool false, AV.bool true, u (17 : Nat)] (H.mk [[I (l.getD j pair0).fst, I (l.getD j pair0).snd]] [] [])) (by kernel_rfl) ?_⟩
      refine ⟨by first | with_reducible assumption | omega | assumption, ?_⟩
      refine ⟨by first | exact ix_pairs (by kernel_rfl) (by omega) (by assumption) | exact ix_pairs (by kernel_rfl) (by omega) (rok_idx (by assumption) (by omega)), ?_⟩
      refine ⟨ld_pairs (by kernel_rfl) (by kernel_rfl) (by kernel_rfl) (by omega), ?_⟩
      refine ⟨acall_b (acall_hit (c := c127.to) ((l.getD j pair0).1, (l.getD j pair0).2) _ rfl trivial) hb, ?_⟩
      refine ⟨by first | with_reducible assumption | omega | assumption, ?_⟩
      exact .inl ⟨_, hn, rfl, rfl, rfl⟩
  · have hz : (l.length : Int) ≤ j := by omega
    have hk : smPs l := fun i hi => ha i (by omega)
    refine ⟨[Ans.o (Orc.b false)], fun u => of_eq ((↑l.length : Int) ≤ (↑j : Int) ∧ (18 : Nat) = (18 : Nat) ∧ hits [Out.mk (List (List AV)) AX.ret [(4 : Nat)] (fun x => ¬smPs l) (fun x => [AV.bool false]) (fun bs => H.mk bs [] []) fun x => [], Out.mk Unit (AX.exit (0 : Nat)) [] (fun x => smPs l) (fun x => []) (fun x => H.nil) fun x => []] (AX.exit (0 : Nat)) [u (0 : Nat), AV.fn (Fn.func (127 : FuncId)) [] [], u (2 : Nat), u (3 : Nat), u (4 : Nat), u (5 : Nat), u (6 : Nat), AV.sl (pairsA l) l.length r.wk, I (↑l.length : Int), I (↑j : Int), AV.bool false, u (11 : Nat), u (12 : Nat), u (13 : Nat), u (14 : Nat), u (15 : Nat), u (16 : Nat), u (17 : Nat)] (H.mk [] [] [])) (by kernel_rfl) ?_⟩
    refine ⟨by first | with_reducible assumption | omega | assumption, ?_⟩
    refine ⟨by first | with_reducible assumption | omega | assumption, ?_⟩
    exact .inr (.inl ⟨(), hk, rfl, rfl, rfl⟩)
theorem r116q (l : List Pr) (r : Room) (h1 : lim l.length) (h2 : rok l r) : Body (En6 [c127.to]) none1 Try.f116 [pz l r.wk, .fn (.func 127) [] []] .nil (.bool (smBs l), .nil) := by
  refine body_s ([Ans.loop [(1 : Nat), (7 : Nat), (8 : Nat), (9 : Nat)] [Out.mk (List (List AV)) AX.ret [(4 : Nat)] (fun x => ¬smPs l) (fun x => [AV.bool false]) (fun bs => H.mk bs [] []) fun y => [], Out.mk Unit (AX.exit (0 : Nat)) [] (fun x => smPs l) (fun x => []) (fun x => H.nil) fun y => []]]) (LoopS (Env.mk Try.prog (Sof [c127.to]) (Pof (P := Try.prog) []) H.nil.base (300 : Nat)) (loopAt Try.f116 (0 : Nat)) (18 : Nat) [(1 : Nat), (7 : Nat), (8 : Nat), (9 : Nat)] [AV.fn (Fn.func (127 : FuncId)) [] [], AV.sl (pairsA l) l.length r.wk, I (↑l.length : Int), I 0] (H.mk [] [] []) [Out.mk (List (List AV)) AX.ret [(4 : Nat)] (fun x => ¬smPs l) (fun x => [AV.bool false]) (fun bs => H.mk bs [] []) fun y => [], Out.mk Unit (AX.exit (0 : Nat)) [] (fun x => smPs l) (fun x => []) (fun x => H.nil) fun y => []] ∧ (∀ (y : List (List AV)), ¬smPs l → ∀ (u : Nat → AV), (AV.bool false, H.mk [] [] []) = (AV.bool (smBs l), H.mk [] [] [])) ∧ (∀ (y : Unit), (∀ (i : Nat), i < l.length → (l.getD i pair0).snd ≤ (60 : Int)) → ∀ (u : Nat → AV), (AV.bool true, H.mk [] [] []) = (AV.bool (smBs l), H.mk [] [] [])) ∧ True) (by kernel_rfl) ?_
  refine ⟨lp116q l r h1 h2, ?_⟩
  refine And.intro ?_ ?_
  · skip
    intro y
    intro w1
    intro u
    first | exact congrArg (fun b => (AV.bool b, H.nil)) (smBs_f (by with_reducible assumption)).symm | exact congrArg (fun b => (AV.bool b, H.nil)) (smBs_t (by with_reducible assumption)).symm
  · skip
    refine And.intro ?_ ?_
    · skip
      intro y
      intro w1
      intro u
      first | exact congrArg (fun b => (AV.bool b, H.nil)) (smBs_f (by with_reducible assumption)).symm | exact congrArg (fun b => (AV.bool b, H.nil)) (smBs_t (by with_reducible assumption)).symm
    · skip
      trivial
noncomputable def c116q : PCtr Try.prog := sctr ok116 (X := List Pr × Room) (fun x => [pz x.1 x.2, .fn (.func 127) [] []]) (fun x => lim x.1.length ∧ rok x.1 x.2) (fun x => .bool (smBs x.1))
  (by intro x y e _ _; simp at e; simp [e]) (fun x => by simp [AV.bnds, AV.bnd, AV.wk, rm_wk_bnd]) (fun _ => rfl) (fun x hx => ⟨_, _, _, .pure c127 .nil, r116q x.1 x.2 hx.1 hx.2⟩)

/-- what a quotient is in lowest terms -/
abbrev abI (a : Int) : Int := if -a > a then -a else a
def lwN (a b : Int) : Int := a.tdiv (gcI (abI a) b)
def lwD (a b : Int) : Int := b.tdiv (gcI (abI a) b)
abbrev lw (a b : Int) : Pr := (lwN a b, lwD a b)
theorem td_le (a g : Int) (hg : 1 ≤ g) : (0 ≤ a → 0 ≤ a.tdiv g ∧ a.tdiv g ≤ a) ∧ (a ≤ 0 → a ≤ a.tdiv g ∧ a.tdiv g ≤ 0) := by
  have key : ∀ x : Int, 0 ≤ x → 0 ≤ x.tdiv g ∧ x.tdiv g ≤ x := fun x hx => by
    rw [Int.tdiv_eq_ediv_of_nonneg hx]
    exact ⟨Int.ediv_nonneg hx (by omega), Int.ediv_le_self _ hx⟩
  refine ⟨key a, fun h => ?_⟩
  have := key (-a) (by omega)
  rw [Int.neg_tdiv] at this
  omega
theorem abI_nn (a : Int) : 0 ≤ abI a := by simp only [abI]; split <;> omega
theorem gcd1 (a b : Int) (hb : 1 ≤ b) : 1 ≤ gcI a b := by
  have : 0 < Nat.gcd a.toNat b.toNat := Nat.gcd_pos_of_pos_right _ (by omega)
  show (1 : Int) ≤ ((Nat.gcd a.toNat b.toNat : Nat) : Int)
  omega
theorem ok87 : FokM Try.prog none1 87 Try.f87 := ⟨mixed, by kernel_rfl, by kernel_rfl, by kernel_rfl, by kernel_rfl⟩
theorem r87 (a : Int) (b : Int) (hp : (-9223372036854775807 ≤ a ∧ a ≤ 9223372036854775807) ∧ 1 ≤ b ∧ b ≤ 9223372036854775807) : Body ⟨Try.prog, Sof (P := Try.prog) [c118.to], Pof (P := Try.prog) [], H.nil.base, 300⟩ none1 Try.f87 [I a, I b] .nil (.agg [I (lwN a b), I (lwD a b)], .nil) := by
  obtain ⟨⟨a0, a1⟩, b0, b1⟩ := hp
  have ev0 : pick2 true a (0 - a) = abI a := by
    simp only [pick2, if_true, abI]
    have e : 0 - a = -a := by omega
    rw [e]
  have p118 : nn6 (abI a) ∧ nn6 b := ⟨abI_nn a, by omega⟩
  have g1 := gcd1 (abI a) b b0
  have g0 : gcI (abI a) b ≠ 0 := by omega
  have d1 := td_le a _ g1
  have d2 := td_le b _ g1
  have ev1 : IntKind.i64.wrap (a.tdiv (gcI (abI a) b)) = lwN a b := wr _ (by by_cases h : 0 ≤ a <;> omega) (by by_cases h : 0 ≤ a <;> omega)
  have ev2 : IntKind.i64.wrap (b.tdiv (gcI (abI a) b)) = lwD a b := wr _ (by omega) (by omega)
  refine body_s ([Ans.o (Orc.val 9 (I (abI a)) (H.mk [[I 0, I 0]] [] [])), Ans.o (Orc.val 11 (I (gcI (abI a) b)) (H.mk [[I 0, I 0]] [] []))]) (IntKind.i64.wrap ((0 : Int) - a) = (0 : Int) - a ∧ aMin true [I a, I ((0 : Int) - a)] = some (I (abI a)) ∧ aCall (Sof [c118.to]) (AV.fn (Fn.func (118 : Nat)) [] []) [I (abI a), I b] (H.mk [[I 0, I 0]] [] []) = some (I (gcI (abI a) b), H.mk [[I 0, I 0]] [] []) ∧ gcI (abI a) b ≠ (0 : Int) ∧ IntKind.i64.wrap (a.tdiv (gcI (abI a) b)) = a.tdiv (gcI (abI a) b) ∧ gcI (abI a) b ≠ (0 : Int) ∧ IntKind.i64.wrap (b.tdiv (gcI (abI a) b)) = b.tdiv (gcI (abI a) b) ∧ (AV.agg [I (a.tdiv (gcI (abI a) b)), I (b.tdiv (gcI (abI a) b))], H.mk [] [] []) = (AV.agg [I (lwN a b), I (lwD a b)], H.mk [] [] [])) (by kernel_rfl) ?_
  refine ⟨wr _ (by omega) (by omega), ?_⟩
  refine ⟨congrArg (fun z => some (I z)) ev0, ?_⟩
  refine ⟨acall_hit (c := c118.to) (abI a, b) _ rfl p118, ?_⟩
  refine ⟨by first | with_reducible assumption | omega | assumption, ?_⟩
  refine ⟨wr _ (by omega) (by omega), ?_⟩
  refine ⟨by first | with_reducible assumption | omega | assumption, ?_⟩
  refine ⟨wr _ (by omega) (by omega), ?_⟩
  rfl
noncomputable def c87 : PCtr Try.prog := sctr ok87 (X := Int × Int) (fun x => [I x.1, I x.2]) (fun x => (-9223372036854775807 ≤ x.1 ∧ x.1 ≤ 9223372036854775807) ∧ 1 ≤ x.2 ∧ x.2 ≤ 9223372036854775807) (fun x => .agg [I (lwN x.1 x.2), I (lwD x.1 x.2)]) (by intro x y e _ _; simp [Int.natCast_inj] at e; simp [e]) (fun x => by simp [AV.bnds, AV.bnd, AV.wk, rm_wk_bnd]) (fun x => by first | rfl | (simp [AV.bnd, rm_wk_bnd]; done)  | (simp [AV.bnd, AV.bnds, rm_wk_bnd]; done) | simp [AV.bnd, AV.bnds, Room.bnd, rm_wk_bnd]) (fun x hx => ⟨_, _, _, .pure c118 (.nil), r87 (x.1) (x.2) hx⟩)
end Go.Proofs.Bts

