/- Layer 5: channels. -/
import Derived.Test.YtlomlnkafakloaaDoorSuK
import Derived.Test.YtlomlnkafakloaaDoorSuI
import Derived.KernelRfl
set_option linter.unusedSimpArgs false
set_option linter.unusedVariables false
set_option linter.unnecessarySimpa false
set_option maxHeartbeats 4000000
set_option maxRecDepth 100000
namespace Go.Proofs.Sur
open Go Go.VM

abbrev ch1 (l : List Int) (i : Nat) : Prop := 1 ≤ at_ l i ∧ at_ l i < 256
abbrev chs (l : List Int) : Prop := ∀ i, i < l.length → ch1 l i
abbrev Chn (l : List Int) : Prop := sz l ∧ chs l
open Classical in
noncomputable def chB (l : List Int) : Bool := decide (Chn l)
theorem chB_t {l : List Int} (h : Chn l) : chB l = true := by simp only [chB, decide_eq_true_eq]; exact h
theorem chB_f {l : List Int} (h : ¬ Chn l) : chB l = false := by simp only [chB, decide_eq_false_iff_not]; exact h
abbrev o57 (l : List Int) : List Out :=
  [.mk Unit .ret [2] (fun _ => ¬ chs l) (fun _ => [.bool false]) (fun _ => .nil) (fun _ => []), .mk Unit (.exit 0) [] (fun _ => chs l) (fun _ => []) (fun _ => .nil) (fun _ => [])]
theorem simp57 : allSimpleM none1 (loopAt Tryd.f57 0) = true := by kernel_rfl
theorem lp57 (l : List Int) (r : Room) (hl : lim l.length) (hr : rok l r) :
    LoopS (En6 []) (loopAt Tryd.f57 0) 22 [9, 10, 11] [ls l r, I l.length, I 0] .nil (o57 l) := by
  have hR : Rests (En6 []) none1 := rests mixed .nil
  refine loop_s hR simp57 none (by intro _ h; cases h) (fun j vs h => h = .nil ∧ vs = [ls l r, I l.length, I (j : Nat)] ∧ ∀ i, i < j → ch1 l i) l.length ⟨rfl, rfl, fun i hi => absurd hi (by omega)⟩ (by intro _ h; cases h) ?_
  rintro j vs h hj ⟨rfl, rfl, ha⟩
  by_cases hz : (j : Int) < l.length
  · have hz' : j < l.length := by omega
    have hr := rok_idx hr hz'
    have ev0 : IntKind.i64.wrap ((j : Int) + 1) = ((j + 1 : Nat) : Int) := by
      have : (j : Int) + 1 = ((j + 1 : Nat) : Int) := by omega
      rw [this]; exact i_wrap (by simp only [lim] at hl; omega)
    by_cases c1 : at_ l j < 1
    · have hn : ¬ chs l := fun h => by have := (h j hz').1; omega
      refine ⟨[Ans.o (Orc.b true), Ans.o (Orc.val 13 (AV.cptr (ints (List.drop j l))) H.nil), Ans.o (Orc.val 14 (I (l.getD j i0)) H.nil), Ans.o (Orc.b true)], fun u => of_eq ((↑j : Int) < (↑l.length : Int) ∧ aIndexAddr Tryd.prog (22 : Nat) (AV.sl (ints l) l.length r) (I (↑j : Int)) = some (AV.cptr (ints (List.drop j l))) ∧ aLoad Tryd.prog (3 : Nat) (ints (List.drop j l)) = some (I (l.getD j i0)) ∧ l.getD j i0 < (1 : Int) ∧ (22 : Nat) = (22 : Nat) ∧ hits [Out.mk Unit AX.ret [(2 : Nat)] (fun x => ¬chs l) (fun x => [AV.bool false]) (fun x => H.nil) fun x => [], Out.mk Unit (AX.exit (0 : Nat)) [] (fun x => chs l) (fun x => []) (fun x => H.nil) fun x => []] AX.ret [u (0 : Nat), u (1 : Nat), AV.bool false, u (3 : Nat), I (l.getD j i0), u (5 : Nat), u (6 : Nat), u (7 : Nat), u (8 : Nat), AV.sl (ints l) l.length r, I (↑l.length : Int), I (↑j : Int), AV.bool true, AV.cptr (ints (List.drop j l)), I (l.getD j i0), I (l.getD j i0), AV.bool true, AV.bool true, AV.tup [], AV.tup [], AV.bool true, u (21 : Nat)] (H.mk [] [] [])) (by kernel_rfl) ?_⟩
      refine ⟨by first | with_reducible assumption | omega | assumption, ?_⟩
      refine ⟨by first | exact ix_ints (by kernel_rfl) (by omega) (by assumption) | exact ix_ints (by kernel_rfl) (by omega) (rok_idx (by assumption) (by omega)), ?_⟩
      refine ⟨by first | exact ld_ints (by kernel_rfl) (by kernel_rfl) (by omega) | exact ldm_ints (by kernel_rfl) (by kernel_rfl) (by first | omega | (simp; omega)), ?_⟩
      refine ⟨by first | with_reducible assumption | omega | assumption, ?_⟩
      refine ⟨by first | with_reducible assumption | omega | assumption, ?_⟩
      exact .inl ⟨(), hn, rfl, rfl, rfl⟩
    · have c1 : 1 ≤ at_ l j := by omega
      by_cases c2 : 256 ≤ at_ l j
      · have hn : ¬ chs l := fun h => by have := (h j hz').2; omega
        refine ⟨[Ans.o (Orc.b true), Ans.o (Orc.val 13 (AV.cptr (ints (List.drop j l))) H.nil), Ans.o (Orc.val 14 (I (l.getD j i0)) H.nil), Ans.o (Orc.b false), Ans.o (Orc.b true)], fun u => of_eq ((↑j : Int) < (↑l.length : Int) ∧ aIndexAddr Tryd.prog (22 : Nat) (AV.sl (ints l) l.length r) (I (↑j : Int)) = some (AV.cptr (ints (List.drop j l))) ∧ aLoad Tryd.prog (3 : Nat) (ints (List.drop j l)) = some (I (l.getD j i0)) ∧ (1 : Int) ≤ l.getD j i0 ∧ (256 : Int) ≤ l.getD j i0 ∧ (22 : Nat) = (22 : Nat) ∧ hits [Out.mk Unit AX.ret [(2 : Nat)] (fun x => ¬chs l) (fun x => [AV.bool false]) (fun x => H.nil) fun x => [], Out.mk Unit (AX.exit (0 : Nat)) [] (fun x => chs l) (fun x => []) (fun x => H.nil) fun x => []] AX.ret [u (0 : Nat), u (1 : Nat), AV.bool false, u (3 : Nat), I (l.getD j i0), u (5 : Nat), u (6 : Nat), u (7 : Nat), u (8 : Nat), AV.sl (ints l) l.length r, I (↑l.length : Int), I (↑j : Int), AV.bool true, AV.cptr (ints (List.drop j l)), I (l.getD j i0), I (l.getD j i0), AV.bool false, AV.bool false, I (l.getD j i0), AV.bool true, AV.bool true, u (21 : Nat)] (H.mk [] [] [])) (by kernel_rfl) ?_⟩
        refine ⟨by first | with_reducible assumption | omega | assumption, ?_⟩
        refine ⟨by first | exact ix_ints (by kernel_rfl) (by omega) (by assumption) | exact ix_ints (by kernel_rfl) (by omega) (rok_idx (by assumption) (by omega)), ?_⟩
        refine ⟨by first | exact ld_ints (by kernel_rfl) (by kernel_rfl) (by omega) | exact ldm_ints (by kernel_rfl) (by kernel_rfl) (by first | omega | (simp; omega)), ?_⟩
        refine ⟨by first | with_reducible assumption | omega | assumption, ?_⟩
        refine ⟨by first | with_reducible assumption | omega | assumption, ?_⟩
        refine ⟨by first | with_reducible assumption | omega | assumption, ?_⟩
        exact .inl ⟨(), hn, rfl, rfl, rfl⟩
      · have c2 : at_ l j < 256 := by omega
        have hk := all_succ (q := ch1 l) ha ⟨c1, c2⟩
        refine ⟨[Ans.o (Orc.b true), Ans.o (Orc.val 13 (AV.cptr (ints (List.drop j l))) H.nil), Ans.o (Orc.val 14 (I (l.getD j i0)) H.nil), Ans.o (Orc.b false), Ans.o (Orc.b false), Ans.o (Orc.val 21 (I (↑(j + (1 : Nat)) : Int)) H.nil)], fun u => of_eq ((↑j : Int) < (↑l.length : Int) ∧ aIndexAddr Tryd.prog (22 : Nat) (AV.sl (ints l) l.length r) (I (↑j : Int)) = some (AV.cptr (ints (List.drop j l))) ∧ aLoad Tryd.prog (3 : Nat) (ints (List.drop j l)) = some (I (l.getD j i0)) ∧ (1 : Int) ≤ l.getD j i0 ∧ l.getD j i0 < (256 : Int) ∧ aBin Tryd.prog BinOp.add (3 : Nat) (I (↑j : Int)) (I 1) = some (I (↑(j + (1 : Nat)) : Int)) ∧ (22 : Nat) = (22 : Nat) ∧ j < l.length ∧ Keep (H.mk [] [] [] = H.mk [] [] [] ∧ [AV.sl (ints l) l.length r, I (↑l.length : Int), I (↑(j + (1 : Nat)) : Int)] = [AV.sl (ints l) l.length r, I (↑l.length : Int), I (↑(j + (1 : Nat)) : Int)] ∧ ∀ (i : Nat), i < j + (1 : Nat) → ch1 l i)) (by kernel_rfl) ?_⟩
        refine ⟨by first | with_reducible assumption | omega | assumption, ?_⟩
        refine ⟨by first | exact ix_ints (by kernel_rfl) (by omega) (by assumption) | exact ix_ints (by kernel_rfl) (by omega) (rok_idx (by assumption) (by omega)), ?_⟩
        refine ⟨by first | exact ld_ints (by kernel_rfl) (by kernel_rfl) (by omega) | exact ldm_ints (by kernel_rfl) (by kernel_rfl) (by first | omega | (simp; omega)), ?_⟩
        refine ⟨by first | with_reducible assumption | omega | assumption, ?_⟩
        refine ⟨by first | with_reducible assumption | omega | assumption, ?_⟩
        refine ⟨told_add (by with_reducible assumption), ?_⟩
        refine ⟨by first | with_reducible assumption | omega | assumption, ?_⟩
        refine ⟨by first | with_reducible assumption | omega | assumption, ?_⟩
        exact ⟨rfl, rfl, hk⟩
  · have hz : (l.length : Int) ≤ j := by omega
    have hk : chs l := fun i hi => ha i (by omega)
    refine ⟨[Ans.o (Orc.b false)], fun u => of_eq ((↑l.length : Int) ≤ (↑j : Int) ∧ (22 : Nat) = (22 : Nat) ∧ hits [Out.mk Unit AX.ret [(2 : Nat)] (fun x => ¬chs l) (fun x => [AV.bool false]) (fun x => H.nil) fun x => [], Out.mk Unit (AX.exit (0 : Nat)) [] (fun x => chs l) (fun x => []) (fun x => H.nil) fun x => []] (AX.exit (0 : Nat)) [u (0 : Nat), u (1 : Nat), u (2 : Nat), u (3 : Nat), u (4 : Nat), u (5 : Nat), u (6 : Nat), u (7 : Nat), u (8 : Nat), AV.sl (ints l) l.length r, I (↑l.length : Int), I (↑j : Int), AV.bool false, u (13 : Nat), u (14 : Nat), u (15 : Nat), u (16 : Nat), u (17 : Nat), u (18 : Nat), u (19 : Nat), u (20 : Nat), u (21 : Nat)] (H.mk [] [] [])) (by kernel_rfl) ?_⟩
    refine ⟨by first | with_reducible assumption | omega | assumption, ?_⟩
    refine ⟨by first | with_reducible assumption | omega | assumption, ?_⟩
    exact .inr (.inl ⟨(), hk, rfl, rfl, rfl⟩)
theorem ok57 : FokM Tryd.prog none1 57 Tryd.f57 := ⟨mixed, by kernel_rfl, by kernel_rfl, by kernel_rfl, by kernel_rfl⟩
theorem r57 (l : List Int) (r : Room) (hp : lim l.length ∧ rok l r) : Body ⟨Tryd.prog, Sof (P := Tryd.prog) [c84.to], Pof (P := Tryd.prog) [], H.nil.base, 300⟩ none1 Tryd.f57 [ls l r] .nil (.bool (chB l), .nil) := by
  obtain ⟨hl, hr⟩ := hp
  have t84 : True := trivial
  by_cases h1 : sz l
  · have hd : decide (1 ≤ (l.length : Int) ∧ (l.length : Int) ≤ 6) = true := by rw [decide_eq_true_eq]; have := h1; omega
    refine body_s ([Ans.o (Orc.val 7 (AV.bool true) (H.mk [] [] [])), Ans.loop [(9 : Nat), (10 : Nat), (11 : Nat)] [Out.mk Unit AX.ret [(2 : Nat)] (fun x => ¬chs l) (fun x => [AV.bool false]) (fun x => H.nil) fun y => [], Out.mk Unit (AX.exit (0 : Nat)) [] (fun x => chs l) (fun x => []) (fun x => H.nil) fun y => []]]) (aCall (Sof [c84.to]) (AV.fn (Fn.func (84 : Nat)) [] []) [I (↑l.length : Int)] (H.mk [] [] []) = some (AV.bool true, H.mk [] [] []) ∧ LoopS (Env.mk Tryd.prog (Sof [c84.to]) (Pof (P := Tryd.prog) []) H.nil.base (300 : Nat)) (loopAt Tryd.f57 (0 : Nat)) (22 : Nat) [(9 : Nat), (10 : Nat), (11 : Nat)] [AV.sl (ints l) l.length r, I (↑l.length : Int), I 0] (H.mk [] [] []) [Out.mk Unit AX.ret [(2 : Nat)] (fun x => ¬chs l) (fun x => [AV.bool false]) (fun x => H.nil) fun y => [], Out.mk Unit (AX.exit (0 : Nat)) [] (fun x => chs l) (fun x => []) (fun x => H.nil) fun y => []] ∧ (∀ (y : Unit), ¬chs l → ∀ (u : Nat → AV), (AV.bool false, H.mk [] [] []) = (AV.bool (chB l), H.mk [] [] [])) ∧ (∀ (y : Unit), (∀ (i : Nat), i < l.length → (1 : Int) ≤ at_ l i ∧ at_ l i < (256 : Int)) → ∀ (u : Nat → AV), (AV.bool true, H.mk [] [] []) = (AV.bool (chB l), H.mk [] [] [])) ∧ True) (by kernel_rfl) ?_
    refine ⟨acall_b (acall_hit (c := c84.to) (l.length : Int) _ rfl t84) hd, ?_⟩
    refine ⟨lp57 l r hl hr, ?_⟩
    refine And.intro ?_ ?_
    · skip
      intro y
      intro w1
      intro u
      first | exact congrArg (fun b => (AV.bool b, H.nil)) (chB_f (fun h => (by with_reducible assumption : ¬ chs l) h.2)).symm | exact congrArg (fun b => (AV.bool b, H.nil)) (chB_t ⟨h1, by with_reducible assumption⟩).symm
    · skip
      refine And.intro ?_ ?_
      · skip
        intro y
        intro w1
        intro u
        first | exact congrArg (fun b => (AV.bool b, H.nil)) (chB_f (fun h => (by with_reducible assumption : ¬ chs l) h.2)).symm | exact congrArg (fun b => (AV.bool b, H.nil)) (chB_t ⟨h1, by with_reducible assumption⟩).symm
      · skip
        trivial
  · have hd : decide (1 ≤ (l.length : Int) ∧ (l.length : Int) ≤ 6) = false := by rw [decide_eq_false_iff_not]; intro h; apply h1; omega
    have hf := chB_f (l := l) (fun h => h1 h.1)
    rw [hf]
    refine body_s ([Ans.o (Orc.val 7 (AV.bool false) (H.mk [] [] []))]) (aCall (Sof [c84.to]) (AV.fn (Fn.func (84 : Nat)) [] []) [I (↑l.length : Int)] (H.mk [] [] []) = some (AV.bool false, H.mk [] [] []) ∧ (AV.bool false, H.mk [] [] []) = (AV.bool false, H.mk [] [] [])) (by kernel_rfl) ?_
    refine ⟨acall_b (acall_hit (c := c84.to) (l.length : Int) _ rfl t84) hd, ?_⟩
    first | with_reducible rfl | (refine bleaf_t ?_; omega) | (refine bleaf_f ?_; omega) | (refine ileaf ?_; omega) | rfl | (exfalso; omega)
noncomputable def c57 : PCtr Tryd.prog := sctr ok57 (X := List Int × Room) (fun x => [ls x.1 x.2]) (fun x => lim x.1.length ∧ rok x.1 x.2) (fun x => .bool (chB x.1)) (by intro x y e _ _; simp at e; simp [e]) (fun x => by simp [AV.bnds, AV.bnd, AV.wk, rm_wk_bnd]) (fun x => by first | rfl | (simp [AV.bnd, rm_wk_bnd]; done)  | (simp [AV.bnd, AV.bnds, rm_wk_bnd]; done) | simp [AV.bnd, AV.bnds, Room.bnd, rm_wk_bnd]) (fun x hx => ⟨_, _, _, .pure c84 (.nil), r57 (x.1) (x.2).wk (by first | exact hx | (simp only [rok_wk]; exact hx) | (simp only [rok_wk, lst_wk]; exact hx) | (simp only [rok_wk, lst_wk, lsn_wk]; exact hx))⟩)
abbrev o21 (l : List Int) (r : Room) : List Out :=
  [.mk Unit .ret [2] (fun _ => ¬ chs l) (fun _ => [.bool false]) (fun _ => .nil) (fun _ => []), .mk Unit (.exit 0) [0] (fun _ => chs l) (fun _ => [ls l r]) (fun _ => .nil) (fun _ => [])]
theorem simp21 : allSimpleM none1 (loopAt Tryd.f21 0) = true := by kernel_rfl
theorem lp21 (l : List Int) (r : Room) (hl : lim l.length) (hr : rok l r) :
    LoopS (En6 []) (loopAt Tryd.f21 0) 26 [0, 5, 6, 7] [ls l r, ls l r, I l.length, I 0] .nil (o21 l r) := by
  have hR : Rests (En6 []) none1 := rests mixed .nil
  refine loop_s hR simp21 none (by intro _ h; cases h) (fun j vs h => h = .nil ∧ vs = [ls l r, ls l r, I l.length, I (j : Nat)] ∧ ∀ i, i < j → ch1 l i) l.length ⟨rfl, rfl, fun i hi => absurd hi (by omega)⟩ (by intro _ h; cases h) ?_
  rintro j vs h hj ⟨rfl, rfl, ha⟩
  by_cases hz : (j : Int) < l.length
  · have hz' : j < l.length := by omega
    have hr := rok_idx hr hz'
    have ev0 : IntKind.i64.wrap ((j : Int) + 1) = ((j + 1 : Nat) : Int) := by
      have : (j : Int) + 1 = ((j + 1 : Nat) : Int) := by omega
      rw [this]; exact i_wrap (by simp only [lim] at hl; omega)
    by_cases c1 : at_ l j < 1
    · have hn : ¬ chs l := fun h => by have := (h j hz').1; omega
      refine ⟨[Ans.o (Orc.b true), Ans.o (Orc.val 9 (AV.cptr (ints (List.drop j l))) H.nil), Ans.o (Orc.val 10 (I (l.getD j i0)) H.nil), Ans.o (Orc.b true)], fun u => of_eq ((↑j : Int) < (↑l.length : Int) ∧ aIndexAddr Tryd.prog (22 : Nat) (AV.sl (ints l) l.length r) (I (↑j : Int)) = some (AV.cptr (ints (List.drop j l))) ∧ aLoad Tryd.prog (3 : Nat) (ints (List.drop j l)) = some (I (l.getD j i0)) ∧ l.getD j i0 < (1 : Int) ∧ (26 : Nat) = (26 : Nat) ∧ hits [Out.mk Unit AX.ret [(2 : Nat)] (fun x => ¬chs l) (fun x => [AV.bool false]) (fun x => H.nil) fun x => [], Out.mk Unit (AX.exit (0 : Nat)) [(0 : Nat)] (fun x => chs l) (fun x => [ls l r]) (fun x => H.nil) fun x => []] AX.ret [AV.sl (ints l) l.length r, u (1 : Nat), AV.bool false, u (3 : Nat), I (l.getD j i0), AV.sl (ints l) l.length r, I (↑l.length : Int), I (↑j : Int), AV.bool true, AV.cptr (ints (List.drop j l)), I (l.getD j i0), I (l.getD j i0), AV.bool true, AV.bool true, AV.tup [], AV.tup [], AV.bool true, u (17 : Nat), u (18 : Nat), u (19 : Nat), u (20 : Nat), u (21 : Nat), u (22 : Nat), u (23 : Nat), u (24 : Nat), u (25 : Nat)] (H.mk [] [] [])) (by kernel_rfl) ?_⟩
      refine ⟨by first | with_reducible assumption | omega | assumption, ?_⟩
      refine ⟨by first | exact ix_ints (by kernel_rfl) (by omega) (by assumption) | exact ix_ints (by kernel_rfl) (by omega) (rok_idx (by assumption) (by omega)), ?_⟩
      refine ⟨by first | exact ld_ints (by kernel_rfl) (by kernel_rfl) (by omega) | exact ldm_ints (by kernel_rfl) (by kernel_rfl) (by first | omega | (simp; omega)), ?_⟩
      refine ⟨by first | with_reducible assumption | omega | assumption, ?_⟩
      refine ⟨by first | with_reducible assumption | omega | assumption, ?_⟩
      exact .inl ⟨(), hn, rfl, rfl, rfl⟩
    · have c1 : 1 ≤ at_ l j := by omega
      by_cases c2 : 255 < at_ l j
      · have hn : ¬ chs l := fun h => by have := (h j hz').2; omega
        refine ⟨[Ans.o (Orc.b true), Ans.o (Orc.val 9 (AV.cptr (ints (List.drop j l))) H.nil), Ans.o (Orc.val 10 (I (l.getD j i0)) H.nil), Ans.o (Orc.b false), Ans.o (Orc.b true)], fun u => of_eq ((↑j : Int) < (↑l.length : Int) ∧ aIndexAddr Tryd.prog (22 : Nat) (AV.sl (ints l) l.length r) (I (↑j : Int)) = some (AV.cptr (ints (List.drop j l))) ∧ aLoad Tryd.prog (3 : Nat) (ints (List.drop j l)) = some (I (l.getD j i0)) ∧ (1 : Int) ≤ l.getD j i0 ∧ (255 : Int) < l.getD j i0 ∧ (26 : Nat) = (26 : Nat) ∧ hits [Out.mk Unit AX.ret [(2 : Nat)] (fun x => ¬chs l) (fun x => [AV.bool false]) (fun x => H.nil) fun x => [], Out.mk Unit (AX.exit (0 : Nat)) [(0 : Nat)] (fun x => chs l) (fun x => [ls l r]) (fun x => H.nil) fun x => []] AX.ret [AV.sl (ints l) l.length r, u (1 : Nat), AV.bool false, u (3 : Nat), I (l.getD j i0), AV.sl (ints l) l.length r, I (↑l.length : Int), I (↑j : Int), AV.bool true, AV.cptr (ints (List.drop j l)), I (l.getD j i0), I (l.getD j i0), AV.bool false, AV.bool false, I (l.getD j i0), AV.bool true, AV.bool true, u (17 : Nat), u (18 : Nat), u (19 : Nat), u (20 : Nat), u (21 : Nat), u (22 : Nat), u (23 : Nat), u (24 : Nat), u (25 : Nat)] (H.mk [] [] [])) (by kernel_rfl) ?_⟩
        refine ⟨by first | with_reducible assumption | omega | assumption, ?_⟩
        refine ⟨by first | exact ix_ints (by kernel_rfl) (by omega) (by assumption) | exact ix_ints (by kernel_rfl) (by omega) (rok_idx (by assumption) (by omega)), ?_⟩
        refine ⟨by first | exact ld_ints (by kernel_rfl) (by kernel_rfl) (by omega) | exact ldm_ints (by kernel_rfl) (by kernel_rfl) (by first | omega | (simp; omega)), ?_⟩
        refine ⟨by first | with_reducible assumption | omega | assumption, ?_⟩
        refine ⟨by first | with_reducible assumption | omega | assumption, ?_⟩
        refine ⟨by first | with_reducible assumption | omega | assumption, ?_⟩
        exact .inl ⟨(), hn, rfl, rfl, rfl⟩
      · have c2 : at_ l j ≤ 255 := by omega
        have hk := all_succ (q := ch1 l) ha ⟨c1, by omega⟩
        refine ⟨[Ans.o (Orc.b true), Ans.o (Orc.val 9 (AV.cptr (ints (List.drop j l))) H.nil), Ans.o (Orc.val 10 (I (l.getD j i0)) H.nil), Ans.o (Orc.b false), Ans.o (Orc.b false), Ans.o (Orc.val 17 (I (↑(j + (1 : Nat)) : Int)) H.nil)], fun u => of_eq ((↑j : Int) < (↑l.length : Int) ∧ aIndexAddr Tryd.prog (22 : Nat) (AV.sl (ints l) l.length r) (I (↑j : Int)) = some (AV.cptr (ints (List.drop j l))) ∧ aLoad Tryd.prog (3 : Nat) (ints (List.drop j l)) = some (I (l.getD j i0)) ∧ (1 : Int) ≤ l.getD j i0 ∧ l.getD j i0 ≤ (255 : Int) ∧ aBin Tryd.prog BinOp.add (3 : Nat) (I (↑j : Int)) (I 1) = some (I (↑(j + (1 : Nat)) : Int)) ∧ (26 : Nat) = (26 : Nat) ∧ j < l.length ∧ Keep (H.mk [] [] [] = H.mk [] [] [] ∧ [AV.sl (ints l) l.length r, AV.sl (ints l) l.length r, I (↑l.length : Int), I (↑(j + (1 : Nat)) : Int)] = [AV.sl (ints l) l.length r, AV.sl (ints l) l.length r, I (↑l.length : Int), I (↑(j + (1 : Nat)) : Int)] ∧ ∀ (i : Nat), i < j + (1 : Nat) → ch1 l i)) (by kernel_rfl) ?_⟩
        refine ⟨by first | with_reducible assumption | omega | assumption, ?_⟩
        refine ⟨by first | exact ix_ints (by kernel_rfl) (by omega) (by assumption) | exact ix_ints (by kernel_rfl) (by omega) (rok_idx (by assumption) (by omega)), ?_⟩
        refine ⟨by first | exact ld_ints (by kernel_rfl) (by kernel_rfl) (by omega) | exact ldm_ints (by kernel_rfl) (by kernel_rfl) (by first | omega | (simp; omega)), ?_⟩
        refine ⟨by first | with_reducible assumption | omega | assumption, ?_⟩
        refine ⟨by first | with_reducible assumption | omega | assumption, ?_⟩
        refine ⟨told_add (by with_reducible assumption), ?_⟩
        refine ⟨by first | with_reducible assumption | omega | assumption, ?_⟩
        refine ⟨by first | with_reducible assumption | omega | assumption, ?_⟩
        exact ⟨rfl, rfl, hk⟩
  · have hz : (l.length : Int) ≤ j := by omega
    have hk : chs l := fun i hi => ha i (by omega)
    refine ⟨[Ans.o (Orc.b false)], fun u => of_eq ((↑l.length : Int) ≤ (↑j : Int) ∧ (26 : Nat) = (26 : Nat) ∧ hits [Out.mk Unit AX.ret [(2 : Nat)] (fun x => ¬chs l) (fun x => [AV.bool false]) (fun x => H.nil) fun x => [], Out.mk Unit (AX.exit (0 : Nat)) [(0 : Nat)] (fun x => chs l) (fun x => [ls l r]) (fun x => H.nil) fun x => []] (AX.exit (0 : Nat)) [AV.sl (ints l) l.length r, u (1 : Nat), u (2 : Nat), u (3 : Nat), u (4 : Nat), AV.sl (ints l) l.length r, I (↑l.length : Int), I (↑j : Int), AV.bool false, u (9 : Nat), u (10 : Nat), u (11 : Nat), u (12 : Nat), u (13 : Nat), u (14 : Nat), u (15 : Nat), u (16 : Nat), u (17 : Nat), u (18 : Nat), u (19 : Nat), u (20 : Nat), u (21 : Nat), u (22 : Nat), u (23 : Nat), u (24 : Nat), u (25 : Nat)] (H.mk [] [] [])) (by kernel_rfl) ?_⟩
    refine ⟨by first | with_reducible assumption | omega | assumption, ?_⟩
    refine ⟨by first | with_reducible assumption | omega | assumption, ?_⟩
    exact .inr (.inl ⟨(), hk, rfl, rfl, rfl⟩)
theorem ok21 : FokM Tryd.prog none1 21 Tryd.f21 := ⟨mixed, by kernel_rfl, by kernel_rfl, by kernel_rfl, by kernel_rfl⟩
theorem r21 (l : List Int) (r : Room) (hp : lim l.length ∧ rok l r) : Body ⟨Tryd.prog, Sof (P := Tryd.prog) [], Pof (P := Tryd.prog) [], H.nil.base, 300⟩ none1 Tryd.f21 [ls l r] .nil (.bool (chB l), .nil) := by
  obtain ⟨hl, hr⟩ := hp
  by_cases h1 : 1 ≤ l.length
  · have h1' : 1 ≤ (l.length : Int) := by omega
    by_cases h2 : l.length ≤ 6
    · have h2' : (l.length : Int) ≤ 6 := by omega
      refine body_s ([Ans.loop [(0 : Nat), (5 : Nat), (6 : Nat), (7 : Nat)] [Out.mk Unit AX.ret [(2 : Nat)] (fun x => ¬chs l) (fun x => [AV.bool false]) (fun x => H.nil) fun y => [], Out.mk Unit (AX.exit (0 : Nat)) [(0 : Nat)] (fun x => chs l) (fun x => [ls l r]) (fun x => H.nil) fun y => [Ans.o (Orc.b true), Ans.o (Orc.b true)]]]) (LoopS (Env.mk Tryd.prog (Sof (P := Tryd.prog) []) (Pof (P := Tryd.prog) []) H.nil.base (300 : Nat)) (loopAt Tryd.f21 (0 : Nat)) (26 : Nat) [(0 : Nat), (5 : Nat), (6 : Nat), (7 : Nat)] [AV.sl (ints l) l.length r, AV.sl (ints l) l.length r, I (↑l.length : Int), I 0] (H.mk [] [] []) [Out.mk Unit AX.ret [(2 : Nat)] (fun x => ¬chs l) (fun x => [AV.bool false]) (fun x => H.nil) fun y => [], Out.mk Unit (AX.exit (0 : Nat)) [(0 : Nat)] (fun x => chs l) (fun x => [ls l r]) (fun x => H.nil) fun y => [Ans.o (Orc.b true), Ans.o (Orc.b true)]] ∧ (∀ (y : Unit), ¬chs l → ∀ (u : Nat → AV), (AV.bool false, H.mk [] [] []) = (AV.bool (chB l), H.mk [] [] [])) ∧ (∀ (y : Unit), (∀ (i : Nat), i < l.length → (1 : Int) ≤ at_ l i ∧ at_ l i < (256 : Int)) → ∀ (u : Nat → AV), (1 : Int) ≤ (↑l.length : Int) ∧ (↑l.length : Int) ≤ (6 : Int) ∧ (AV.bool true, H.mk [] [] []) = (AV.bool (chB l), H.mk [] [] [])) ∧ True) (by kernel_rfl) ?_
      refine ⟨lp21 l r hl hr, ?_⟩
      refine And.intro ?_ ?_
      · skip
        intro y
        intro w1
        intro u
        first | exact congrArg (fun b => (AV.bool b, H.nil)) (chB_f (fun h => (by with_reducible assumption : ¬ chs l) h.2)).symm | exact congrArg (fun b => (AV.bool b, H.nil)) (chB_t ⟨⟨h1, h2⟩, by with_reducible assumption⟩).symm
      · skip
        refine And.intro ?_ ?_
        · skip
          intro y
          intro w1
          intro u
          refine ⟨by first | with_reducible assumption | omega | assumption, ?_⟩
          refine ⟨by first | with_reducible assumption | omega | assumption, ?_⟩
          first | exact congrArg (fun b => (AV.bool b, H.nil)) (chB_f (fun h => (by with_reducible assumption : ¬ chs l) h.2)).symm | exact congrArg (fun b => (AV.bool b, H.nil)) (chB_t ⟨⟨h1, h2⟩, by with_reducible assumption⟩).symm
        · skip
          trivial
    · have h2' : (6 : Int) < (l.length : Int) := by omega
      rw [chB_f (fun h => h2 h.1.2)]
      refine body_s ([Ans.loop [(0 : Nat), (5 : Nat), (6 : Nat), (7 : Nat)] [Out.mk Unit AX.ret [(2 : Nat)] (fun x => ¬chs l) (fun x => [AV.bool false]) (fun x => H.nil) fun y => [], Out.mk Unit (AX.exit (0 : Nat)) [(0 : Nat)] (fun x => chs l) (fun x => [ls l r]) (fun x => H.nil) fun y => [Ans.o (Orc.b true), Ans.o (Orc.b false)]]]) (LoopS (Env.mk Tryd.prog (Sof (P := Tryd.prog) []) (Pof (P := Tryd.prog) []) H.nil.base (300 : Nat)) (loopAt Tryd.f21 (0 : Nat)) (26 : Nat) [(0 : Nat), (5 : Nat), (6 : Nat), (7 : Nat)] [AV.sl (ints l) l.length r, AV.sl (ints l) l.length r, I (↑l.length : Int), I 0] (H.mk [] [] []) [Out.mk Unit AX.ret [(2 : Nat)] (fun x => ¬chs l) (fun x => [AV.bool false]) (fun x => H.nil) fun y => [], Out.mk Unit (AX.exit (0 : Nat)) [(0 : Nat)] (fun x => chs l) (fun x => [ls l r]) (fun x => H.nil) fun y => [Ans.o (Orc.b true), Ans.o (Orc.b false)]] ∧ (∀ (y : Unit), ¬chs l → ∀ (u : Nat → AV), (AV.bool false, H.mk [] [] []) = (AV.bool false, H.mk [] [] [])) ∧ (∀ (y : Unit), (∀ (i : Nat), i < l.length → (1 : Int) ≤ at_ l i ∧ at_ l i < (256 : Int)) → ∀ (u : Nat → AV), (1 : Int) ≤ (↑l.length : Int) ∧ (6 : Int) < (↑l.length : Int) ∧ (AV.bool false, H.mk [] [] []) = (AV.bool false, H.mk [] [] [])) ∧ True) (by kernel_rfl) ?_
      refine ⟨lp21 l r hl hr, ?_⟩
      refine And.intro ?_ ?_
      · skip
        intro y
        intro w1
        intro u
        first | with_reducible rfl | (refine bleaf_t ?_; omega) | (refine bleaf_f ?_; omega) | (refine ileaf ?_; omega) | rfl | (exfalso; omega)
      · skip
        refine And.intro ?_ ?_
        · skip
          intro y
          intro w1
          intro u
          refine ⟨by first | with_reducible assumption | omega | assumption, ?_⟩
          refine ⟨by first | with_reducible assumption | omega | assumption, ?_⟩
          first | with_reducible rfl | (refine bleaf_t ?_; omega) | (refine bleaf_f ?_; omega) | (refine ileaf ?_; omega) | rfl | (exfalso; omega)
        · skip
          trivial
  · have h1' : (l.length : Int) < 1 := by omega
    rw [chB_f (fun h => h1 h.1.1)]
    refine body_s ([Ans.loop [(0 : Nat), (5 : Nat), (6 : Nat), (7 : Nat)] [Out.mk Unit AX.ret [(2 : Nat)] (fun x => ¬chs l) (fun x => [AV.bool false]) (fun x => H.nil) fun y => [], Out.mk Unit (AX.exit (0 : Nat)) [(0 : Nat)] (fun x => chs l) (fun x => [ls l r]) (fun x => H.nil) fun y => [Ans.o (Orc.b false)]]]) (LoopS (Env.mk Tryd.prog (Sof (P := Tryd.prog) []) (Pof (P := Tryd.prog) []) H.nil.base (300 : Nat)) (loopAt Tryd.f21 (0 : Nat)) (26 : Nat) [(0 : Nat), (5 : Nat), (6 : Nat), (7 : Nat)] [AV.sl (ints l) l.length r, AV.sl (ints l) l.length r, I (↑l.length : Int), I 0] (H.mk [] [] []) [Out.mk Unit AX.ret [(2 : Nat)] (fun x => ¬chs l) (fun x => [AV.bool false]) (fun x => H.nil) fun y => [], Out.mk Unit (AX.exit (0 : Nat)) [(0 : Nat)] (fun x => chs l) (fun x => [ls l r]) (fun x => H.nil) fun y => [Ans.o (Orc.b false)]] ∧ (∀ (y : Unit), ¬chs l → ∀ (u : Nat → AV), (AV.bool false, H.mk [] [] []) = (AV.bool false, H.mk [] [] [])) ∧ (∀ (y : Unit), (∀ (i : Nat), i < l.length → (1 : Int) ≤ at_ l i ∧ at_ l i < (256 : Int)) → ∀ (u : Nat → AV), (↑l.length : Int) < (1 : Int) ∧ (AV.bool false, H.mk [] [] []) = (AV.bool false, H.mk [] [] [])) ∧ True) (by kernel_rfl) ?_
    refine ⟨lp21 l r hl hr, ?_⟩
    refine And.intro ?_ ?_
    · skip
      intro y
      intro w1
      intro u
      first | with_reducible rfl | (refine bleaf_t ?_; omega) | (refine bleaf_f ?_; omega) | (refine ileaf ?_; omega) | rfl | (exfalso; omega)
    · skip
      refine And.intro ?_ ?_
      · skip
        intro y
        intro w1
        intro u
        refine ⟨by first | with_reducible assumption | omega | assumption, ?_⟩
        first | with_reducible rfl | (refine bleaf_t ?_; omega) | (refine bleaf_f ?_; omega) | (refine ileaf ?_; omega) | rfl | (exfalso; omega)
      · skip
        trivial
noncomputable def c21 : PCtr Tryd.prog := sctr ok21 (X := List Int × Room) (fun x => [ls x.1 x.2]) (fun x => lim x.1.length ∧ rok x.1 x.2) (fun x => .bool (chB x.1)) (by intro x y e _ _; simp at e; simp [e]) (fun x => by simp [AV.bnds, AV.bnd, AV.wk, rm_wk_bnd]) (fun x => by first | rfl | (simp [AV.bnd, rm_wk_bnd]; done)  | (simp [AV.bnd, AV.bnds, rm_wk_bnd]; done) | simp [AV.bnd, AV.bnds, Room.bnd, rm_wk_bnd]) (fun x hx => ⟨_, _, _, .nil, r21 (x.1) (x.2).wk (by first | exact hx | (simp only [rok_wk]; exact hx) | (simp only [rok_wk, lst_wk]; exact hx) | (simp only [rok_wk, lst_wk, lsn_wk]; exact hx))⟩)
end Go.Proofs.Sur

