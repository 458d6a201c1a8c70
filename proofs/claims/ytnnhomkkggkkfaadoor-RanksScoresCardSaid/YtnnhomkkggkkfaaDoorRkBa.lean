/- Layer 2: what scores are, and whether they can be, by the program. -/
import Derived.Test.YtnnhomkkggkkfaaDoorRkT
import Derived.Test.YtnnhomkkggkkfaaDoorRkU
import Derived.Test.YtnnhomkkggkkfaaDoorVm8
import Derived.KernelRfl
set_option linter.unusedSimpArgs false
set_option linter.unusedVariables false
set_option linter.unnecessarySimpa false
set_option maxHeartbeats 4000000
set_option maxRecDepth 100000
namespace Go.Proofs.Rnk
open Go Go.VM
open Go.Proofs.Sur (andn andn_bit andn_le i_wrap i_and i_or i_andn i_shl i_shr bit_01)

/-- in order -/
structure Srt (s : List Int) (n : Nat) : Prop where
  h : ∀ k, n < k + 1 → k + 1 < s.length → s.getD k i0 ≤ s.getD (k + 1) i0
abbrev o90 (s : List Int) : List Out := [.mk Unit .ret [2] (fun _ => ¬ Srt s 0) (fun _ => [.bool false]) (fun _ => .nil) (fun _ => []), .mk Unit (.exit 0) [] (fun _ => Srt s 0) (fun _ => []) (fun _ => .nil) (fun _ => [])]
theorem simp90 : allSimpleM none1 (loopAt Tryd.f90 0) = true := by kernel_rfl
theorem lp90 (s : List Int) (r : Room) (hr : rok s r) (h1 : 1 ≤ s.length) (h8 : s.length ≤ 8) :
    LoopS (En6 [c112.to]) (loopAt Tryd.f90 0) 21 [0, 3] [ls s r, I (s.length - 1 : Nat)] .nil (o90 s) := by
  have hR : Rests (En6 [c112.to]) none1 := rests mixed (.pure _ .nil)
  refine loop_s hR simp90 none (by intro _ h; cases h) (fun k vs H => H = .nil ∧ vs = [ls s r, I (s.length - 1 - k : Nat)] ∧ Srt s (s.length - 1 - k)) (s.length - 1) ⟨rfl, rfl, ⟨fun k h1 h2 => by omega⟩⟩ (by intro _ h; cases h) ?_
  rintro k vs H hk ⟨rfl, rfl, ha⟩
  by_cases hz : k < s.length - 1
  · obtain ⟨j, hj⟩ : ∃ j, s.length - 1 - k = j + 1 := ⟨s.length - 1 - k - 1, by omega⟩
    rw [hj] at ha ⊢
    have hj1 : j + 1 < s.length := by omega
    have hj0 : j < s.length := by omega
    have hri := rok_idx hr hj0
    have c0 : (0 : Int) < ((j + 1 : Nat) : Int) := by omega
    have ev0 : IntKind.i64.wrap (((j + 1 : Nat) : Int) - 1) = ((j : Nat) : Int) := by rw [wr _ (by omega) (by omega)]; omega
    have e2 : s.length - 1 - (k + 1) = j := by omega
    by_cases c : s.getD (j + 1) i0 < s.getD j i0
    · have hn : ¬ Srt s 0 := fun q => by have := q.h j (by omega) hj1; omega
      have hb : decide (s.getD (j + 1) i0 < s.getD j i0) = true := decide_eq_true c
      refine ⟨[Ans.o (Orc.b true), Ans.o (Orc.val 13 (AV.cptr (ints (List.drop (j + (1 : Nat)) s))) H.nil), Ans.o (Orc.val 14 (I (s.getD (j + (1 : Nat)) i0)) H.nil), Ans.o (Orc.val 17 (I (↑j : Int)) H.nil), Ans.o (Orc.val 18 (AV.cptr (ints (List.drop j s))) H.nil), Ans.o (Orc.val 19 (I (s.getD j i0)) H.nil), Ans.o (Orc.val 20 (AV.bool true) (H.mk [] [] []))], fun u => of_eq ((0 : Int) < (↑(j + (1 : Nat)) : Int) ∧ aIndexAddr Tryd.prog (22 : Nat) (AV.sl (ints s) s.length r) (I (↑(j + (1 : Nat)) : Int)) = some (AV.cptr (ints (List.drop (j + (1 : Nat)) s))) ∧ aLoad Tryd.prog (3 : Nat) (ints (List.drop (j + (1 : Nat)) s)) = some (I (s.getD (j + (1 : Nat)) i0)) ∧ aBin Tryd.prog BinOp.sub (3 : Nat) (I (↑(j + (1 : Nat)) : Int)) (I 1) = some (I (↑j : Int)) ∧ aIndexAddr Tryd.prog (22 : Nat) (AV.sl (ints s) s.length r) (I (↑j : Int)) = some (AV.cptr (ints (List.drop j s))) ∧ aLoad Tryd.prog (3 : Nat) (ints (List.drop j s)) = some (I (s.getD j i0)) ∧ aCall (Sof [c112.to]) (AV.fn (Fn.func (112 : Nat)) [] []) [I (s.getD (j + (1 : Nat)) i0), I (s.getD j i0)] (H.mk [] [] []) = some (AV.bool true, H.mk [] [] []) ∧ (21 : Nat) = (21 : Nat) ∧ hits [Out.mk Unit AX.ret [(2 : Nat)] (fun x => ¬Srt s (0 : Nat)) (fun x => [AV.bool false]) (fun x => H.nil) fun x => [], Out.mk Unit (AX.exit (0 : Nat)) [] (fun x => Srt s (0 : Nat)) (fun x => []) (fun x => H.nil) fun x => []] AX.ret [AV.sl (ints s) s.length r, u (1 : Nat), AV.bool false, I (↑(j + (1 : Nat)) : Int), u (4 : Nat), u (5 : Nat), u (6 : Nat), I (↑(j + (1 : Nat)) : Int), AV.bool true, u (9 : Nat), u (10 : Nat), AV.sl (ints s) s.length r, I (↑(j + (1 : Nat)) : Int), AV.cptr (ints (List.drop (j + (1 : Nat)) s)), I (s.getD (j + (1 : Nat)) i0), AV.sl (ints s) s.length r, I (↑(j + (1 : Nat)) : Int), I (↑j : Int), AV.cptr (ints (List.drop j s)), I (s.getD j i0), AV.bool true] (H.mk [] [] [])) (by kernel_rfl) ?_⟩
      refine ⟨by first | with_reducible assumption | omega | assumption, ?_⟩
      refine ⟨by first | exact ix_ints (by kernel_rfl) hj1 hri | exact ix_ints (by kernel_rfl) hj0 hri, ?_⟩
      refine ⟨by first | exact ld_ints (by kernel_rfl) (by kernel_rfl) hj1 | exact ld_ints (by kernel_rfl) (by kernel_rfl) hj0, ?_⟩
      refine ⟨told_sub (by with_reducible assumption), ?_⟩
      refine ⟨by first | exact ix_ints (by kernel_rfl) hj1 hri | exact ix_ints (by kernel_rfl) hj0 hri, ?_⟩
      refine ⟨by first | exact ld_ints (by kernel_rfl) (by kernel_rfl) hj1 | exact ld_ints (by kernel_rfl) (by kernel_rfl) hj0, ?_⟩
      refine ⟨acall_b (acall_hit (c := c112.to) (s.getD (j + 1) i0, s.getD j i0) _ rfl trivial) hb, ?_⟩
      refine ⟨by first | with_reducible assumption | omega | assumption, ?_⟩
      exact .inl ⟨(), hn, rfl, rfl, rfl⟩
    · have hb : decide (s.getD (j + 1) i0 < s.getD j i0) = false := decide_eq_false c
      have hk2 : Srt s j := ⟨fun m h1 h2 => by
        rcases Nat.lt_or_ge (j + 1) (m + 1) with q | q
        · exact ha.h m q h2
        · have : m = j := by omega
          subst this; omega⟩
      refine ⟨[Ans.o (Orc.b true), Ans.o (Orc.val 13 (AV.cptr (ints (List.drop (j + (1 : Nat)) s))) H.nil), Ans.o (Orc.val 14 (I (s.getD (j + (1 : Nat)) i0)) H.nil), Ans.o (Orc.val 17 (I (↑j : Int)) H.nil), Ans.o (Orc.val 18 (AV.cptr (ints (List.drop j s))) H.nil), Ans.o (Orc.val 19 (I (s.getD j i0)) H.nil), Ans.o (Orc.val 20 (AV.bool false) (H.mk [] [] [])), Ans.o (Orc.val 10 (I (↑j : Int)) H.nil)], fun u => of_eq ((0 : Int) < (↑(j + (1 : Nat)) : Int) ∧ aIndexAddr Tryd.prog (22 : Nat) (AV.sl (ints s) s.length r) (I (↑(j + (1 : Nat)) : Int)) = some (AV.cptr (ints (List.drop (j + (1 : Nat)) s))) ∧ aLoad Tryd.prog (3 : Nat) (ints (List.drop (j + (1 : Nat)) s)) = some (I (s.getD (j + (1 : Nat)) i0)) ∧ aBin Tryd.prog BinOp.sub (3 : Nat) (I (↑(j + (1 : Nat)) : Int)) (I 1) = some (I (↑j : Int)) ∧ aIndexAddr Tryd.prog (22 : Nat) (AV.sl (ints s) s.length r) (I (↑j : Int)) = some (AV.cptr (ints (List.drop j s))) ∧ aLoad Tryd.prog (3 : Nat) (ints (List.drop j s)) = some (I (s.getD j i0)) ∧ aCall (Sof [c112.to]) (AV.fn (Fn.func (112 : Nat)) [] []) [I (s.getD (j + (1 : Nat)) i0), I (s.getD j i0)] (H.mk [] [] []) = some (AV.bool false, H.mk [] [] []) ∧ aBin Tryd.prog BinOp.sub (3 : Nat) (I (↑(j + (1 : Nat)) : Int)) (I 1) = some (I (↑j : Int)) ∧ (21 : Nat) = (21 : Nat) ∧ k < s.length - (1 : Nat) ∧ Keep (H.mk [] [] [] = H.mk [] [] [] ∧ [AV.sl (ints s) s.length r, I (↑j : Int)] = [AV.sl (ints s) s.length r, I (↑(s.length - (1 : Nat) - (k + (1 : Nat))) : Int)] ∧ Srt s (s.length - (1 : Nat) - (k + (1 : Nat))))) (by kernel_rfl) ?_⟩
      refine ⟨by first | with_reducible assumption | omega | assumption, ?_⟩
      refine ⟨by first | exact ix_ints (by kernel_rfl) hj1 hri | exact ix_ints (by kernel_rfl) hj0 hri, ?_⟩
      refine ⟨by first | exact ld_ints (by kernel_rfl) (by kernel_rfl) hj1 | exact ld_ints (by kernel_rfl) (by kernel_rfl) hj0, ?_⟩
      refine ⟨told_sub (by with_reducible assumption), ?_⟩
      refine ⟨by first | exact ix_ints (by kernel_rfl) hj1 hri | exact ix_ints (by kernel_rfl) hj0 hri, ?_⟩
      refine ⟨by first | exact ld_ints (by kernel_rfl) (by kernel_rfl) hj1 | exact ld_ints (by kernel_rfl) (by kernel_rfl) hj0, ?_⟩
      refine ⟨acall_b (acall_hit (c := c112.to) (s.getD (j + 1) i0, s.getD j i0) _ rfl trivial) hb, ?_⟩
      refine ⟨told_sub (by with_reducible assumption), ?_⟩
      refine ⟨by first | with_reducible assumption | omega | assumption, ?_⟩
      refine ⟨by first | with_reducible assumption | omega | assumption, ?_⟩
      exact ⟨rfl, by rw [e2], by rw [e2]; exact hk2⟩
  · have e : k = s.length - 1 := by omega
    subst e
    rw [Nat.sub_self] at ha ⊢
    refine ⟨[Ans.o Orc.dflt], fun u => of_eq ((21 : Nat) = (21 : Nat) ∧ hits [Out.mk Unit AX.ret [(2 : Nat)] (fun x => ¬Srt s (0 : Nat)) (fun x => [AV.bool false]) (fun x => H.nil) fun x => [], Out.mk Unit (AX.exit (0 : Nat)) [] (fun x => Srt s (0 : Nat)) (fun x => []) (fun x => H.nil) fun x => []] (AX.exit (0 : Nat)) [AV.sl (ints s) s.length r, u (1 : Nat), u (2 : Nat), I 0, u (4 : Nat), u (5 : Nat), u (6 : Nat), I 0, AV.bool false, u (9 : Nat), u (10 : Nat), u (11 : Nat), u (12 : Nat), u (13 : Nat), u (14 : Nat), u (15 : Nat), u (16 : Nat), u (17 : Nat), u (18 : Nat), u (19 : Nat), u (20 : Nat)] (H.mk [] [] [])) (by kernel_rfl) ?_⟩
    refine ⟨by first | with_reducible assumption | omega | assumption, ?_⟩
    exact .inr (.inl ⟨(), ha, rfl, rfl, rfl⟩)
open Classical in
noncomputable def srB (s : List Int) : Bool := decide (Srt s 0)
theorem srB_t {s : List Int} (h : Srt s 0) : srB s = true := by simp only [srB, decide_eq_true_eq]; exact h
theorem srB_f {s : List Int} (h : ¬ Srt s 0) : srB s = false := by simp only [srB, decide_eq_false_iff_not]; exact h
theorem ok90 : FokM Tryd.prog none1 90 Tryd.f90 := ⟨mixed, by kernel_rfl, by kernel_rfl, by kernel_rfl, by kernel_rfl⟩
theorem r90 (s : List Int) (r : Room) (hp : (1 ≤ s.length ∧ s.length ≤ 8) ∧ rok s r) : Body ⟨Tryd.prog, Sof (P := Tryd.prog) [c112.to], Pof (P := Tryd.prog) [], H.nil.base, 300⟩ none1 Tryd.f90 [ls s r] .nil (.bool (srB s), .nil) := by
  obtain ⟨⟨h1, h8⟩, hr⟩ := hp
  have lp := lp90 s r hr h1 h8
  have ev0 : IntKind.i64.wrap ((s.length : Int) - 1) = ((s.length - 1 : Nat) : Int) := by rw [wr _ (by omega) (by omega)]; omega
  refine body_s ([Ans.o (Orc.val 6 (I (↑(s.length - (1 : Nat)) : Int)) H.nil), Ans.loop [(0 : Nat), (3 : Nat)] [Out.mk Unit AX.ret [(2 : Nat)] (fun x => ¬Srt s (0 : Nat)) (fun x => [AV.bool false]) (fun x => H.nil) fun y => [], Out.mk Unit (AX.exit (0 : Nat)) [] (fun x => Srt s (0 : Nat)) (fun x => []) (fun x => H.nil) fun y => []]]) (aBin Tryd.prog BinOp.sub (3 : Nat) (I (↑s.length : Int)) (I 1) = some (I (↑(s.length - (1 : Nat)) : Int)) ∧ LoopS (Env.mk Tryd.prog (Sof [c112.to]) (Pof (P := Tryd.prog) []) H.nil.base (300 : Nat)) (loopAt Tryd.f90 (0 : Nat)) (21 : Nat) [(0 : Nat), (3 : Nat)] [AV.sl (ints s) s.length r, I (↑(s.length - (1 : Nat)) : Int)] (H.mk [] [] []) [Out.mk Unit AX.ret [(2 : Nat)] (fun x => ¬Srt s (0 : Nat)) (fun x => [AV.bool false]) (fun x => H.nil) fun y => [], Out.mk Unit (AX.exit (0 : Nat)) [] (fun x => Srt s (0 : Nat)) (fun x => []) (fun x => H.nil) fun y => []] ∧ (∀ (y : Unit), ¬Srt s (0 : Nat) → ∀ (u : Nat → AV), (AV.bool false, H.mk [] [] []) = (AV.bool (srB s), H.mk [] [] [])) ∧ (∀ (y : Unit), Srt s (0 : Nat) → ∀ (u : Nat → AV), (AV.bool true, H.mk [] [] []) = (AV.bool (srB s), H.mk [] [] [])) ∧ True) (by kernel_rfl) ?_
  refine ⟨told_sub (by with_reducible assumption), ?_⟩
  refine ⟨lp, ?_⟩
  refine And.intro ?_ ?_
  · skip
    intro y
    intro w1
    intro u
    first | rw [srB_t (by assumption)] | rw [srB_f (by assumption)]
  · skip
    refine And.intro ?_ ?_
    · skip
      intro y
      intro w1
      intro u
      first | rw [srB_t (by assumption)] | rw [srB_f (by assumption)]
    · skip
      trivial
noncomputable def c90 : PCtr Tryd.prog := sctr ok90 (X := List Int × Room) (fun x => [ls x.1 x.2]) (fun x => (1 ≤ x.1.length ∧ x.1.length ≤ 8) ∧ rok x.1 x.2) (fun x => .bool (srB x.1)) (by intro x y e _ _; simp [Int.natCast_inj] at e; simp [e]) (fun x => by simp [AV.bnds, AV.bnd, AV.wk, rm_wk_bnd]) (fun x => by first | rfl | (simp [AV.bnd, rm_wk_bnd]; done)  | (simp [AV.bnd, AV.bnds, rm_wk_bnd]; done) | simp [AV.bnd, AV.bnds, Room.bnd, rm_wk_bnd]) (fun x hx => ⟨_, _, _, .pure c112 (.nil), r90 (x.1) (x.2).wk (by first | exact hx | (simp only [rok_wk]; exact hx) | (simp only [rok_wk, lst_wk]; exact hx) | (simp only [rok_wk, lst_wk, lsn_wk]; exact hx))⟩)
structure Sc8 (s : List Int) : Prop where
  h : ∀ k, k < s.length → 0 ≤ s.getD k i0 ∧ s.getD k i0 < 8
abbrev o59 (s : List Int) (r : Room) : List Out := [.mk Unit .ret [2] (fun _ => ¬ Sc8 s) (fun _ => [.bool false]) (fun _ => .nil) (fun _ => []), .mk Unit (.exit 0) [0] (fun _ => Sc8 s) (fun _ => [ls s r]) (fun _ => .nil) (fun _ => [])]
theorem simp59 : allSimpleM none1 (loopAt Tryd.f59 0) = true := by kernel_rfl
theorem lp59 (s : List Int) (r : Room) (hr : rok s r) (h8 : s.length ≤ 8) :
    LoopS (En6 [c90.to]) (loopAt Tryd.f59 0) 28 [0, 13, 14, 15] [ls s r, ls s r, I s.length, I 0] .nil (o59 s r) := by
  have hR : Rests (En6 [c90.to]) none1 := rests mixed (.pure _ .nil)
  refine loop_s hR simp59 none (by intro _ h; cases h) (fun k vs H => H = .nil ∧ vs = [ls s r, ls s r, I s.length, I k] ∧ ∀ i, i < k → 0 ≤ s.getD i i0 ∧ s.getD i i0 < 8) s.length ⟨rfl, rfl, fun i hi => absurd hi (by omega)⟩ (by intro _ h; cases h) ?_
  rintro k vs H hk ⟨rfl, rfl, ha⟩
  by_cases hz : (k : Int) < s.length
  · have hz' : k < s.length := by omega
    have hri := rok_idx hr hz'
    have ev0 := wj1 (j := k) (by omega)
    have bad : ∀ (h : ¬ (0 ≤ s.getD k i0 ∧ s.getD k i0 < 8)), ¬ Sc8 s := fun h q => h (q.h k hz')
    by_cases x0 : s.getD k i0 < 0
    · have hn := bad (fun h => by omega)
      refine ⟨[Ans.o (Orc.b true), Ans.o (Orc.val 17 (AV.cptr (ints (List.drop k s))) H.nil), Ans.o (Orc.val 18 (I (s.getD k i0)) H.nil), Ans.o (Orc.b true)], fun u => of_eq ((↑k : Int) < (↑s.length : Int) ∧ aIndexAddr Tryd.prog (22 : Nat) (AV.sl (ints s) s.length r) (I (↑k : Int)) = some (AV.cptr (ints (List.drop k s))) ∧ aLoad Tryd.prog (3 : Nat) (ints (List.drop k s)) = some (I (s.getD k i0)) ∧ s.getD k i0 < (0 : Int) ∧ (28 : Nat) = (28 : Nat) ∧ hits [Out.mk Unit AX.ret [(2 : Nat)] (fun x => ¬Sc8 s) (fun x => [AV.bool false]) (fun x => H.nil) fun x => [], Out.mk Unit (AX.exit (0 : Nat)) [(0 : Nat)] (fun x => Sc8 s) (fun x => [ls s r]) (fun x => H.nil) fun x => []] AX.ret [AV.sl (ints s) s.length r, u (1 : Nat), AV.bool false, u (3 : Nat), I (s.getD k i0), u (5 : Nat), u (6 : Nat), u (7 : Nat), u (8 : Nat), u (9 : Nat), u (10 : Nat), u (11 : Nat), u (12 : Nat), AV.sl (ints s) s.length r, I (↑s.length : Int), I (↑k : Int), AV.bool true, AV.cptr (ints (List.drop k s)), I (s.getD k i0), I (s.getD k i0), AV.bool true, AV.bool true, AV.tup [], AV.tup [], AV.bool true, u (25 : Nat), u (26 : Nat), u (27 : Nat)] (H.mk [] [] [])) (by kernel_rfl) ?_⟩
      refine ⟨by first | with_reducible assumption | omega | assumption, ?_⟩
      refine ⟨ix_ints (by kernel_rfl) hz' hri, ?_⟩
      refine ⟨ld_ints (by kernel_rfl) (by kernel_rfl) hz', ?_⟩
      refine ⟨by first | with_reducible assumption | omega | assumption, ?_⟩
      refine ⟨by first | with_reducible assumption | omega | assumption, ?_⟩
      exact .inl ⟨(), hn, rfl, rfl, rfl⟩
    have x0 : 0 ≤ s.getD k i0 := by omega
    by_cases x1 : 8 ≤ s.getD k i0
    · have hn := bad (fun h => by omega)
      refine ⟨[Ans.o (Orc.b true), Ans.o (Orc.val 17 (AV.cptr (ints (List.drop k s))) H.nil), Ans.o (Orc.val 18 (I (s.getD k i0)) H.nil), Ans.o (Orc.b false), Ans.o (Orc.b true)], fun u => of_eq ((↑k : Int) < (↑s.length : Int) ∧ aIndexAddr Tryd.prog (22 : Nat) (AV.sl (ints s) s.length r) (I (↑k : Int)) = some (AV.cptr (ints (List.drop k s))) ∧ aLoad Tryd.prog (3 : Nat) (ints (List.drop k s)) = some (I (s.getD k i0)) ∧ (0 : Int) ≤ s.getD k i0 ∧ (8 : Int) ≤ s.getD k i0 ∧ (28 : Nat) = (28 : Nat) ∧ hits [Out.mk Unit AX.ret [(2 : Nat)] (fun x => ¬Sc8 s) (fun x => [AV.bool false]) (fun x => H.nil) fun x => [], Out.mk Unit (AX.exit (0 : Nat)) [(0 : Nat)] (fun x => Sc8 s) (fun x => [ls s r]) (fun x => H.nil) fun x => []] AX.ret [AV.sl (ints s) s.length r, u (1 : Nat), AV.bool false, u (3 : Nat), I (s.getD k i0), u (5 : Nat), u (6 : Nat), u (7 : Nat), u (8 : Nat), u (9 : Nat), u (10 : Nat), u (11 : Nat), u (12 : Nat), AV.sl (ints s) s.length r, I (↑s.length : Int), I (↑k : Int), AV.bool true, AV.cptr (ints (List.drop k s)), I (s.getD k i0), I (s.getD k i0), AV.bool false, AV.bool false, I (s.getD k i0), AV.bool true, AV.bool true, u (25 : Nat), u (26 : Nat), u (27 : Nat)] (H.mk [] [] [])) (by kernel_rfl) ?_⟩
      refine ⟨by first | with_reducible assumption | omega | assumption, ?_⟩
      refine ⟨ix_ints (by kernel_rfl) hz' hri, ?_⟩
      refine ⟨ld_ints (by kernel_rfl) (by kernel_rfl) hz', ?_⟩
      refine ⟨by first | with_reducible assumption | omega | assumption, ?_⟩
      refine ⟨by first | with_reducible assumption | omega | assumption, ?_⟩
      refine ⟨by first | with_reducible assumption | omega | assumption, ?_⟩
      exact .inl ⟨(), hn, rfl, rfl, rfl⟩
    have x1 : s.getD k i0 < 8 := by omega
    have hk2 := all_succ (q := fun i => 0 ≤ s.getD i i0 ∧ s.getD i i0 < 8) ha ⟨x0, x1⟩
    refine ⟨[Ans.o (Orc.b true), Ans.o (Orc.val 17 (AV.cptr (ints (List.drop k s))) H.nil), Ans.o (Orc.val 18 (I (s.getD k i0)) H.nil), Ans.o (Orc.b false), Ans.o (Orc.b false), Ans.o (Orc.val 25 (I (↑(k + (1 : Nat)) : Int)) H.nil)], fun u => of_eq ((↑k : Int) < (↑s.length : Int) ∧ aIndexAddr Tryd.prog (22 : Nat) (AV.sl (ints s) s.length r) (I (↑k : Int)) = some (AV.cptr (ints (List.drop k s))) ∧ aLoad Tryd.prog (3 : Nat) (ints (List.drop k s)) = some (I (s.getD k i0)) ∧ (0 : Int) ≤ s.getD k i0 ∧ s.getD k i0 < (8 : Int) ∧ aBin Tryd.prog BinOp.add (3 : Nat) (I (↑k : Int)) (I 1) = some (I (↑(k + (1 : Nat)) : Int)) ∧ (28 : Nat) = (28 : Nat) ∧ k < s.length ∧ Keep (H.mk [] [] [] = H.mk [] [] [] ∧ [AV.sl (ints s) s.length r, AV.sl (ints s) s.length r, I (↑s.length : Int), I (↑(k + (1 : Nat)) : Int)] = [AV.sl (ints s) s.length r, AV.sl (ints s) s.length r, I (↑s.length : Int), I (↑(k + (1 : Nat)) : Int)] ∧ ∀ (i : Nat), i < k + (1 : Nat) → (0 : Int) ≤ s.getD i i0 ∧ s.getD i i0 < (8 : Int))) (by kernel_rfl) ?_⟩
    refine ⟨by first | with_reducible assumption | omega | assumption, ?_⟩
    refine ⟨ix_ints (by kernel_rfl) hz' hri, ?_⟩
    refine ⟨ld_ints (by kernel_rfl) (by kernel_rfl) hz', ?_⟩
    refine ⟨by first | with_reducible assumption | omega | assumption, ?_⟩
    refine ⟨by first | with_reducible assumption | omega | assumption, ?_⟩
    refine ⟨told_add (by with_reducible assumption), ?_⟩
    refine ⟨by first | with_reducible assumption | omega | assumption, ?_⟩
    refine ⟨by first | with_reducible assumption | omega | assumption, ?_⟩
    exact ⟨rfl, rfl, hk2⟩
  · have hz : (s.length : Int) ≤ k := by omega
    have hk' : k = s.length := by omega
    subst hk'
    refine ⟨[Ans.o (Orc.b false)], fun u => of_eq ((↑s.length : Int) ≤ (↑s.length : Int) ∧ (28 : Nat) = (28 : Nat) ∧ hits [Out.mk Unit AX.ret [(2 : Nat)] (fun x => ¬Sc8 s) (fun x => [AV.bool false]) (fun x => H.nil) fun x => [], Out.mk Unit (AX.exit (0 : Nat)) [(0 : Nat)] (fun x => Sc8 s) (fun x => [ls s r]) (fun x => H.nil) fun x => []] (AX.exit (0 : Nat)) [AV.sl (ints s) s.length r, u (1 : Nat), u (2 : Nat), u (3 : Nat), u (4 : Nat), u (5 : Nat), u (6 : Nat), u (7 : Nat), u (8 : Nat), u (9 : Nat), u (10 : Nat), u (11 : Nat), u (12 : Nat), AV.sl (ints s) s.length r, I (↑s.length : Int), I (↑s.length : Int), AV.bool false, u (17 : Nat), u (18 : Nat), u (19 : Nat), u (20 : Nat), u (21 : Nat), u (22 : Nat), u (23 : Nat), u (24 : Nat), u (25 : Nat), u (26 : Nat), u (27 : Nat)] (H.mk [] [] [])) (by kernel_rfl) ?_⟩
    refine ⟨by first | with_reducible assumption | omega | assumption, ?_⟩
    refine ⟨by first | with_reducible assumption | omega | assumption, ?_⟩
    exact .inr (.inl ⟨(), ⟨ha⟩, rfl, rfl, rfl⟩)
/-- scores -/
structure SB (s : List Int) : Prop where
  l1 : 1 ≤ s.length
  l8 : s.length ≤ 8
  c : Sc8 s
  o : Srt s 0
open Classical in
noncomputable def sB (s : List Int) : Bool := decide (SB s)
theorem sB_t {s : List Int} (h : SB s) : sB s = true := by simp only [sB, decide_eq_true_eq]; exact h
theorem sB_f {s : List Int} (h : ¬ SB s) : sB s = false := by simp only [sB, decide_eq_false_iff_not]; exact h
theorem ok59 : FokM Tryd.prog none1 59 Tryd.f59 := ⟨mixed, by kernel_rfl, by kernel_rfl, by kernel_rfl, by kernel_rfl⟩
theorem r59 (s : List Int) (r : Room) (hp : lim s.length ∧ rok s r) : Body ⟨Tryd.prog, Sof (P := Tryd.prog) [c90.to], Pof (P := Tryd.prog) [], H.nil.base, 300⟩ none1 Tryd.f59 [ls s r] .nil (.bool (sB s), .nil) := by
  obtain ⟨h1, hr⟩ := hp
  by_cases c1 : (s.length : Int) < 1
  · rw [sB_f (fun q => by have := q.l1; omega)]
    refine body_s ([Ans.o (Orc.b true)]) ((↑s.length : Int) < (1 : Int) ∧ (AV.bool false, H.mk [] [] []) = (AV.bool false, H.mk [] [] [])) (by kernel_rfl) ?_
    refine ⟨by first | with_reducible assumption | omega | assumption, ?_⟩
    first | with_reducible rfl | (refine bleaf_t ?_; omega) | (refine bleaf_f ?_; omega) | (refine ileaf ?_; omega) | rfl | (exfalso; omega)
  by_cases c2 : (8 : Int) < s.length
  · rw [sB_f (fun q => by have := q.l8; omega)]
    have c1 : 1 ≤ (s.length : Int) := by omega
    refine body_s ([Ans.o (Orc.b false), Ans.o (Orc.b true)]) ((1 : Int) ≤ (↑s.length : Int) ∧ (8 : Int) < (↑s.length : Int) ∧ (AV.bool false, H.mk [] [] []) = (AV.bool false, H.mk [] [] [])) (by kernel_rfl) ?_
    refine ⟨by first | with_reducible assumption | omega | assumption, ?_⟩
    refine ⟨by first | with_reducible assumption | omega | assumption, ?_⟩
    first | with_reducible rfl | (refine bleaf_t ?_; omega) | (refine bleaf_f ?_; omega) | (refine ileaf ?_; omega) | rfl | (exfalso; omega)
  have c1 : 1 ≤ (s.length : Int) := by omega
  have c2 : (s.length : Int) ≤ 8 := by omega
  have lp := lp59 s r hr (by omega)
  have p90 : (1 ≤ s.length ∧ s.length ≤ 8) ∧ rok s r := ⟨⟨by omega, by omega⟩, hr⟩
  by_cases c3 : Srt s 0
  · have hb := srB_t c3
    refine body_s ([Ans.o (Orc.b false), Ans.o (Orc.b false), Ans.loop [(0 : Nat), (13 : Nat), (14 : Nat), (15 : Nat)] [Out.mk Unit AX.ret [(2 : Nat)] (fun x => ¬Sc8 s) (fun x => [AV.bool false]) (fun x => H.nil) fun y => [], Out.mk Unit (AX.exit (0 : Nat)) [(0 : Nat)] (fun x => Sc8 s) (fun x => [ls s r]) (fun x => H.nil) fun y => [Ans.o (Orc.val 27 (AV.bool true) (H.mk [] [] []))]]]) ((1 : Int) ≤ (↑s.length : Int) ∧ (↑s.length : Int) ≤ (8 : Int) ∧ LoopS (Env.mk Tryd.prog (Sof [c90.to]) (Pof (P := Tryd.prog) []) H.nil.base (300 : Nat)) (loopAt Tryd.f59 (0 : Nat)) (28 : Nat) [(0 : Nat), (13 : Nat), (14 : Nat), (15 : Nat)] [AV.sl (ints s) s.length r, AV.sl (ints s) s.length r, I (↑s.length : Int), I 0] (H.mk [] [] []) [Out.mk Unit AX.ret [(2 : Nat)] (fun x => ¬Sc8 s) (fun x => [AV.bool false]) (fun x => H.nil) fun y => [], Out.mk Unit (AX.exit (0 : Nat)) [(0 : Nat)] (fun x => Sc8 s) (fun x => [ls s r]) (fun x => H.nil) fun y => [Ans.o (Orc.val 27 (AV.bool true) (H.mk [] [] []))]] ∧ (∀ (y : Unit), ¬Sc8 s → ∀ (u : Nat → AV), (AV.bool false, H.mk [] [] []) = (AV.bool (sB s), H.mk [] [] [])) ∧ (∀ (y : Unit), Sc8 s → ∀ (u : Nat → AV), aCall (Sof [c90.to]) (AV.fn (Fn.func (90 : Nat)) [] []) [AV.sl (ints s) s.length r] (H.mk [] [] []) = some (AV.bool true, H.mk [] [] []) ∧ (AV.bool true, H.mk [] [] []) = (AV.bool (sB s), H.mk [] [] [])) ∧ True) (by kernel_rfl) ?_
    refine ⟨by first | with_reducible assumption | omega | assumption, ?_⟩
    refine ⟨by first | with_reducible assumption | omega | assumption, ?_⟩
    refine ⟨lp, ?_⟩
    refine And.intro ?_ ?_
    · skip
      intro y
      intro w1
      intro u
      first | rw [sB_t ⟨by omega, by omega, by assumption, c3⟩] | rw [sB_f (fun q => absurd q.c (by assumption))]
    · skip
      refine And.intro ?_ ?_
      · skip
        intro y
        intro w1
        intro u
        refine ⟨acall_b (acall_hit (c := c90.to) (s, r) _ rfl p90) hb, ?_⟩
        first | rw [sB_t ⟨by omega, by omega, by assumption, c3⟩] | rw [sB_f (fun q => absurd q.c (by assumption))]
      · skip
        trivial
  · have hb := srB_f c3
    rw [sB_f (fun q => c3 q.o)]
    refine body_s ([Ans.o (Orc.b false), Ans.o (Orc.b false), Ans.loop [(0 : Nat), (13 : Nat), (14 : Nat), (15 : Nat)] [Out.mk Unit AX.ret [(2 : Nat)] (fun x => ¬Sc8 s) (fun x => [AV.bool false]) (fun x => H.nil) fun y => [], Out.mk Unit (AX.exit (0 : Nat)) [(0 : Nat)] (fun x => Sc8 s) (fun x => [ls s r]) (fun x => H.nil) fun y => [Ans.o (Orc.val 27 (AV.bool false) (H.mk [] [] []))]]]) ((1 : Int) ≤ (↑s.length : Int) ∧ (↑s.length : Int) ≤ (8 : Int) ∧ LoopS (Env.mk Tryd.prog (Sof [c90.to]) (Pof (P := Tryd.prog) []) H.nil.base (300 : Nat)) (loopAt Tryd.f59 (0 : Nat)) (28 : Nat) [(0 : Nat), (13 : Nat), (14 : Nat), (15 : Nat)] [AV.sl (ints s) s.length r, AV.sl (ints s) s.length r, I (↑s.length : Int), I 0] (H.mk [] [] []) [Out.mk Unit AX.ret [(2 : Nat)] (fun x => ¬Sc8 s) (fun x => [AV.bool false]) (fun x => H.nil) fun y => [], Out.mk Unit (AX.exit (0 : Nat)) [(0 : Nat)] (fun x => Sc8 s) (fun x => [ls s r]) (fun x => H.nil) fun y => [Ans.o (Orc.val 27 (AV.bool false) (H.mk [] [] []))]] ∧ (∀ (y : Unit), ¬Sc8 s → ∀ (u : Nat → AV), (AV.bool false, H.mk [] [] []) = (AV.bool false, H.mk [] [] [])) ∧ (∀ (y : Unit), Sc8 s → ∀ (u : Nat → AV), aCall (Sof [c90.to]) (AV.fn (Fn.func (90 : Nat)) [] []) [AV.sl (ints s) s.length r] (H.mk [] [] []) = some (AV.bool false, H.mk [] [] []) ∧ (AV.bool false, H.mk [] [] []) = (AV.bool false, H.mk [] [] [])) ∧ True) (by kernel_rfl) ?_
    refine ⟨by first | with_reducible assumption | omega | assumption, ?_⟩
    refine ⟨by first | with_reducible assumption | omega | assumption, ?_⟩
    refine ⟨lp, ?_⟩
    refine And.intro ?_ ?_
    · skip
      intro y
      intro w1
      intro u
      first | with_reducible rfl | (refine bleaf_t ?_; omega) | (refine bleaf_f ?_; omega) | (refine ileaf ?_; omega) | rfl | (exfalso; omega)
    · skip
      refine And.intro ?_ ?_
      · skip
        intro y
        intro w1
        intro u
        refine ⟨acall_b (acall_hit (c := c90.to) (s, r) _ rfl p90) hb, ?_⟩
        first | with_reducible rfl | (refine bleaf_t ?_; omega) | (refine bleaf_f ?_; omega) | (refine ileaf ?_; omega) | rfl | (exfalso; omega)
      · skip
        trivial
noncomputable def c59 : PCtr Tryd.prog := sctr ok59 (X := List Int × Room) (fun x => [ls x.1 x.2]) (fun x => lim x.1.length ∧ rok x.1 x.2) (fun x => .bool (sB x.1)) (by intro x y e _ _; simp [Int.natCast_inj] at e; simp [e]) (fun x => by simp [AV.bnds, AV.bnd, AV.wk, rm_wk_bnd]) (fun x => by first | rfl | (simp [AV.bnd, rm_wk_bnd]; done)  | (simp [AV.bnd, AV.bnds, rm_wk_bnd]; done) | simp [AV.bnd, AV.bnds, Room.bnd, rm_wk_bnd]) (fun x hx => ⟨_, _, _, .pure c90 (.nil), r59 (x.1) (x.2).wk (by first | exact hx | (simp only [rok_wk]; exact hx) | (simp only [rok_wk, lst_wk]; exact hx) | (simp only [rok_wk, lst_wk, lsn_wk]; exact hx))⟩)
end Go.Proofs.Rnk

