/- Layer 2: the law of scores that can be. -/
import Derived.Test.YtnnhomkkggkkfaaDoorRkBj
import Derived.Test.YtnnhomkkggkkfaaDoorRkK
import Derived.KernelRfl
set_option linter.unusedSimpArgs false
set_option linter.unusedVariables false
set_option linter.unnecessarySimpa false
set_option maxHeartbeats 4000000
set_option maxRecDepth 100000
namespace Go.Proofs.Rnk
open Go Go.VM
open Go.Proofs.Sur (andn andn_bit andn_le i_wrap i_and i_or i_andn i_shl i_shr bit_01)

abbrev sk1 (s : List Int) (i : Nat) : Prop := (0 ≤ s.getD i i0 ∧ s.getD i i0 ≤ 7) ∧ (0 < i → s.getD (i - 1) i0 ≤ s.getD i i0)
structure SK (s : List Int) : Prop where
  h : ∀ i, i < s.length → sk1 s i
theorem SB_iff {s : List Int} : SB s ↔ SK s ∧ 1 ≤ s.length ∧ s.length ≤ 8 := by
  constructor
  · intro h
    refine ⟨⟨fun i hi => ⟨by have := h.c.h i hi; omega, fun h0 => ?_⟩⟩, h.l1, h.l8⟩
    obtain ⟨j, rfl⟩ : ∃ j, i = j + 1 := ⟨i - 1, by omega⟩
    exact h.o.h j (by omega) hi
  · rintro ⟨h, h1, h2⟩
    exact ⟨h1, h2, ⟨fun k hk => by have := (h.h k hk).1; omega⟩, ⟨fun k _ hk => (h.h (k + 1) hk).2 (by omega)⟩⟩
abbrev o25 (s : List Int) (r : Room) : List Out := [.mk Unit .ret [2] (fun _ => ¬ SK s) (fun _ => [.bool false]) (fun _ => .nil) (fun _ => []), .mk Unit (.exit 0) [0] (fun _ => SK s) (fun _ => [ls s r]) (fun _ => .nil) (fun _ => [])]
theorem simp25 : allSimpleM none1 (loopAt Tryd.f25 0) = true := by kernel_rfl
theorem lp25 (s : List Int) (r : Room) (hr : rok s r) (h1 : lim s.length) :
    LoopS (En6 []) (loopAt Tryd.f25 0) 40 [0, 5, 6, 7] [ls s r, ls s r, I s.length, I 0] .nil (o25 s r) := by
  have hR : Rests (En6 []) none1 := rests mixed .nil
  refine loop_s hR simp25 none (by intro _ h; cases h) (fun k vs H => H = .nil ∧ vs = [ls s r, ls s r, I s.length, I k] ∧ ∀ i, i < k → sk1 s i) s.length ⟨rfl, rfl, fun i hi => absurd hi (by omega)⟩ (by intro _ h; cases h) ?_
  rintro k vs H hk ⟨rfl, rfl, ha⟩
  by_cases hz : (k : Int) < s.length
  · have hz' : k < s.length := by omega
    have hri := rok_idx hr hz'
    have ev0 : IntKind.i64.wrap ((k : Int) + 1) = ((k + 1 : Nat) : Int) := by rw [wr _ (by omega) (by simp only [lim] at h1; omega)]; omega
    have bad : ∀ (h : ¬ sk1 s k), ¬ SK s := fun h q => h (q.h k hz')
    by_cases x0 : s.getD k i0 < 0
    · have hn := bad (fun h => by have := h.1; omega)
      refine ⟨[Ans.o (Orc.b true), Ans.o (Orc.val 10 (AV.cptr (ints (List.drop k s))) H.nil), Ans.o (Orc.val 11 (I (s.getD k i0)) H.nil), Ans.o (Orc.b true)], fun u => of_eq ((↑k : Int) < (↑s.length : Int) ∧ aIndexAddr Tryd.prog (22 : Nat) (AV.sl (ints s) s.length r) (I (↑k : Int)) = some (AV.cptr (ints (List.drop k s))) ∧ aLoad Tryd.prog (3 : Nat) (ints (List.drop k s)) = some (I (s.getD k i0)) ∧ s.getD k i0 < (0 : Int) ∧ (40 : Nat) = (40 : Nat) ∧ hits [Out.mk Unit AX.ret [(2 : Nat)] (fun x => ¬SK s) (fun x => [AV.bool false]) (fun x => H.nil) fun x => [], Out.mk Unit (AX.exit (0 : Nat)) [(0 : Nat)] (fun x => SK s) (fun x => [ls s r]) (fun x => H.nil) fun x => []] AX.ret [AV.sl (ints s) s.length r, u (1 : Nat), AV.bool false, I (↑k : Int), I (s.getD k i0), AV.sl (ints s) s.length r, I (↑s.length : Int), I (↑k : Int), AV.bool true, I (↑k : Int), AV.cptr (ints (List.drop k s)), I (s.getD k i0), I (s.getD k i0), AV.bool true, AV.bool true, AV.tup [], AV.tup [], AV.bool true, AV.bool true, AV.tup [], AV.tup [], AV.tup [], AV.tup [], AV.tup [], AV.tup [], AV.tup [], AV.tup [], AV.tup [], AV.tup [], AV.tup [], AV.bool true, u (31 : Nat), u (32 : Nat), u (33 : Nat), u (34 : Nat), u (35 : Nat), u (36 : Nat), u (37 : Nat), u (38 : Nat), u (39 : Nat)] (H.mk [] [] [])) (by kernel_rfl) ?_⟩
      refine ⟨by first | with_reducible assumption | omega | assumption, ?_⟩
      refine ⟨ix_ints (by kernel_rfl) hz' hri, ?_⟩
      refine ⟨ld_ints (by kernel_rfl) (by kernel_rfl) hz', ?_⟩
      refine ⟨by first | with_reducible assumption | omega | assumption, ?_⟩
      refine ⟨by first | with_reducible assumption | omega | assumption, ?_⟩
      exact .inl ⟨(), hn, rfl, rfl, rfl⟩
    have x0 : 0 ≤ s.getD k i0 := by omega
    by_cases x1 : 7 < s.getD k i0
    · have hn := bad (fun h => by have := h.1; omega)
      refine ⟨[Ans.o (Orc.b true), Ans.o (Orc.val 10 (AV.cptr (ints (List.drop k s))) H.nil), Ans.o (Orc.val 11 (I (s.getD k i0)) H.nil), Ans.o (Orc.b false), Ans.o (Orc.b true)], fun u => of_eq ((↑k : Int) < (↑s.length : Int) ∧ aIndexAddr Tryd.prog (22 : Nat) (AV.sl (ints s) s.length r) (I (↑k : Int)) = some (AV.cptr (ints (List.drop k s))) ∧ aLoad Tryd.prog (3 : Nat) (ints (List.drop k s)) = some (I (s.getD k i0)) ∧ (0 : Int) ≤ s.getD k i0 ∧ (7 : Int) < s.getD k i0 ∧ (40 : Nat) = (40 : Nat) ∧ hits [Out.mk Unit AX.ret [(2 : Nat)] (fun x => ¬SK s) (fun x => [AV.bool false]) (fun x => H.nil) fun x => [], Out.mk Unit (AX.exit (0 : Nat)) [(0 : Nat)] (fun x => SK s) (fun x => [ls s r]) (fun x => H.nil) fun x => []] AX.ret [AV.sl (ints s) s.length r, u (1 : Nat), AV.bool false, I (↑k : Int), I (s.getD k i0), AV.sl (ints s) s.length r, I (↑s.length : Int), I (↑k : Int), AV.bool true, I (↑k : Int), AV.cptr (ints (List.drop k s)), I (s.getD k i0), I (s.getD k i0), AV.bool false, AV.bool false, I (s.getD k i0), AV.bool true, AV.bool true, AV.bool true, AV.tup [], AV.tup [], AV.tup [], AV.tup [], AV.tup [], AV.tup [], AV.tup [], AV.tup [], AV.tup [], AV.tup [], AV.tup [], AV.bool true, u (31 : Nat), u (32 : Nat), u (33 : Nat), u (34 : Nat), u (35 : Nat), u (36 : Nat), u (37 : Nat), u (38 : Nat), u (39 : Nat)] (H.mk [] [] [])) (by kernel_rfl) ?_⟩
      refine ⟨by first | with_reducible assumption | omega | assumption, ?_⟩
      refine ⟨ix_ints (by kernel_rfl) hz' hri, ?_⟩
      refine ⟨ld_ints (by kernel_rfl) (by kernel_rfl) hz', ?_⟩
      refine ⟨by first | with_reducible assumption | omega | assumption, ?_⟩
      refine ⟨by first | with_reducible assumption | omega | assumption, ?_⟩
      refine ⟨by first | with_reducible assumption | omega | assumption, ?_⟩
      exact .inl ⟨(), hn, rfl, rfl, rfl⟩
    have x1 : s.getD k i0 ≤ 7 := by omega
    match k, hz, hz', hri, ev0, ha, bad, x0, x1 with
    | 0, hz, hz', hri, ev0, ha, bad, x0, x1 =>
      have hk2 := all_succ (q := sk1 s) ha ⟨⟨x0, x1⟩, fun h => absurd h (by omega)⟩
      have hz0 : (0 : Int) < (s.length : Int) := hz
      refine ⟨[Ans.o (Orc.b true), Ans.o (Orc.val 10 (AV.cptr (ints (List.drop (0 : Nat) s))) H.nil), Ans.o (Orc.val 11 (I (s.getD (0 : Nat) i0)) H.nil), Ans.o (Orc.b false), Ans.o (Orc.b false), Ans.o Orc.dflt], fun u => of_eq ((0 : Int) < (↑s.length : Int) ∧ aIndexAddr Tryd.prog (22 : Nat) (AV.sl (ints s) s.length r) (I 0) = some (AV.cptr (ints (List.drop (0 : Nat) s))) ∧ aLoad Tryd.prog (3 : Nat) (ints (List.drop (0 : Nat) s)) = some (I (s.getD (0 : Nat) i0)) ∧ (0 : Int) ≤ s.getD (0 : Nat) i0 ∧ s.getD (0 : Nat) i0 ≤ (7 : Int) ∧ IntKind.i64.wrap (1 : Int) = (1 : Int) ∧ (40 : Nat) = (40 : Nat) ∧ (0 : Nat) < s.length ∧ Keep (H.mk [] [] [] = H.mk [] [] [] ∧ [AV.sl (ints s) s.length r, AV.sl (ints s) s.length r, I (↑s.length : Int), I 1] = [AV.sl (ints s) s.length r, AV.sl (ints s) s.length r, I (↑s.length : Int), I 1] ∧ ∀ (i : Nat), i < (0 : Nat) + (1 : Nat) → sk1 s i)) (by kernel_rfl) ?_⟩
      refine ⟨by first | with_reducible assumption | omega | assumption, ?_⟩
      refine ⟨ix_ints (by kernel_rfl) hz' hri, ?_⟩
      refine ⟨ld_ints (by kernel_rfl) (by kernel_rfl) hz', ?_⟩
      refine ⟨by first | with_reducible assumption | omega | assumption, ?_⟩
      refine ⟨by first | with_reducible assumption | omega | assumption, ?_⟩
      refine ⟨wr _ (by omega) (by omega), ?_⟩
      refine ⟨by first | with_reducible assumption | omega | assumption, ?_⟩
      refine ⟨by first | with_reducible assumption | omega | assumption, ?_⟩
      exact ⟨rfl, rfl, hk2⟩
    | k + 1, hz, hz', hri, ev0, ha, bad, x0, x1 =>
      have c0 : (0 : Int) < ((k + 1 : Nat) : Int) := by omega
      have hzk : k < s.length := by omega
      have ev1 : IntKind.i64.wrap (((k + 1 : Nat) : Int) - 1) = ((k : Nat) : Int) := by rw [wr _ (by omega) (by simp only [lim] at h1; omega)]; omega
      by_cases x2 : s.getD (k + 1) i0 < s.getD k i0
      · have hn := bad (fun h => by have := h.2 (by omega); rw [Nat.add_sub_cancel] at this; omega)
        refine ⟨[Ans.o (Orc.b true), Ans.o (Orc.val 10 (AV.cptr (ints (List.drop (k + (1 : Nat)) s))) H.nil), Ans.o (Orc.val 11 (I (s.getD (k + (1 : Nat)) i0)) H.nil), Ans.o (Orc.b false), Ans.o (Orc.b false), Ans.o (Orc.b true), Ans.o (Orc.val 24 (I (↑k : Int)) H.nil), Ans.o (Orc.val 25 (AV.cptr (ints (List.drop k s))) H.nil), Ans.o (Orc.val 26 (I (s.getD k i0)) H.nil), Ans.o (Orc.b true)], fun u => of_eq ((↑(k + (1 : Nat)) : Int) < (↑s.length : Int) ∧ aIndexAddr Tryd.prog (22 : Nat) (AV.sl (ints s) s.length r) (I (↑(k + (1 : Nat)) : Int)) = some (AV.cptr (ints (List.drop (k + (1 : Nat)) s))) ∧ aLoad Tryd.prog (3 : Nat) (ints (List.drop (k + (1 : Nat)) s)) = some (I (s.getD (k + (1 : Nat)) i0)) ∧ (0 : Int) ≤ s.getD (k + (1 : Nat)) i0 ∧ s.getD (k + (1 : Nat)) i0 ≤ (7 : Int) ∧ (0 : Int) < (↑(k + (1 : Nat)) : Int) ∧ aBin Tryd.prog BinOp.sub (3 : Nat) (I (↑(k + (1 : Nat)) : Int)) (I 1) = some (I (↑k : Int)) ∧ aIndexAddr Tryd.prog (22 : Nat) (AV.sl (ints s) s.length r) (I (↑k : Int)) = some (AV.cptr (ints (List.drop k s))) ∧ aLoad Tryd.prog (3 : Nat) (ints (List.drop k s)) = some (I (s.getD k i0)) ∧ s.getD (k + (1 : Nat)) i0 < s.getD k i0 ∧ (40 : Nat) = (40 : Nat) ∧ hits [Out.mk Unit AX.ret [(2 : Nat)] (fun x => ¬SK s) (fun x => [AV.bool false]) (fun x => H.nil) fun x => [], Out.mk Unit (AX.exit (0 : Nat)) [(0 : Nat)] (fun x => SK s) (fun x => [ls s r]) (fun x => H.nil) fun x => []] AX.ret [AV.sl (ints s) s.length r, u (1 : Nat), AV.bool false, I (↑(k + (1 : Nat)) : Int), I (s.getD (k + (1 : Nat)) i0), AV.sl (ints s) s.length r, I (↑s.length : Int), I (↑(k + (1 : Nat)) : Int), AV.bool true, I (↑(k + (1 : Nat)) : Int), AV.cptr (ints (List.drop (k + (1 : Nat)) s)), I (s.getD (k + (1 : Nat)) i0), I (s.getD (k + (1 : Nat)) i0), AV.bool false, AV.bool false, I (s.getD (k + (1 : Nat)) i0), AV.bool false, AV.bool false, AV.bool false, I (↑(k + (1 : Nat)) : Int), AV.bool true, AV.bool true, AV.sl (ints s) s.length r, I (↑(k + (1 : Nat)) : Int), I (↑k : Int), AV.cptr (ints (List.drop k s)), I (s.getD k i0), I (s.getD (k + (1 : Nat)) i0), AV.bool true, AV.bool true, AV.bool true, u (31 : Nat), u (32 : Nat), u (33 : Nat), u (34 : Nat), u (35 : Nat), u (36 : Nat), u (37 : Nat), u (38 : Nat), u (39 : Nat)] (H.mk [] [] [])) (by kernel_rfl) ?_⟩
        refine ⟨by first | with_reducible assumption | omega | assumption, ?_⟩
        refine ⟨by first | exact ix_ints (by kernel_rfl) hz' hri | exact ix_ints (by kernel_rfl) hzk hri, ?_⟩
        refine ⟨by first | exact ld_ints (by kernel_rfl) (by kernel_rfl) hz' | exact ld_ints (by kernel_rfl) (by kernel_rfl) hzk, ?_⟩
        refine ⟨by first | with_reducible assumption | omega | assumption, ?_⟩
        refine ⟨by first | with_reducible assumption | omega | assumption, ?_⟩
        refine ⟨by first | with_reducible assumption | omega | assumption, ?_⟩
        refine ⟨told_sub (by with_reducible assumption), ?_⟩
        refine ⟨by first | exact ix_ints (by kernel_rfl) hz' hri | exact ix_ints (by kernel_rfl) hzk hri, ?_⟩
        refine ⟨by first | exact ld_ints (by kernel_rfl) (by kernel_rfl) hz' | exact ld_ints (by kernel_rfl) (by kernel_rfl) hzk, ?_⟩
        refine ⟨by first | with_reducible assumption | omega | assumption, ?_⟩
        refine ⟨by first | with_reducible assumption | omega | assumption, ?_⟩
        exact .inl ⟨(), hn, rfl, rfl, rfl⟩
      · have x2 : s.getD k i0 ≤ s.getD (k + 1) i0 := by omega
        have hk2 := all_succ (q := sk1 s) ha ⟨⟨x0, x1⟩, fun _ => by rw [Nat.add_sub_cancel]; exact x2⟩
        refine ⟨[Ans.o (Orc.b true), Ans.o (Orc.val 10 (AV.cptr (ints (List.drop (k + (1 : Nat)) s))) H.nil), Ans.o (Orc.val 11 (I (s.getD (k + (1 : Nat)) i0)) H.nil), Ans.o (Orc.b false), Ans.o (Orc.b false), Ans.o (Orc.b true), Ans.o (Orc.val 24 (I (↑k : Int)) H.nil), Ans.o (Orc.val 25 (AV.cptr (ints (List.drop k s))) H.nil), Ans.o (Orc.val 26 (I (s.getD k i0)) H.nil), Ans.o (Orc.b false), Ans.o (Orc.val 31 (I (↑(k + (1 : Nat) + (1 : Nat)) : Int)) H.nil)], fun u => of_eq ((↑(k + (1 : Nat)) : Int) < (↑s.length : Int) ∧ aIndexAddr Tryd.prog (22 : Nat) (AV.sl (ints s) s.length r) (I (↑(k + (1 : Nat)) : Int)) = some (AV.cptr (ints (List.drop (k + (1 : Nat)) s))) ∧ aLoad Tryd.prog (3 : Nat) (ints (List.drop (k + (1 : Nat)) s)) = some (I (s.getD (k + (1 : Nat)) i0)) ∧ (0 : Int) ≤ s.getD (k + (1 : Nat)) i0 ∧ s.getD (k + (1 : Nat)) i0 ≤ (7 : Int) ∧ (0 : Int) < (↑(k + (1 : Nat)) : Int) ∧ aBin Tryd.prog BinOp.sub (3 : Nat) (I (↑(k + (1 : Nat)) : Int)) (I 1) = some (I (↑k : Int)) ∧ aIndexAddr Tryd.prog (22 : Nat) (AV.sl (ints s) s.length r) (I (↑k : Int)) = some (AV.cptr (ints (List.drop k s))) ∧ aLoad Tryd.prog (3 : Nat) (ints (List.drop k s)) = some (I (s.getD k i0)) ∧ s.getD k i0 ≤ s.getD (k + (1 : Nat)) i0 ∧ aBin Tryd.prog BinOp.add (3 : Nat) (I (↑(k + (1 : Nat)) : Int)) (I 1) = some (I (↑(k + (1 : Nat) + (1 : Nat)) : Int)) ∧ (40 : Nat) = (40 : Nat) ∧ k + (1 : Nat) < s.length ∧ Keep (H.mk [] [] [] = H.mk [] [] [] ∧ [AV.sl (ints s) s.length r, AV.sl (ints s) s.length r, I (↑s.length : Int), I (↑(k + (1 : Nat) + (1 : Nat)) : Int)] = [AV.sl (ints s) s.length r, AV.sl (ints s) s.length r, I (↑s.length : Int), I (↑(k + (1 : Nat) + (1 : Nat)) : Int)] ∧ ∀ (i : Nat), i < k + (1 : Nat) + (1 : Nat) → sk1 s i)) (by kernel_rfl) ?_⟩
        refine ⟨by first | with_reducible assumption | omega | assumption, ?_⟩
        refine ⟨by first | exact ix_ints (by kernel_rfl) hz' hri | exact ix_ints (by kernel_rfl) hzk hri, ?_⟩
        refine ⟨by first | exact ld_ints (by kernel_rfl) (by kernel_rfl) hz' | exact ld_ints (by kernel_rfl) (by kernel_rfl) hzk, ?_⟩
        refine ⟨by first | with_reducible assumption | omega | assumption, ?_⟩
        refine ⟨by first | with_reducible assumption | omega | assumption, ?_⟩
        refine ⟨by first | with_reducible assumption | omega | assumption, ?_⟩
        refine ⟨told_sub (by with_reducible assumption), ?_⟩
        refine ⟨by first | exact ix_ints (by kernel_rfl) hz' hri | exact ix_ints (by kernel_rfl) hzk hri, ?_⟩
        refine ⟨by first | exact ld_ints (by kernel_rfl) (by kernel_rfl) hz' | exact ld_ints (by kernel_rfl) (by kernel_rfl) hzk, ?_⟩
        refine ⟨by first | with_reducible assumption | omega | assumption, ?_⟩
        refine ⟨told_add (by with_reducible assumption), ?_⟩
        refine ⟨by first | with_reducible assumption | omega | assumption, ?_⟩
        refine ⟨by first | with_reducible assumption | omega | assumption, ?_⟩
        exact ⟨rfl, rfl, hk2⟩
  · have hz : (s.length : Int) ≤ k := by omega
    have hk' : k = s.length := by omega
    subst hk'
    refine ⟨[Ans.o (Orc.b false)], fun u => of_eq ((↑s.length : Int) ≤ (↑s.length : Int) ∧ (40 : Nat) = (40 : Nat) ∧ hits [Out.mk Unit AX.ret [(2 : Nat)] (fun x => ¬SK s) (fun x => [AV.bool false]) (fun x => H.nil) fun x => [], Out.mk Unit (AX.exit (0 : Nat)) [(0 : Nat)] (fun x => SK s) (fun x => [ls s r]) (fun x => H.nil) fun x => []] (AX.exit (0 : Nat)) [AV.sl (ints s) s.length r, u (1 : Nat), u (2 : Nat), u (3 : Nat), u (4 : Nat), AV.sl (ints s) s.length r, I (↑s.length : Int), I (↑s.length : Int), AV.bool false, u (9 : Nat), u (10 : Nat), u (11 : Nat), u (12 : Nat), u (13 : Nat), u (14 : Nat), u (15 : Nat), u (16 : Nat), u (17 : Nat), u (18 : Nat), u (19 : Nat), u (20 : Nat), u (21 : Nat), u (22 : Nat), u (23 : Nat), u (24 : Nat), u (25 : Nat), u (26 : Nat), u (27 : Nat), u (28 : Nat), u (29 : Nat), u (30 : Nat), u (31 : Nat), u (32 : Nat), u (33 : Nat), u (34 : Nat), u (35 : Nat), u (36 : Nat), u (37 : Nat), u (38 : Nat), u (39 : Nat)] (H.mk [] [] [])) (by kernel_rfl) ?_⟩
    refine ⟨by first | with_reducible assumption | omega | assumption, ?_⟩
    refine ⟨by first | with_reducible assumption | omega | assumption, ?_⟩
    exact .inr (.inl ⟨(), ⟨ha⟩, rfl, rfl, rfl⟩)
theorem ok25 : FokM Tryd.prog none1 25 Tryd.f25 := ⟨mixed, by kernel_rfl, by kernel_rfl, by kernel_rfl, by kernel_rfl⟩
theorem r25 (s : List Int) (r : Room) (hp : lim s.length ∧ rok s r) : Body ⟨Tryd.prog, Sof (P := Tryd.prog) [], Pof (P := Tryd.prog) [], H.nil.base, 300⟩ none1 Tryd.f25 [ls s r] .nil (.bool (sB s), .nil) := by
  obtain ⟨h1, hr⟩ := hp
  have lp := lp25 s r hr h1
  by_cases c1 : (1 : Int) ≤ s.length
  · by_cases c2 : (s.length : Int) ≤ 8
    · refine body_s ([Ans.loop [(0 : Nat), (5 : Nat), (6 : Nat), (7 : Nat)] [Out.mk Unit AX.ret [(2 : Nat)] (fun x => ¬SK s) (fun x => [AV.bool false]) (fun x => H.nil) fun y => [], Out.mk Unit (AX.exit (0 : Nat)) [(0 : Nat)] (fun x => SK s) (fun x => [ls s r]) (fun x => H.nil) fun y => [Ans.o (Orc.b true), Ans.o (Orc.b true)]]]) (LoopS (Env.mk Tryd.prog (Sof (P := Tryd.prog) []) (Pof (P := Tryd.prog) []) H.nil.base (300 : Nat)) (loopAt Tryd.f25 (0 : Nat)) (40 : Nat) [(0 : Nat), (5 : Nat), (6 : Nat), (7 : Nat)] [AV.sl (ints s) s.length r, AV.sl (ints s) s.length r, I (↑s.length : Int), I 0] (H.mk [] [] []) [Out.mk Unit AX.ret [(2 : Nat)] (fun x => ¬SK s) (fun x => [AV.bool false]) (fun x => H.nil) fun y => [], Out.mk Unit (AX.exit (0 : Nat)) [(0 : Nat)] (fun x => SK s) (fun x => [ls s r]) (fun x => H.nil) fun y => [Ans.o (Orc.b true), Ans.o (Orc.b true)]] ∧ (∀ (y : Unit), ¬SK s → ∀ (u : Nat → AV), (AV.bool false, H.mk [] [] []) = (AV.bool (sB s), H.mk [] [] [])) ∧ (∀ (y : Unit), SK s → ∀ (u : Nat → AV), (1 : Int) ≤ (↑s.length : Int) ∧ (↑s.length : Int) ≤ (8 : Int) ∧ (AV.bool true, H.mk [] [] []) = (AV.bool (sB s), H.mk [] [] [])) ∧ True) (by kernel_rfl) ?_
      refine ⟨lp, ?_⟩
      refine And.intro ?_ ?_
      · skip
        intro y
        intro w1
        intro u
        first | rw [sB_t (SB_iff.2 ⟨by assumption, by omega, by omega⟩)] | rw [sB_f (fun q => absurd (SB_iff.1 q).1 (by assumption))]
      · skip
        refine And.intro ?_ ?_
        · skip
          intro y
          intro w1
          intro u
          refine ⟨by first | with_reducible assumption | omega | assumption, ?_⟩
          refine ⟨by first | with_reducible assumption | omega | assumption, ?_⟩
          first | rw [sB_t (SB_iff.2 ⟨by assumption, by omega, by omega⟩)] | rw [sB_f (fun q => absurd (SB_iff.1 q).1 (by assumption))]
        · skip
          trivial
    · rw [sB_f (fun q => by have := q.l8; omega)]
      have c2 : (8 : Int) < s.length := by omega
      refine body_s ([Ans.loop [(0 : Nat), (5 : Nat), (6 : Nat), (7 : Nat)] [Out.mk Unit AX.ret [(2 : Nat)] (fun x => ¬SK s) (fun x => [AV.bool false]) (fun x => H.nil) fun y => [], Out.mk Unit (AX.exit (0 : Nat)) [(0 : Nat)] (fun x => SK s) (fun x => [ls s r]) (fun x => H.nil) fun y => [Ans.o (Orc.b true), Ans.o (Orc.b false)]]]) (LoopS (Env.mk Tryd.prog (Sof (P := Tryd.prog) []) (Pof (P := Tryd.prog) []) H.nil.base (300 : Nat)) (loopAt Tryd.f25 (0 : Nat)) (40 : Nat) [(0 : Nat), (5 : Nat), (6 : Nat), (7 : Nat)] [AV.sl (ints s) s.length r, AV.sl (ints s) s.length r, I (↑s.length : Int), I 0] (H.mk [] [] []) [Out.mk Unit AX.ret [(2 : Nat)] (fun x => ¬SK s) (fun x => [AV.bool false]) (fun x => H.nil) fun y => [], Out.mk Unit (AX.exit (0 : Nat)) [(0 : Nat)] (fun x => SK s) (fun x => [ls s r]) (fun x => H.nil) fun y => [Ans.o (Orc.b true), Ans.o (Orc.b false)]] ∧ (∀ (y : Unit), ¬SK s → ∀ (u : Nat → AV), (AV.bool false, H.mk [] [] []) = (AV.bool false, H.mk [] [] [])) ∧ (∀ (y : Unit), SK s → ∀ (u : Nat → AV), (1 : Int) ≤ (↑s.length : Int) ∧ (8 : Int) < (↑s.length : Int) ∧ (AV.bool false, H.mk [] [] []) = (AV.bool false, H.mk [] [] [])) ∧ True) (by kernel_rfl) ?_
      refine ⟨lp, ?_⟩
      refine And.intro ?_ ?_
      · skip
        intro y
        intro w1
        intro u
        first | with_reducible rfl | (refine bleaf_t ?_; omega) | (refine bleaf_f ?_; omega) | (refine ileaf ?_; omega) | rfl | (exfalso; omega)
      · skip
        refine And.intro ?_ ?_
        · skip
          intro y
          intro w1
          intro u
          refine ⟨by first | with_reducible assumption | omega | assumption, ?_⟩
          refine ⟨by first | with_reducible assumption | omega | assumption, ?_⟩
          first | with_reducible rfl | (refine bleaf_t ?_; omega) | (refine bleaf_f ?_; omega) | (refine ileaf ?_; omega) | rfl | (exfalso; omega)
        · skip
          trivial
  · rw [sB_f (fun q => by have := q.l1; omega)]
    have c1 : (s.length : Int) < 1 := by omega
    refine body_s ([Ans.loop [(0 : Nat), (5 : Nat), (6 : Nat), (7 : Nat)] [Out.mk Unit AX.ret [(2 : Nat)] (fun x => ¬SK s) (fun x => [AV.bool false]) (fun x => H.nil) fun y => [], Out.mk Unit (AX.exit (0 : Nat)) [(0 : Nat)] (fun x => SK s) (fun x => [ls s r]) (fun x => H.nil) fun y => [Ans.o (Orc.b false)]]]) (LoopS (Env.mk Tryd.prog (Sof (P := Tryd.prog) []) (Pof (P := Tryd.prog) []) H.nil.base (300 : Nat)) (loopAt Tryd.f25 (0 : Nat)) (40 : Nat) [(0 : Nat), (5 : Nat), (6 : Nat), (7 : Nat)] [AV.sl (ints s) s.length r, AV.sl (ints s) s.length r, I (↑s.length : Int), I 0] (H.mk [] [] []) [Out.mk Unit AX.ret [(2 : Nat)] (fun x => ¬SK s) (fun x => [AV.bool false]) (fun x => H.nil) fun y => [], Out.mk Unit (AX.exit (0 : Nat)) [(0 : Nat)] (fun x => SK s) (fun x => [ls s r]) (fun x => H.nil) fun y => [Ans.o (Orc.b false)]] ∧ (∀ (y : Unit), ¬SK s → ∀ (u : Nat → AV), (AV.bool false, H.mk [] [] []) = (AV.bool false, H.mk [] [] [])) ∧ (∀ (y : Unit), SK s → ∀ (u : Nat → AV), (↑s.length : Int) < (1 : Int) ∧ (AV.bool false, H.mk [] [] []) = (AV.bool false, H.mk [] [] [])) ∧ True) (by kernel_rfl) ?_
    refine ⟨lp, ?_⟩
    refine And.intro ?_ ?_
    · skip
      intro y
      intro w1
      intro u
      first | with_reducible rfl | (refine bleaf_t ?_; omega) | (refine bleaf_f ?_; omega) | (refine ileaf ?_; omega) | rfl | (exfalso; omega)
    · skip
      refine And.intro ?_ ?_
      · skip
        intro y
        intro w1
        intro u
        refine ⟨by first | with_reducible assumption | omega | assumption, ?_⟩
        first | with_reducible rfl | (refine bleaf_t ?_; omega) | (refine bleaf_f ?_; omega) | (refine ileaf ?_; omega) | rfl | (exfalso; omega)
      · skip
        trivial
noncomputable def c25 : PCtr Tryd.prog := sctr ok25 (X := List Int × Room) (fun x => [ls x.1 x.2]) (fun x => lim x.1.length ∧ rok x.1 x.2) (fun x => .bool (sB x.1)) (by intro x y e _ _; simp [Int.natCast_inj] at e; simp [e]) (fun x => by simp [AV.bnds, AV.bnd, AV.wk, rm_wk_bnd]) (fun x => by first | rfl | (simp [AV.bnd, rm_wk_bnd]; done)  | (simp [AV.bnd, AV.bnds, rm_wk_bnd]; done) | simp [AV.bnd, AV.bnds, Room.bnd, rm_wk_bnd]) (fun x hx => ⟨_, _, _, .nil, r25 (x.1) (x.2).wk (by first | exact hx | (simp only [rok_wk]; exact hx) | (simp only [rok_wk, lst_wk]; exact hx) | (simp only [rok_wk, lst_wk, lsn_wk]; exact hx))⟩)
/-- the law's sums -/
def lanV (s : List Int) : Nat → Bool
  | 0 => true
  | k + 1 => lanV s k && decide (gm (k + 1) ≤ ws s (k + 1))
theorem lanV_iff {s : List Int} : ∀ k, lanV s k = true ↔ ∀ i, i < k → gm (i + 1) ≤ ws s (i + 1)
  | 0 => by simp [lanV]
  | k + 1 => by
    rw [lanV, Bool.and_eq_true, lanV_iff k, decide_eq_true_eq]
    constructor
    · rintro ⟨h1, h2⟩; exact all_succ (q := fun i => gm (i + 1) ≤ ws s (i + 1)) h1 h2
    · intro h; exact ⟨fun i hi => h i (by omega), h k (by omega)⟩
theorem gm2 : ∀ k : Nat, 2 * gm (k + 1) = ((k : Int) + 1) * k
  | 0 => by simp [gm]
  | k + 1 => by
    have ih := gm2 k
    have e : gm (k + 1 + 1) = gm (k + 1) + ((k + 1 : Nat) : Int) := rfl
    rw [e]
    grind
abbrev o9 (s : List Int) (r : Room) (x : AV) (e : Int) : List Out := [.mk Unit (.exit 0) [0, 3, 4, 5, 6] (fun _ => True) (fun _ => [ls s r, x, I e, I (ws s s.length), .bool (lanV s s.length)]) (fun _ => .nil) (fun _ => [])]
theorem simp9 : allSimpleM none1 (loopAt Tryd.f9 0) = true := by kernel_rfl
/-- 'Scores' of what was made -/
noncomputable def c18x : PCtr Tryd.prog where
  f := 18
  X := (List Int × Nat) × Room
  args x := [.sl (ints x.1.1) x.1.2 x.2]
  pre x := x.1.1.length = x.1.2 ∧ Tn x.1.1 ∧ rok x.1.1 x.2
  v x := .tup [.sl (ints (srt x.1.1)) x.1.2 .full, I 0]
  det := by
    rintro ⟨⟨l, n⟩, r⟩ ⟨⟨l', n'⟩, r'⟩ e _ _
    simp only [List.cons.injEq, AV.sl.injEq, and_true] at e
    obtain ⟨e1, rfl, _⟩ := e
    rw [ints_inj e1]
  ok := by
    rintro ⟨⟨l, n⟩, r⟩ ⟨h1, h2, h3⟩
    simp only at h1 h2 h3
    subst h1
    exact c18t.ok (l, r) ⟨h2, h3⟩
/-- 'Equal' of the same lists -/
noncomputable def c22h : PCtr Tryd.prog where
  f := 22
  X := (List Int × Nat × Room) × List Int × Nat × Room
  args x := [.sl (ints x.1.1) x.1.2.1 x.1.2.2, .sl (ints x.2.1) x.2.2.1 x.2.2.2]
  pre x := (x.1.1 = x.2.1 ∧ x.1.1.length = x.1.2.1 ∧ x.2.1.length = x.2.2.1) ∧ lim x.1.1.length ∧ rok x.1.1 x.1.2.2 ∧ rok x.2.1 x.2.2.2
  v _ := .bool true
  det := by intro x y e _ _; rfl
  ok := by
    rintro ⟨⟨l, n, r⟩, m, k, s⟩ ⟨⟨h1, h2, h3⟩, h4, h5, h6⟩
    simp only at h1 h2 h3 h4 h5 h6
    subst h1 h2
    subst h3
    exact c22.ok (l, r, l, s) ⟨rfl, h4, h5, h6⟩
noncomputable abbrev cs9 : List (Ctr Tryd.prog) := [c19s.to, c20t.to, c25.to, c18x.to, c22h.to, c24.to]
theorem ct9 : Ctrs Tryd.prog none1 cs9 := .pure _ (.pure _ (.pure _ (.pure _ (.pure _ (.pure _ .nil)))))
theorem lp9 {cs : List (Ctr Tryd.prog)} (hcs : Ctrs Tryd.prog none1 cs) (s : List Int) (r : Room) (hr : rok s r) (h : SB s) (x : AV) (e : Int) :
    LoopS (En6 cs) (loopAt Tryd.f9 0) 93 [0, 3, 4, 5, 6, 34, 35, 36] [ls s r, x, I e, I 0, .bool true, ls s r, I s.length, I 0] .nil (o9 s r x e) := by
  have hR : Rests (En6 cs) none1 := rests mixed hcs
  have h8 := h.l8
  refine loop_s hR simp9 none (by intro _ h; cases h) (fun k vs H => H = .nil ∧ vs = [ls s r, x, I e, I (ws s k), .bool (lanV s k), ls s r, I s.length, I k]) s.length ⟨rfl, rfl⟩ (by intro _ h; cases h) ?_
  rintro k vs H hk ⟨rfl, rfl⟩
  by_cases hz : (k : Int) < s.length
  · have hz' : k < s.length := by omega
    have hri := rok_idx hr hz'
    have ev0 := wj1 (j := k) (by omega)
    have b1 := ws_b h.c (k + 1)
    have b2 := gm_b (k + 1)
    have ev1 : IntKind.i64.wrap (ws s k + s.getD k i0) = ws s (k + 1) := by show _ = ws s k + s.getD k i0; exact wr _ (by simp only [ws] at b1; omega) (by simp only [ws] at b1; omega)
    have ev2 : IntKind.i64.wrap (2 * ws s (k + 1)) = 2 * ws s (k + 1) := wr _ (by omega) (by omega)
    have g2 := gm2 k
    have ev3 : IntKind.i64.wrap (((k + 1 : Nat) : Int) * (k : Int)) = 2 * gm (k + 1) := by
      have e : ((k + 1 : Nat) : Int) * (k : Int) = 2 * gm (k + 1) := by rw [g2]; push_cast; rfl
      rw [e]; exact wr _ (by omega) (by omega)
    cases hv : lanV s k
    · have hk1 : lanV s (k + 1) = false := by rw [lanV, hv]; rfl
      refine ⟨[Ans.o (Orc.b true), Ans.o (Orc.val 39 (AV.cptr (ints (List.drop k s))) H.nil), Ans.o (Orc.val 40 (I (s.getD k i0)) H.nil), Ans.o (Orc.val 43 (I (ws s (k + (1 : Nat)))) H.nil), Ans.o (Orc.val 54 (I (↑(k + (1 : Nat)) : Int)) H.nil)], fun u => of_eq ((↑k : Int) < (↑s.length : Int) ∧ aIndexAddr Tryd.prog (22 : Nat) (AV.sl (ints s) s.length r) (I (↑k : Int)) = some (AV.cptr (ints (List.drop k s))) ∧ aLoad Tryd.prog (3 : Nat) (ints (List.drop k s)) = some (I (s.getD k i0)) ∧ aBin Tryd.prog BinOp.add (3 : Nat) (I (ws s k)) (I (s.getD k i0)) = some (I (ws s (k + (1 : Nat)))) ∧ aBin Tryd.prog BinOp.add (3 : Nat) (I (↑k : Int)) (I 1) = some (I (↑(k + (1 : Nat)) : Int)) ∧ (93 : Nat) = (93 : Nat) ∧ k < s.length ∧ Keep (H.mk [] [] [] = H.mk [] [] [] ∧ [AV.sl (ints s) s.length r, x, I e, I (ws s (k + (1 : Nat))), AV.bool false, AV.sl (ints s) s.length r, I (↑s.length : Int), I (↑(k + (1 : Nat)) : Int)] = [AV.sl (ints s) s.length r, x, I e, I (ws s (k + (1 : Nat))), AV.bool (lanV s (k + (1 : Nat))), AV.sl (ints s) s.length r, I (↑s.length : Int), I (↑(k + (1 : Nat)) : Int)])) (by kernel_rfl) ?_⟩
      refine ⟨by first | with_reducible assumption | omega | assumption, ?_⟩
      refine ⟨ix_ints (by kernel_rfl) hz' hri, ?_⟩
      refine ⟨ld_ints (by kernel_rfl) (by kernel_rfl) hz', ?_⟩
      refine ⟨told_add (by with_reducible assumption), ?_⟩
      refine ⟨told_add (by with_reducible assumption), ?_⟩
      refine ⟨by first | with_reducible assumption | omega | assumption, ?_⟩
      refine ⟨by first | with_reducible assumption | omega | assumption, ?_⟩
      (rw [hk1]; exact ⟨rfl, rfl⟩)
    · by_cases c : 2 * gm (k + 1) ≤ 2 * ws s (k + 1)
      · have hk1 : lanV s (k + 1) = true := by rw [lanV, hv, decide_eq_true (show gm (k + 1) ≤ ws s (k + 1) by omega)]; rfl
        refine ⟨[Ans.o (Orc.b true), Ans.o (Orc.val 39 (AV.cptr (ints (List.drop k s))) H.nil), Ans.o (Orc.val 40 (I (s.getD k i0)) H.nil), Ans.o (Orc.val 43 (I (ws s (k + (1 : Nat)))) H.nil), Ans.o (Orc.val 47 (I ((2 : Int) * ws s (k + (1 : Nat)))) H.nil), Ans.o (Orc.val 49 (I (↑(k + (1 : Nat)) : Int)) H.nil), Ans.o (Orc.val 51 (I ((2 : Int) * gm (k + (1 : Nat)))) H.nil), Ans.o (Orc.b true), Ans.o (Orc.val 54 (I (↑(k + (1 : Nat)) : Int)) H.nil)], fun u => of_eq ((↑k : Int) < (↑s.length : Int) ∧ aIndexAddr Tryd.prog (22 : Nat) (AV.sl (ints s) s.length r) (I (↑k : Int)) = some (AV.cptr (ints (List.drop k s))) ∧ aLoad Tryd.prog (3 : Nat) (ints (List.drop k s)) = some (I (s.getD k i0)) ∧ aBin Tryd.prog BinOp.add (3 : Nat) (I (ws s k)) (I (s.getD k i0)) = some (I (ws s (k + (1 : Nat)))) ∧ aBin Tryd.prog BinOp.mul (3 : Nat) (I 2) (I (ws s (k + (1 : Nat)))) = some (I ((2 : Int) * ws s (k + (1 : Nat)))) ∧ aBin Tryd.prog BinOp.add (3 : Nat) (I (↑k : Int)) (I 1) = some (I (↑(k + (1 : Nat)) : Int)) ∧ aBin Tryd.prog BinOp.mul (3 : Nat) (I (↑(k + (1 : Nat)) : Int)) (I (↑k : Int)) = some (I ((2 : Int) * gm (k + (1 : Nat)))) ∧ (2 : Int) * gm (k + (1 : Nat)) ≤ (2 : Int) * ws s (k + (1 : Nat)) ∧ aBin Tryd.prog BinOp.add (3 : Nat) (I (↑k : Int)) (I 1) = some (I (↑(k + (1 : Nat)) : Int)) ∧ (93 : Nat) = (93 : Nat) ∧ k < s.length ∧ Keep (H.mk [] [] [] = H.mk [] [] [] ∧ [AV.sl (ints s) s.length r, x, I e, I (ws s (k + (1 : Nat))), AV.bool true, AV.sl (ints s) s.length r, I (↑s.length : Int), I (↑(k + (1 : Nat)) : Int)] = [AV.sl (ints s) s.length r, x, I e, I (ws s (k + (1 : Nat))), AV.bool (lanV s (k + (1 : Nat))), AV.sl (ints s) s.length r, I (↑s.length : Int), I (↑(k + (1 : Nat)) : Int)])) (by kernel_rfl) ?_⟩
        refine ⟨by first | with_reducible assumption | omega | assumption, ?_⟩
        refine ⟨ix_ints (by kernel_rfl) hz' hri, ?_⟩
        refine ⟨ld_ints (by kernel_rfl) (by kernel_rfl) hz', ?_⟩
        refine ⟨told_add (by with_reducible assumption), ?_⟩
        refine ⟨told_mul (by with_reducible assumption), ?_⟩
        refine ⟨told_add (by with_reducible assumption), ?_⟩
        refine ⟨told_mul (by with_reducible assumption), ?_⟩
        refine ⟨by first | with_reducible assumption | omega | assumption, ?_⟩
        refine ⟨told_add (by with_reducible assumption), ?_⟩
        refine ⟨by first | with_reducible assumption | omega | assumption, ?_⟩
        refine ⟨by first | with_reducible assumption | omega | assumption, ?_⟩
        (rw [hk1]; exact ⟨rfl, rfl⟩)
      · have hk1 : lanV s (k + 1) = false := by rw [lanV, hv, decide_eq_false (show ¬ gm (k + 1) ≤ ws s (k + 1) by omega)]; rfl
        have c : 2 * ws s (k + 1) < 2 * gm (k + 1) := by omega
        refine ⟨[Ans.o (Orc.b true), Ans.o (Orc.val 39 (AV.cptr (ints (List.drop k s))) H.nil), Ans.o (Orc.val 40 (I (s.getD k i0)) H.nil), Ans.o (Orc.val 43 (I (ws s (k + (1 : Nat)))) H.nil), Ans.o (Orc.val 47 (I ((2 : Int) * ws s (k + (1 : Nat)))) H.nil), Ans.o (Orc.val 49 (I (↑(k + (1 : Nat)) : Int)) H.nil), Ans.o (Orc.val 51 (I ((2 : Int) * gm (k + (1 : Nat)))) H.nil), Ans.o (Orc.b false), Ans.o (Orc.val 54 (I (↑(k + (1 : Nat)) : Int)) H.nil)], fun u => of_eq ((↑k : Int) < (↑s.length : Int) ∧ aIndexAddr Tryd.prog (22 : Nat) (AV.sl (ints s) s.length r) (I (↑k : Int)) = some (AV.cptr (ints (List.drop k s))) ∧ aLoad Tryd.prog (3 : Nat) (ints (List.drop k s)) = some (I (s.getD k i0)) ∧ aBin Tryd.prog BinOp.add (3 : Nat) (I (ws s k)) (I (s.getD k i0)) = some (I (ws s (k + (1 : Nat)))) ∧ aBin Tryd.prog BinOp.mul (3 : Nat) (I 2) (I (ws s (k + (1 : Nat)))) = some (I ((2 : Int) * ws s (k + (1 : Nat)))) ∧ aBin Tryd.prog BinOp.add (3 : Nat) (I (↑k : Int)) (I 1) = some (I (↑(k + (1 : Nat)) : Int)) ∧ aBin Tryd.prog BinOp.mul (3 : Nat) (I (↑(k + (1 : Nat)) : Int)) (I (↑k : Int)) = some (I ((2 : Int) * gm (k + (1 : Nat)))) ∧ (2 : Int) * ws s (k + (1 : Nat)) < (2 : Int) * gm (k + (1 : Nat)) ∧ aBin Tryd.prog BinOp.add (3 : Nat) (I (↑k : Int)) (I 1) = some (I (↑(k + (1 : Nat)) : Int)) ∧ (93 : Nat) = (93 : Nat) ∧ k < s.length ∧ Keep (H.mk [] [] [] = H.mk [] [] [] ∧ [AV.sl (ints s) s.length r, x, I e, I (ws s (k + (1 : Nat))), AV.bool false, AV.sl (ints s) s.length r, I (↑s.length : Int), I (↑(k + (1 : Nat)) : Int)] = [AV.sl (ints s) s.length r, x, I e, I (ws s (k + (1 : Nat))), AV.bool (lanV s (k + (1 : Nat))), AV.sl (ints s) s.length r, I (↑s.length : Int), I (↑(k + (1 : Nat)) : Int)])) (by kernel_rfl) ?_⟩
        refine ⟨by first | with_reducible assumption | omega | assumption, ?_⟩
        refine ⟨ix_ints (by kernel_rfl) hz' hri, ?_⟩
        refine ⟨ld_ints (by kernel_rfl) (by kernel_rfl) hz', ?_⟩
        refine ⟨told_add (by with_reducible assumption), ?_⟩
        refine ⟨told_mul (by with_reducible assumption), ?_⟩
        refine ⟨told_add (by with_reducible assumption), ?_⟩
        refine ⟨told_mul (by with_reducible assumption), ?_⟩
        refine ⟨by first | with_reducible assumption | omega | assumption, ?_⟩
        refine ⟨told_add (by with_reducible assumption), ?_⟩
        refine ⟨by first | with_reducible assumption | omega | assumption, ?_⟩
        refine ⟨by first | with_reducible assumption | omega | assumption, ?_⟩
        (rw [hk1]; exact ⟨rfl, rfl⟩)
  · have hz : (s.length : Int) ≤ k := by omega
    have hk' : k = s.length := by omega
    subst hk'
    refine ⟨[Ans.o (Orc.b false)], fun u => of_eq ((↑s.length : Int) ≤ (↑s.length : Int) ∧ (93 : Nat) = (93 : Nat) ∧ hits [Out.mk Unit (AX.exit (0 : Nat)) [(0 : Nat), (3 : Nat), (4 : Nat), (5 : Nat), (6 : Nat)] (fun x => True) (fun x_1 => [ls s r, x, I e, I (ws s s.length), AV.bool (lanV s s.length)]) (fun x => H.nil) fun x => []] (AX.exit (0 : Nat)) [AV.sl (ints s) s.length r, u (1 : Nat), u (2 : Nat), x, I e, I (ws s s.length), AV.bool (lanV s s.length), u (7 : Nat), u (8 : Nat), u (9 : Nat), u (10 : Nat), u (11 : Nat), u (12 : Nat), u (13 : Nat), u (14 : Nat), u (15 : Nat), u (16 : Nat), u (17 : Nat), u (18 : Nat), u (19 : Nat), u (20 : Nat), u (21 : Nat), u (22 : Nat), u (23 : Nat), u (24 : Nat), u (25 : Nat), u (26 : Nat), u (27 : Nat), u (28 : Nat), u (29 : Nat), u (30 : Nat), u (31 : Nat), u (32 : Nat), u (33 : Nat), AV.sl (ints s) s.length r, I (↑s.length : Int), I (↑s.length : Int), AV.bool false, u (38 : Nat), u (39 : Nat), u (40 : Nat), u (41 : Nat), u (42 : Nat), u (43 : Nat), u (44 : Nat), u (45 : Nat), u (46 : Nat), u (47 : Nat), u (48 : Nat), u (49 : Nat), u (50 : Nat), u (51 : Nat), u (52 : Nat), u (53 : Nat), u (54 : Nat), u (55 : Nat), u (56 : Nat), u (57 : Nat), u (58 : Nat), u (59 : Nat), u (60 : Nat), u (61 : Nat), u (62 : Nat), u (63 : Nat), u (64 : Nat), u (65 : Nat), u (66 : Nat), u (67 : Nat), u (68 : Nat), u (69 : Nat), u (70 : Nat), u (71 : Nat), u (72 : Nat), u (73 : Nat), u (74 : Nat), u (75 : Nat), u (76 : Nat), u (77 : Nat), u (78 : Nat), u (79 : Nat), u (80 : Nat), u (81 : Nat), u (82 : Nat), u (83 : Nat), u (84 : Nat), u (85 : Nat), u (86 : Nat), u (87 : Nat), u (88 : Nat), u (89 : Nat), u (90 : Nat), u (91 : Nat), u (92 : Nat)] (H.mk [] [] [])) (by kernel_rfl) ?_⟩
    refine ⟨by first | with_reducible assumption | omega | assumption, ?_⟩
    refine ⟨by first | with_reducible assumption | omega | assumption, ?_⟩
    exact .inl ⟨(), trivial, rfl, rfl, rfl⟩
theorem ok9 : FokM Tryd.prog none1 9 Tryd.f9 := ⟨mixed, by kernel_rfl, by kernel_rfl, by kernel_rfl, by kernel_rfl⟩
theorem cut_SB {s : List Int} (h : ¬ SB s) : ¬ SB (cut s) := fun k => by
  have h8 := k.l8
  have : s.length ≤ 11 := by simp only [cut, List.length_take] at h8; omega
  rw [cut_eq this] at k
  exact h k
theorem rcl_em {l : List Int} {r : Room} : em l (rcl r) := fun e => by cases r <;> cases e
theorem lan_eq {s : List Int} : lanB s = (lanV s s.length && decide (ws s s.length = gm s.length)) := by
  have h1 := @lanB_iff s
  have h2 := @lanV_iff s s.length
  cases c : lanB s
  · cases d : lanV s s.length
    · rfl
    · by_cases e : ws s s.length = gm s.length
      · have := h1.2 ⟨h2.1 d, e⟩; rw [c] at this; cases this
      · rw [decide_eq_false e]; rfl
  · obtain ⟨g1, g2⟩ := h1.1 c
    rw [h2.2 g1, decide_eq_true g2]; rfl
structure LE (s : List Int) : Prop where
  ev1 : IntKind.i64.wrap (2 * ws s s.length) = 2 * ws s s.length
  ev2 : IntKind.i64.wrap ((s.length : Int) - 1) = (s.length : Int) - 1
  ev3 : IntKind.i64.wrap ((s.length : Int) * ((s.length : Int) - 1)) = 2 * gm s.length
theorem le_ok {s : List Int} (h : SB s) : LE s := by
  have h1 := h.l1; have h8 := h.l8
  have b1 := ws_b h.c s.length
  have b2 := gm_b s.length
  refine ⟨wr _ (by omega) (by omega), wr _ (by omega) (by omega), ?_⟩
  obtain ⟨n, hn⟩ : ∃ n, s.length = n + 1 := ⟨s.length - 1, by omega⟩
  have g2 := gm2 n
  rw [hn] at b2 ⊢
  have e : ((n + 1 : Nat) : Int) * (((n + 1 : Nat) : Int) - 1) = 2 * gm (n + 1) := by rw [g2]; push_cast; grind
  rw [e]; exact wr _ (by omega) (by omega)
theorem r9t (s : List Int) (r : Room) (hp : pS8 s r) (h : SB s) (hl : lanB s = true) : Body (En6 cs9) none1 Tryd.f9 [ls s r] .nil (.bool true, .nil) := by
  have h1 := h.l1; have h8 := h.l8
  have hb := sB_t h
  have hg := good_ok h hl
  have hc : cut s = s := cut_eq (by omega)
  have p19 : (lim s.length ∧ rok s r ∧ em s r) ∧ s.length ≤ 11 := ⟨hp, by omega⟩
  have p20 : pS8 s (rcl r) ∧ SB s ∧ lanB s = true := ⟨⟨hp.1, rcl_rok hp.2.1, rcl_em⟩, h, hl⟩
  have p25 : lim s.length ∧ rok s r := ⟨hp.1, hp.2.1⟩
  have p18 : (mkT s).length = s.length ∧ Tn (mkT s) ∧ rok (mkT s) .full := ⟨hg.len, hg.tn, fun _ q => by cases q⟩
  have p22 : (srt (mkT s) = s ∧ (srt (mkT s)).length = s.length ∧ s.length = s.length) ∧ lim (srt (mkT s)).length ∧ rok (srt (mkT s)) .full ∧ rok s r := ⟨⟨hg.so, by rw [hg.so], rfl⟩, by rw [hg.so]; exact hp.1, fun _ q => (by cases q), hp.2.1⟩
  have lp := lp9 ct9 s r hp.2.1 h (.sl (ints (mkT s)) s.length .full) 0
  have hv : lanV s s.length = true := by rw [lan_eq, Bool.and_eq_true] at hl; exact hl.1
  have he : ws s s.length = gm s.length := (lanB_iff.1 hl).2
  simp only [o9, hv] at lp
  obtain ⟨ev1, ev2, ev3⟩ := le_ok h
  have c : 2 * ws s s.length = 2 * gm s.length := by rw [he]
  refine body_s ([Ans.o (Orc.val 13 (AV.sl (ints s) s.length (rcl r)) (H.mk [] [] [])), Ans.o (Orc.val 14 (AV.tup [AV.sl (ints (mkT s)) s.length Room.full, I 0]) (H.mk [] [] [])), Ans.o Orc.dflt, Ans.o (Orc.val 21 (AV.bool true) (H.mk [] [] [])), Ans.loop [(0 : Nat), (3 : Nat), (4 : Nat), (5 : Nat), (6 : Nat), (34 : Nat), (35 : Nat), (36 : Nat)] [Out.mk Unit (AX.exit (0 : Nat)) [(0 : Nat), (3 : Nat), (4 : Nat), (5 : Nat), (6 : Nat)] (fun x => True) (fun x => [ls s r, AV.sl (ints (mkT s)) s.length Room.full, I 0, I (ws s s.length), AV.bool true]) (fun x => H.nil) fun y => [Ans.o (Orc.val 58 (I ((2 : Int) * ws s s.length)) H.nil), Ans.o (Orc.val 63 (I ((↑s.length : Int) - (1 : Int))) H.nil), Ans.o (Orc.val 64 (I ((2 : Int) * gm s.length)) H.nil), Ans.o (Orc.b true), Ans.o Orc.dflt, Ans.o Orc.dflt, Ans.o (Orc.val 80 (AV.tup [AV.sl (ints (srt (mkT s))) s.length Room.full, I 0]) (H.mk [] [] [])), Ans.o Orc.dflt, Ans.o (Orc.val 88 (AV.bool true) (H.mk [] [] [])), Ans.o (Orc.val 91 (AV.bool true) (H.mk [] [] []))]]]) (aCall (Sof cs9) (AV.fn (Fn.func (19 : Nat)) [] []) [AV.sl (ints s) s.length r] (H.mk [] [] []) = some (AV.sl (ints s) s.length (rcl r), H.mk [] [] []) ∧ aCall (Sof cs9) (AV.fn (Fn.func (20 : Nat)) [] []) [AV.sl (ints s) s.length (rcl r)] (H.mk [] [] []) = some (AV.tup [AV.sl (ints (mkT s)) s.length Room.full, I 0], H.mk [] [] []) ∧ aCall (Sof cs9) (AV.fn (Fn.func (25 : Nat)) [] []) [AV.sl (ints s) s.length r] (H.mk [] [] []) = some (AV.bool true, H.mk [] [] []) ∧ LoopS (Env.mk Tryd.prog (Sof cs9) (Pof (P := Tryd.prog) []) H.nil.base (300 : Nat)) (loopAt Tryd.f9 (0 : Nat)) (93 : Nat) [(0 : Nat), (3 : Nat), (4 : Nat), (5 : Nat), (6 : Nat), (34 : Nat), (35 : Nat), (36 : Nat)] [AV.sl (ints s) s.length r, AV.sl (ints (mkT s)) s.length Room.full, I 0, I 0, AV.bool true, AV.sl (ints s) s.length r, I (↑s.length : Int), I 0] (H.mk [] [] []) [Out.mk Unit (AX.exit (0 : Nat)) [(0 : Nat), (3 : Nat), (4 : Nat), (5 : Nat), (6 : Nat)] (fun x => True) (fun x => [ls s r, AV.sl (ints (mkT s)) s.length Room.full, I 0, I (ws s s.length), AV.bool true]) (fun x => H.nil) fun y => [Ans.o (Orc.val 58 (I ((2 : Int) * ws s s.length)) H.nil), Ans.o (Orc.val 63 (I ((↑s.length : Int) - (1 : Int))) H.nil), Ans.o (Orc.val 64 (I ((2 : Int) * gm s.length)) H.nil), Ans.o (Orc.b true), Ans.o Orc.dflt, Ans.o Orc.dflt, Ans.o (Orc.val 80 (AV.tup [AV.sl (ints (srt (mkT s))) s.length Room.full, I 0]) (H.mk [] [] [])), Ans.o Orc.dflt, Ans.o (Orc.val 88 (AV.bool true) (H.mk [] [] [])), Ans.o (Orc.val 91 (AV.bool true) (H.mk [] [] []))]] ∧ (∀ (y : Unit), True → ∀ (u : Nat → AV), aBin Tryd.prog BinOp.mul (3 : Nat) (I 2) (I (ws s s.length)) = some (I ((2 : Int) * ws s s.length)) ∧ aBin Tryd.prog BinOp.sub (3 : Nat) (I (↑s.length : Int)) (I 1) = some (I ((↑s.length : Int) - (1 : Int))) ∧ aBin Tryd.prog BinOp.mul (3 : Nat) (I (↑s.length : Int)) (I ((↑s.length : Int) - (1 : Int))) = some (I ((2 : Int) * gm s.length)) ∧ (2 : Int) * ws s s.length = (2 : Int) * gm s.length ∧ aCall (Sof cs9) (AV.fn (Fn.func (18 : Nat)) [] []) [AV.sl (ints (mkT s)) s.length Room.full] (H.mk [] [] []) = some (AV.tup [AV.sl (ints (srt (mkT s))) s.length Room.full, I 0], H.mk [] [] []) ∧ aCall (Sof cs9) (AV.fn (Fn.func (22 : Nat)) [] []) [AV.sl (ints (srt (mkT s))) s.length Room.full, AV.sl (ints s) s.length r] (H.mk [] [] []) = some (AV.bool true, H.mk [] [] []) ∧ aCall (Sof cs9) (AV.fn (Fn.func (24 : Nat)) [] []) [] (H.mk [] [] []) = some (AV.bool true, H.mk [] [] []) ∧ (AV.bool true, H.mk [] [] []) = (AV.bool true, H.mk [] [] [])) ∧ True) (by kernel_rfl) ?_
  refine ⟨acall_hit (c := c19s.to) (s, r) _ rfl p19, ?_⟩
  refine ⟨acall_hit (c := c20t.to) (s, rcl r) _ rfl p20, ?_⟩
  refine ⟨acall_b (acall_hit (c := c25.to) (s, r) _ rfl p25) hb, ?_⟩
  refine ⟨lp, ?_⟩
  refine And.intro ?_ ?_
  · skip
    intro y
    intro w1
    intro u
    refine ⟨told_mul (by with_reducible assumption), ?_⟩
    refine ⟨told_sub (by with_reducible assumption), ?_⟩
    refine ⟨told_mul (by with_reducible assumption), ?_⟩
    refine ⟨by first | with_reducible assumption | omega | assumption, ?_⟩
    refine ⟨acall_hit (c := c18x.to) ((mkT s, s.length), .full) _ rfl p18, ?_⟩
    refine ⟨acall_hit (c := c22h.to) ((srt (mkT s), s.length, .full), s, s.length, r) _ rfl p22, ?_⟩
    refine ⟨acall_hit (c := c24.to) () _ rfl trivial, ?_⟩
    first | with_reducible rfl | (refine bleaf_t ?_; omega) | (refine bleaf_f ?_; omega) | (refine ileaf ?_; omega) | rfl | (exfalso; omega)
  · skip
    trivial
theorem lp9n (s : List Int) (r : Room) (hr : rok s r) (h : SB s) :
    LoopS (En6 [c19s.to, c20n.to, c25.to, c24.to]) (loopAt Tryd.f9 0) 93 [0, 3, 4, 5, 6, 34, 35, 36] [ls s r, .sl [] 0 .nil, I 4, I 0, .bool true, ls s r, I s.length, I 0] .nil (o9 s r (.sl [] 0 .nil) 4) := lp9 (.pure _ (.pure _ (.pure _ (.pure _ .nil)))) s r hr h (.sl [] 0 .nil) 4
theorem r9n (s : List Int) (r : Room) (hp : pS8 s r) (h : SB s) (hl : lanB s = false) : Body (En6 [c19s.to, c20n.to, c25.to, c24.to]) none1 Tryd.f9 [ls s r] .nil (.bool true, .nil) := by
  have h1 := h.l1; have h8 := h.l8
  have hb := sB_t h
  have p19 : (lim s.length ∧ rok s r ∧ em s r) ∧ s.length ≤ 11 := ⟨hp, by omega⟩
  have p20 : pS8 s (rcl r) ∧ SB s ∧ lanB s = false := ⟨⟨hp.1, rcl_rok hp.2.1, rcl_em⟩, h, hl⟩
  have p25 : lim s.length ∧ rok s r := ⟨hp.1, hp.2.1⟩
  have lp := lp9n s r hp.2.1 h
  obtain ⟨ev1, ev2, ev3⟩ := le_ok h
  cases hv : lanV s s.length
  · simp only [o9, hv] at lp
    refine body_s ([Ans.o (Orc.val 13 (AV.sl (ints s) s.length (rcl r)) (H.mk [] [] [])), Ans.o (Orc.val 14 (AV.tup [AV.sl [] (0 : Nat) Room.nil, I 4]) (H.mk [] [] [])), Ans.o Orc.dflt, Ans.o (Orc.val 21 (AV.bool true) (H.mk [] [] [])), Ans.loop [(0 : Nat), (3 : Nat), (4 : Nat), (5 : Nat), (6 : Nat), (34 : Nat), (35 : Nat), (36 : Nat)] [Out.mk Unit (AX.exit (0 : Nat)) [(0 : Nat), (3 : Nat), (4 : Nat), (5 : Nat), (6 : Nat)] (fun x => True) (fun x => [ls s r, AV.sl [] (0 : Nat) Room.nil, I 4, I (ws s s.length), AV.bool false]) (fun x => H.nil) fun y => [Ans.o Orc.dflt, Ans.o Orc.dflt, Ans.o Orc.dflt, Ans.o (Orc.val 76 (AV.bool true) (H.mk [] [] []))]]]) (aCall (Sof [c19s.to, c20n.to, c25.to, c24.to]) (AV.fn (Fn.func (19 : Nat)) [] []) [AV.sl (ints s) s.length r] (H.mk [] [] []) = some (AV.sl (ints s) s.length (rcl r), H.mk [] [] []) ∧ aCall (Sof [c19s.to, c20n.to, c25.to, c24.to]) (AV.fn (Fn.func (20 : Nat)) [] []) [AV.sl (ints s) s.length (rcl r)] (H.mk [] [] []) = some (AV.tup [AV.sl [] (0 : Nat) Room.nil, I 4], H.mk [] [] []) ∧ aCall (Sof [c19s.to, c20n.to, c25.to, c24.to]) (AV.fn (Fn.func (25 : Nat)) [] []) [AV.sl (ints s) s.length r] (H.mk [] [] []) = some (AV.bool true, H.mk [] [] []) ∧ LoopS (Env.mk Tryd.prog (Sof [c19s.to, c20n.to, c25.to, c24.to]) (Pof (P := Tryd.prog) []) H.nil.base (300 : Nat)) (loopAt Tryd.f9 (0 : Nat)) (93 : Nat) [(0 : Nat), (3 : Nat), (4 : Nat), (5 : Nat), (6 : Nat), (34 : Nat), (35 : Nat), (36 : Nat)] [AV.sl (ints s) s.length r, AV.sl [] (0 : Nat) Room.nil, I 4, I 0, AV.bool true, AV.sl (ints s) s.length r, I (↑s.length : Int), I 0] (H.mk [] [] []) [Out.mk Unit (AX.exit (0 : Nat)) [(0 : Nat), (3 : Nat), (4 : Nat), (5 : Nat), (6 : Nat)] (fun x => True) (fun x => [ls s r, AV.sl [] (0 : Nat) Room.nil, I 4, I (ws s s.length), AV.bool false]) (fun x => H.nil) fun y => [Ans.o Orc.dflt, Ans.o Orc.dflt, Ans.o Orc.dflt, Ans.o (Orc.val 76 (AV.bool true) (H.mk [] [] []))]] ∧ (∀ (y : Unit), True → ∀ (u : Nat → AV), aCall (Sof [c19s.to, c20n.to, c25.to, c24.to]) (AV.fn (Fn.func (24 : Nat)) [] []) [] (H.mk [] [] []) = some (AV.bool true, H.mk [] [] []) ∧ (AV.bool true, H.mk [] [] []) = (AV.bool true, H.mk [] [] [])) ∧ True) (by kernel_rfl) ?_
    refine ⟨acall_hit (c := c19s.to) (s, r) _ rfl p19, ?_⟩
    refine ⟨acall_hit (c := c20n.to) (s, rcl r) _ rfl p20, ?_⟩
    refine ⟨acall_b (acall_hit (c := c25.to) (s, r) _ rfl p25) hb, ?_⟩
    refine ⟨lp, ?_⟩
    refine And.intro ?_ ?_
    · skip
      intro y
      intro w1
      intro u
      refine ⟨acall_hit (c := c24.to) () _ rfl trivial, ?_⟩
      first | with_reducible rfl | (refine bleaf_t ?_; omega) | (refine bleaf_f ?_; omega) | (refine ileaf ?_; omega) | rfl | (exfalso; omega)
    · skip
      trivial
  · have he : ws s s.length ≠ gm s.length := fun e => by rw [lan_eq, hv, decide_eq_true e] at hl; cases hl
    have c : 2 * ws s s.length ≠ 2 * gm s.length := by omega
    simp only [o9, hv] at lp
    refine body_s ([Ans.o (Orc.val 13 (AV.sl (ints s) s.length (rcl r)) (H.mk [] [] [])), Ans.o (Orc.val 14 (AV.tup [AV.sl [] (0 : Nat) Room.nil, I 4]) (H.mk [] [] [])), Ans.o Orc.dflt, Ans.o (Orc.val 21 (AV.bool true) (H.mk [] [] [])), Ans.loop [(0 : Nat), (3 : Nat), (4 : Nat), (5 : Nat), (6 : Nat), (34 : Nat), (35 : Nat), (36 : Nat)] [Out.mk Unit (AX.exit (0 : Nat)) [(0 : Nat), (3 : Nat), (4 : Nat), (5 : Nat), (6 : Nat)] (fun x => True) (fun x => [ls s r, AV.sl [] (0 : Nat) Room.nil, I 4, I (ws s s.length), AV.bool true]) (fun x => H.nil) fun y => [Ans.o (Orc.val 58 (I ((2 : Int) * ws s s.length)) H.nil), Ans.o (Orc.val 63 (I ((↑s.length : Int) - (1 : Int))) H.nil), Ans.o (Orc.val 64 (I ((2 : Int) * gm s.length)) H.nil), Ans.o (Orc.b false), Ans.o Orc.dflt, Ans.o Orc.dflt, Ans.o Orc.dflt, Ans.o (Orc.val 76 (AV.bool true) (H.mk [] [] []))]]]) (aCall (Sof [c19s.to, c20n.to, c25.to, c24.to]) (AV.fn (Fn.func (19 : Nat)) [] []) [AV.sl (ints s) s.length r] (H.mk [] [] []) = some (AV.sl (ints s) s.length (rcl r), H.mk [] [] []) ∧ aCall (Sof [c19s.to, c20n.to, c25.to, c24.to]) (AV.fn (Fn.func (20 : Nat)) [] []) [AV.sl (ints s) s.length (rcl r)] (H.mk [] [] []) = some (AV.tup [AV.sl [] (0 : Nat) Room.nil, I 4], H.mk [] [] []) ∧ aCall (Sof [c19s.to, c20n.to, c25.to, c24.to]) (AV.fn (Fn.func (25 : Nat)) [] []) [AV.sl (ints s) s.length r] (H.mk [] [] []) = some (AV.bool true, H.mk [] [] []) ∧ LoopS (Env.mk Tryd.prog (Sof [c19s.to, c20n.to, c25.to, c24.to]) (Pof (P := Tryd.prog) []) H.nil.base (300 : Nat)) (loopAt Tryd.f9 (0 : Nat)) (93 : Nat) [(0 : Nat), (3 : Nat), (4 : Nat), (5 : Nat), (6 : Nat), (34 : Nat), (35 : Nat), (36 : Nat)] [AV.sl (ints s) s.length r, AV.sl [] (0 : Nat) Room.nil, I 4, I 0, AV.bool true, AV.sl (ints s) s.length r, I (↑s.length : Int), I 0] (H.mk [] [] []) [Out.mk Unit (AX.exit (0 : Nat)) [(0 : Nat), (3 : Nat), (4 : Nat), (5 : Nat), (6 : Nat)] (fun x => True) (fun x => [ls s r, AV.sl [] (0 : Nat) Room.nil, I 4, I (ws s s.length), AV.bool true]) (fun x => H.nil) fun y => [Ans.o (Orc.val 58 (I ((2 : Int) * ws s s.length)) H.nil), Ans.o (Orc.val 63 (I ((↑s.length : Int) - (1 : Int))) H.nil), Ans.o (Orc.val 64 (I ((2 : Int) * gm s.length)) H.nil), Ans.o (Orc.b false), Ans.o Orc.dflt, Ans.o Orc.dflt, Ans.o Orc.dflt, Ans.o (Orc.val 76 (AV.bool true) (H.mk [] [] []))]] ∧ (∀ (y : Unit), True → ∀ (u : Nat → AV), aBin Tryd.prog BinOp.mul (3 : Nat) (I 2) (I (ws s s.length)) = some (I ((2 : Int) * ws s s.length)) ∧ aBin Tryd.prog BinOp.sub (3 : Nat) (I (↑s.length : Int)) (I 1) = some (I ((↑s.length : Int) - (1 : Int))) ∧ aBin Tryd.prog BinOp.mul (3 : Nat) (I (↑s.length : Int)) (I ((↑s.length : Int) - (1 : Int))) = some (I ((2 : Int) * gm s.length)) ∧ (2 : Int) * ws s s.length ≠ (2 : Int) * gm s.length ∧ aCall (Sof [c19s.to, c20n.to, c25.to, c24.to]) (AV.fn (Fn.func (24 : Nat)) [] []) [] (H.mk [] [] []) = some (AV.bool true, H.mk [] [] []) ∧ (AV.bool true, H.mk [] [] []) = (AV.bool true, H.mk [] [] [])) ∧ True) (by kernel_rfl) ?_
    refine ⟨acall_hit (c := c19s.to) (s, r) _ rfl p19, ?_⟩
    refine ⟨acall_hit (c := c20n.to) (s, rcl r) _ rfl p20, ?_⟩
    refine ⟨acall_b (acall_hit (c := c25.to) (s, r) _ rfl p25) hb, ?_⟩
    refine ⟨lp, ?_⟩
    refine And.intro ?_ ?_
    · skip
      intro y
      intro w1
      intro u
      refine ⟨told_mul (by with_reducible assumption), ?_⟩
      refine ⟨told_sub (by with_reducible assumption), ?_⟩
      refine ⟨told_mul (by with_reducible assumption), ?_⟩
      refine ⟨by first | with_reducible assumption | omega | assumption, ?_⟩
      refine ⟨acall_hit (c := c24.to) () _ rfl trivial, ?_⟩
      first | with_reducible rfl | (refine bleaf_t ?_; omega) | (refine bleaf_f ?_; omega) | (refine ileaf ?_; omega) | rfl | (exfalso; omega)
    · skip
      trivial
theorem r9f (s : List Int) (r : Room) (hp : pS8 s r) (h : ¬ SB s) : Body (En6 [c19.to, c20f.to, c25.to, c24.to]) none1 Tryd.f9 [ls s r] .nil (.bool true, .nil) := by
  have hb := sB_f h
  have p20 : pS8 (cut s) (rcl r) ∧ ¬ SB (cut s) := ⟨⟨cut_lim s, fun hne => rcl_rok hp.2.1 (fun e => hne (by rw [e]; rfl)), rcl_em⟩, cut_SB h⟩
  have p25 : lim s.length ∧ rok s r := ⟨hp.1, hp.2.1⟩
  refine body_s ([Ans.o (Orc.val 13 (AV.sl (ints (cut s)) (cut s).length (rcl r)) (H.mk [] [] [])), Ans.o (Orc.val 14 (AV.tup [AV.sl [] (0 : Nat) Room.nil, I 2]) (H.mk [] [] [])), Ans.o Orc.dflt, Ans.o Orc.dflt, Ans.o (Orc.val 28 (AV.bool false) (H.mk [] [] [])), Ans.o (Orc.val 32 (AV.bool true) (H.mk [] [] []))]) (aCall (Sof [c19.to, c20f.to, c25.to, c24.to]) (AV.fn (Fn.func (19 : Nat)) [] []) [AV.sl (ints s) s.length r] (H.mk [] [] []) = some (AV.sl (ints (cut s)) (cut s).length (rcl r), H.mk [] [] []) ∧ aCall (Sof [c19.to, c20f.to, c25.to, c24.to]) (AV.fn (Fn.func (20 : Nat)) [] []) [AV.sl (ints (cut s)) (cut s).length (rcl r)] (H.mk [] [] []) = some (AV.tup [AV.sl [] (0 : Nat) Room.nil, I 2], H.mk [] [] []) ∧ aCall (Sof [c19.to, c20f.to, c25.to, c24.to]) (AV.fn (Fn.func (25 : Nat)) [] []) [AV.sl (ints s) s.length r] (H.mk [] [] []) = some (AV.bool false, H.mk [] [] []) ∧ aCall (Sof [c19.to, c20f.to, c25.to, c24.to]) (AV.fn (Fn.func (24 : Nat)) [] []) [] (H.mk [] [] []) = some (AV.bool true, H.mk [] [] []) ∧ (AV.bool true, H.mk [] [] []) = (AV.bool true, H.mk [] [] [])) (by kernel_rfl) ?_
  refine ⟨acall_hit (c := c19.to) (s, r) _ rfl hp, ?_⟩
  refine ⟨acall_hit (c := c20f.to) (cut s, rcl r) _ rfl p20, ?_⟩
  refine ⟨acall_b (acall_hit (c := c25.to) (s, r) _ rfl p25) hb, ?_⟩
  refine ⟨acall_hit (c := c24.to) () _ rfl trivial, ?_⟩
  first | with_reducible rfl | (refine bleaf_t ?_; omega) | (refine bleaf_f ?_; omega) | (refine ileaf ?_; omega) | rfl | (exfalso; omega)
theorem landau_ok (t : List Int) (q : RK) (h1 : t.length ≤ Go.maxLen) (h2 : q.mt = true → t = []) : CallOk Tryd.prog 9 [ls t (rr q)] .nil (.bool true) .nil := by
  have hp : pS8 t (rr q) := by
    refine ⟨Nat.le_trans h1 (by decide), fun hl e => ?_, fun e => ?_⟩
    · cases q <;> simp_all [rr, RK.mt]
    · cases q <;> simp_all [rr, RK.mt]
  by_cases h : SB t
  · cases hl : lanB t
    · exact (r9n t _ hp h hl).run ok9 (.pure _ (.pure _ (.pure _ (.pure _ .nil)))) rfl
    · exact (r9t t _ hp h hl).run ok9 ct9 rfl
  · exact (r9f t _ hp h).run ok9 (.pure _ (.pure _ (.pure _ (.pure _ .nil)))) rfl
end Go.Proofs.Rnk

