/- Layer 2: the law of scores that can be. -/
import Derived.Test.YtnnhomkkggkkfaaDoorRkBj
import Derived.Test.YtnnhomkkggkkfaaDoorRkK
import Derived.KernelRfl
set_option linter.unusedSimpArgs false
set_option linter.unusedVariables false
set_option linter.unnecessarySimpa false
set_option maxHeartbeats 4000000
set_option maxRecDepth 100000
namespace Go.Proofs.Rnk
open Go Go.VM
open Go.Proofs.Sur (andn andn_bit andn_le i_wrap i_and i_or i_andn i_shl i_shr bit_01)

abbrev sk1 (s : List Int) (i : Nat) : Prop := (0 ≤ s.getD i i0 ∧ s.getD i i0 ≤ 7) ∧ (0 < i → s.getD (i - 1) i0 ≤ s.getD i i0)
structure SK (s : List Int) : Prop where
  h : ∀ i, i < s.length → sk1 s i
theorem SB_iff {s : List Int} : SB s ↔ SK s ∧ 1 ≤ s.length ∧ s.length ≤ 8 := by
  constructor
  · intro h
    refine ⟨⟨fun i hi => ⟨by have := h.c.h i hi; omega, fun h0 => ?_⟩⟩, h.l1, h.l8⟩
    obtain ⟨j, rfl⟩ : ∃ j, i = j + 1 := ⟨i - 1, by omega⟩
    exact h.o.h j (by omega) hi
  · rintro ⟨h, h1, h2⟩
    exact ⟨h1, h2, ⟨fun k hk => by have := (h.h k hk).1; omega⟩, ⟨fun k _ hk => (h.h (k + 1) hk).2 (by omega)⟩⟩
abbrev o25 (s : List Int) (r : Room) : List Out := [.mk Unit .ret [2] (fun _ => ¬ SK s) (fun _ => [.bool false]) (fun _ => .nil) (fun _ => []), .mk Unit (.exit 0) [0] (fun _ => SK s) (fun _ => [ls s r]) (fun _ => .nil) (fun _ => [])]
theorem simp25 : allSimpleM none1 (loopAt Tryd.f25 0) = true := by kernel_rfl
theorem lp25 (s : List Int) (r : Room) (hr : rok s r) (h1 : lim s.length) :
    LoopS (En6 []) (loopAt Tryd.f25 0) 40 [0, 5, 6, 7] [ls s r, ls s r, I s.length, I 0] .nil (o25 s r) := by
  have hR : Rests (En6 []) none1 := rests mixed .nil
  refine loop_s hR simp25 none (by intro _ h; cases h) (fun k vs H => H = .nil ∧ vs = [ls s r, ls s r, I s.length, I k] ∧ ∀ i, i < k → sk1 s i) s.length ⟨rfl, rfl, fun i hi => absurd hi (by omega)⟩ (by intro _ h; cases h) ?_
  rintro k vs H hk ⟨rfl, rfl, ha⟩
  by_cases hz : (k : Int) < s.length
  · have hz' : k < s.length := by omega
    have hri := rok_idx hr hz'
    have ev0 : IntKind.i64.wrap ((k : Int) + 1) = ((k + 1 : Nat) : Int) := by rw [wr _ (by omega) (by simp only [lim] at h1; omega)]; omega
    have bad : ∀ (h : ¬ sk1 s k), ¬ SK s := fun h q => h (q.h k hz')
    by_cases x0 : s.getD k i0 < 0
    · have hn := bad (fun h => by have := h.1; omega)
      refine ⟨[Ans.o (Orc.b true), Ans.o (Orc.val 10 (AV.cptr (ints (List.drop k s))) H.nil), Ans.o (Orc.val 11 (I (s.getD k i0)) H.nil), Ans.o (Orc.b true)], fun u => of_eq ((↑k : Int) < (↑s.length : Int) ∧ aIndexAddr Tryd.prog (22 : Nat) (AV.sl (ints s) s.length r) (I (↑k : Int)) = some (AV.cptr (ints (List.drop k s))) ∧ aLoad Tryd.prog (3 : Nat) (ints (List.drop k s)) = some (I (s.getD k i0)) ∧ s.getD k i0 < (0 : Int) ∧ (40 : Nat) = (40 : Nat) ∧ hits [Out.mk Unit AX.ret [(2 : Nat)] (fun x => ¬SK s) (fun x => [AV.bool false]) (fun x => H.nil) fun x => [], Out.mk Unit (AX.exit (0 : Nat)) [(0 : Nat)] (fun x => SK s) (fun x => [ls s r]) (fun x => H.nil) fun x => []] AX.ret [AV.sl (ints s) s.length r, u (1 : Nat), AV.bool false, I (↑k : Int), I (s.getD k i0), AV.sl (ints s) s.length r, I (↑s.length : Int), I (↑k : Int), AV.bool true, I (↑k : Int), AV.cptr (ints (List.drop k s)), I (s.getD k i0), I (s.getD k i0), AV.bool true, AV.bool true, AV.tup [], AV.tup [], AV.bool true, AV.bool true, AV.tup [], AV.tup [], AV.tup [], AV.tup [], AV.tup [], AV.tup [], AV.tup [], AV.tup [], AV.tup [], AV.tup [], AV.tup [], AV.bool true, u (31 : Nat), u (32 : Nat), u (33 : Nat), u (34 : Nat), u (35 : Nat), u (36 : Nat), u (37 : Nat), u (38 : Nat), u (39 : Nat)] (H.mk [] [] [])) (by kernel_rfl) ?_⟩
      refine ⟨by first | with_reducible assumption | omega | assumption, ?_⟩
      refine ⟨ix_ints (by kernel_rfl) hz' hri, ?_⟩
      refine ⟨ld_ints (by kernel_rfl) (by kernel_rfl) hz', ?_⟩
      refine ⟨by first | with_reducible assumption | omega | assumption, ?_⟩
      refine ⟨by first | with_reducible assumption | omega | assumption, ?_⟩
      exact .inl ⟨(), hn, rfl, rfl, rfl⟩
    have x0 : 0 ≤ s.getD k i0 := by omega
    by_cases x1 : 7 < s.getD k i0
    · have hn := bad (fun h => by have := h.1; omega)
      refine ⟨[Ans.o (Orc.b true), Ans.o (Orc.val 10 (AV.cptr (ints (List.drop k s))) H.nil), Ans.o (Orc.val 11 (I (s.getD k i0)) H.nil), Ans.o (Orc.b false), Ans.o (Orc.b true)], fun u => of_eq ((↑k : Int) < (↑s.length : Int) ∧ aIndexAddr Tryd.prog (22 : Nat) (AV.sl (ints s) s.length r) (I (↑k : Int)) = some (AV.cptr (ints (List.drop k s))) ∧ aLoad Tryd.prog (3 : Nat) (ints (List.drop k s)) = some (I (s.getD k i0)) ∧ (0 : Int) ≤ s.getD k i0 ∧ (7 : Int) < s.getD k i0 ∧ (40 : Nat) = (40 : Nat) ∧ hits [Out.mk Unit AX.ret [(2 : Nat)] (fun x => ¬SK s) (fun x => [AV.bool false]) (fun x => H.nil) fun x => [], Out.mk Unit (AX.exit (0 : Nat)) [(0 : Nat)] (fun x => SK s) (fun x => [ls s r]) (fun x => H.nil) fun x => []] AX.ret [AV.sl (ints s) s.length r, u (1 : Nat), AV.bool false, I (↑k : Int), I (s.getD k i0), AV.sl (ints s) s.length r, I (↑s.length : Int), I (↑k : Int), AV.bool true, I (↑k : Int), AV.cptr (ints (List.drop k s)), I (s.getD k i0), I (s.getD k i0), AV.bool false, AV.bool false, I (s.getD k i0), AV.bool true, AV.bool true, AV.bool true, AV.tup [], AV.tup [], AV.tup [], AV.tup [], AV.tup [], AV.tup [], AV.tup [], AV.tup [], AV.tup [], AV.tup [], AV.tup [], AV.bool true, u (31 : Nat), u (32 : Nat), u (33 : Nat), u (34 : Nat), u (35 : Nat), u (36 : Nat), u (37 : Nat), u (38 : Nat), u (39 : Nat)] (H.mk [] [] [])) (by kernel_rfl) ?_⟩
      refine ⟨by first | with_reducible assumption | omega | assumption, ?_⟩
      refine ⟨ix_ints (by kernel_rfl) hz' hri, ?_⟩
      refine ⟨ld_ints (by kernel_rfl) (by kernel_rfl) hz', ?_⟩
      refine ⟨by first | with_reducible assumption | omega | assumption, ?_⟩
      refine ⟨by first | with_reducible assumption | omega | assumption, ?_⟩
      refine ⟨by first | with_reducible assumption | omega | assumption, ?_⟩
      exact .inl ⟨(), hn, rfl, rfl, rfl⟩
    have x1 : s.getD k i0 ≤ 7 := by omega
    match k, hz, hz', hri, ev0, ha, bad, x0, x1 with
    | 0, hz, hz', hri, ev0, ha, bad, x0, x1 =>
      have hk2 := all_succ (q := sk1 s) ha ⟨⟨x0, x1⟩, fun h => absurd h (by omega)⟩
      have hz0 : (0 : Int) < (s.length : Int) := hz
      refine ⟨[Ans.o (Orc.b true), Ans.o (Orc.val 10 (AV.cptr (ints (List.drop (0 : Nat) s))) H.nil), Ans.o (Orc.val 11 (I (s.getD (0 : Nat) i0)) H.nil), Ans.o (Orc.b false), Ans.o (Orc.b false), Ans.o Orc.dflt], fun u => of_eq ((0 : Int) < (↑s.length : Int) ∧ aIndexAddr Tryd.prog (22 : Nat) (AV.sl (ints s) s.length r) (I 0) = some (AV.cptr (ints (List.drop (0 : Nat) s))) ∧ aLoad Tryd.prog (3 : Nat) (ints (List.drop (0 : Nat) s)) = some (I (s.getD (0 : Nat) i0)) ∧ (0 : Int) ≤ s.getD (0 : Nat) i0 ∧ s.getD (0 : Nat) i0 ≤ (7 : Int) ∧ IntKind.i64.wrap (1 : Int) = (1 : Int) ∧ (40 : Nat) = (40 : Nat) ∧ (0 : Nat) < s.length ∧ Keep (H.mk [] [] [] = H.mk [] [] [] ∧ [AV.sl (ints s) s.length r, AV.sl (ints s) s.length r, I (↑s.length : Int), I 1] = [AV.sl (ints s) s.length r, AV.sl (ints s) s.length r, I (↑s.length : Int), I 1] ∧ ∀ (i : Nat), i < (0 : Nat) + (1 : Nat) → sk1 s i)) (by kernel_rfl) ?_⟩
      refine ⟨by first | with_reducible assumption | omega | assumption, ?_⟩
      refine ⟨ix_ints (by kernel_rfl) hz' hri, ?_⟩
      refine ⟨ld_ints (by kernel_rfl) (by kernel_rfl) hz', ?_⟩
      refine ⟨by first | with_reducible assumption | omega | assumption, ?_⟩
      refine ⟨by first | with_reducible assumption | omega | assumption, ?_⟩
      refine ⟨wr _ (by omega) (by omega), ?_⟩
      refine ⟨by first | with_reducible assumption | omega | assumption, ?_⟩
      refine ⟨by first | with_reducible assumption | omega | assumption, ?_⟩
      exact ⟨rfl, rfl, hk2⟩
    | k + 1, hz, hz', hri, ev0, ha, bad, x0, x1 =>
      have c0 : (0 : Int) < ((k + 1 : Nat) : Int) := by omega
      have hzk : k < s.length := by omega
      have ev1 : IntKind.i64.wrap (((k + 1 : Nat) : Int) - 1) = ((k : Nat) : Int) := by rw [wr _ (by omega) (by simp only [lim] at h1; omega)]; omega
      by_cases x2 : s.getD (k + 1) i0 < s.getD k i0
      · have hn := bad (fun h => by have := h.2 (by omega); rw [Nat.add_sub_cancel] at this; omega)
        refine ⟨[Ans.o (Orc.b true), Ans.o (Orc.val 10 (AV.cptr (ints (List.drop (k + (1 : Nat)) s))) H.nil), Ans.o (Orc.val 11 (I (s.getD (k + (1 : Nat)) i0)) H.nil), Ans.o (Orc.b false), Ans.o (Orc.b false), Ans.o (Orc.b true), Ans.o (Orc.val 24 (I (↑k : Int)) H.nil), Ans.o (Orc.val 25 (AV.cptr (ints (List.drop k s))) H.nil), Ans.o (Orc.val 26 (I (s.getD k i0)) H.nil), Ans.o (Orc.b true)], fun u => of_eq ((↑(k + (1 : Nat)) : Int) < (↑s.length : Int) ∧ aIndexAddr Tryd.prog (22 : Nat) (AV.sl (ints s) s.length r) (I (↑(k + (1 : Nat)) : Int)) = some (AV.cptr (ints (List.drop (k + (1 : Nat)) s))) ∧ aLoad Tryd.prog (3 : Nat) (ints (List.drop (k + (1 : Nat)) s)) = some (I (s.getD (k + (1 : Nat)) i0)) ∧ (0 : Int) ≤ s.getD (k + (1 : Nat)) i0 ∧ s.getD (k + (1 : Nat)) i0 ≤ (7 : Int) ∧ (0 : Int) < (↑(k + (1 : Nat)) : Int) ∧ aBin Tryd.prog BinOp.sub (3 : Nat) (I (↑(k + (1 : Nat)) : Int)) (I 1) = some (I (↑k : Int)) ∧ aIndexAddr Tryd.prog (22 : Nat) (AV.sl (ints s) s.length r) (I (↑k : Int)) = some (AV.cptr (ints (List.drop k s))) ∧ aLoad Tryd.prog (3 : Nat) (ints (List.drop k s)) = some (I (s.getD k i0)) ∧ s.getD (k + (1 : Nat)) i0 < s.getD k i0 ∧ (40 : Nat) = (40 : Nat) ∧ hits [Out.mk Unit AX.ret [(2 : Nat)] (fun x => ¬SK s) (fun x => [AV.bool false]) (fun x => H.nil) fun x => [], Out.mk Unit (AX.exit (0 : Nat)) [(0 : Nat)] (fun x => SK s) (fun x => [ls s r]) (fun x => H.nil) fun x => []] AX.ret [AV.sl (ints s) s.length r, u (1 : Nat), AV.bool false, I (↑(k + (1 : Nat)) : Int), I (s.getD (k + (1 : Nat)) i0), AV.sl (ints s) s.length r, I (↑s.length : Int), I (↑(k + (1 : Nat)) : Int), AV.bool true, I (↑(k + (1 : Nat)) : Int), AV.cptr (ints (List.drop (k + (1 : Nat)) s)), I (s.getD (k + (1 : Nat)) i0), I (s.getD (k + (1 : Nat)) i0), AV.bool false, AV.bool false, I (s.getD (k + (1 : Nat)) i0), AV.bool false, AV.bool false, AV.bool false, I (↑(k + (1 : Nat)) : Int), AV.bool true, AV.bool true, AV.sl (ints s) s.length r, I (↑(k + (1 : Nat)) : Int), I (↑k : Int), AV.cptr (ints (List.drop k s)), I (s.getD k i0), I (s.getD (k + (1 : Nat)) i0), AV.bool true, AV.bool true, AV.bool true, u (31 : Nat), u (32 : Nat), u (33 : Nat), u (34 : Nat), u (35 : Nat), u (36 : Nat), u (37 : Nat), u (38 : Nat), u (39 : Nat)] (H.mk [] [] [])) (by kernel_rfl) ?_⟩
        refine ⟨by first | with_reducible assumption | omega | assumption, ?_⟩
        refine ⟨by first | exact ix_ints (by kernel_rfl) hz' hri | exact ix_ints (by kernel_rfl) hzk hri, ?_⟩
        refine ⟨by first | exact ld_ints (by kernel_rfl) (by kernel_rfl) hz' | exact ld_ints (by kernel_rfl) (by kernel_rfl) hzk, ?_⟩
        refine ⟨by first | with_reducible assumption | omega | assumption, ?_⟩
        refine ⟨by first | with_reducible assumption | omega | assumption, ?_⟩
        refine ⟨by first | with_reducible assumption | omega | assumption, ?_⟩
        refine ⟨told_sub (by with_reducible assumption), ?_⟩
        refine ⟨by first | exact ix_ints (by kernel_rfl) hz' hri | exact ix_ints (by kernel_rfl) hzk hri, ?_⟩
        refine ⟨by first | exact ld_ints (by kernel_rfl) (by kernel_rfl) hz' | exact ld_ints (by kernel_rfl) (by kernel_rfl) hzk, ?_⟩
        refine ⟨by first | with_reducible assumption | omega | assumption, ?_⟩
        refine ⟨by first | with_reducible assumption | omega | assumption, ?_⟩
        exact .inl ⟨(), hn, rfl, rfl, rfl⟩
      · have x2 : s.getD k i0 ≤ s.getD (k + 1) i0 := by omega
        have hk2 := all_succ (q := sk1 s) ha ⟨⟨x0, x1⟩, fun _ => by rw [Nat.add_sub_cancel]; exact x2⟩
        refine ⟨[Ans.o (Orc.b true), Ans.o (Orc.val 10 (AV.cptr (ints (List.drop (k + (1 : Nat)) s))) H.nil), Ans.o (Orc.val 11 (I (s.getD (k + (1 : Nat)) i0)) H.nil), Ans.o (Orc.b false), Ans.o (Orc.b false), Ans.o (Orc.b true), Ans.o (Orc.val 24 (I (↑k : Int)) H.nil), Ans.o (Orc.val 25 (AV.cptr (ints (List.drop k s))) H.nil), Ans.o (Orc.val 26 (I (s.getD k i0)) H.nil), Ans.o (Orc.b false), Ans.o (Orc.val 31 (I (↑(k + (1 : Nat) + (1 : Nat)) : Int)) H.nil)], fun u => of_eq ((↑(k + (1 : Nat)) : Int) < (↑s.length : Int) ∧ aIndexAddr Tryd.prog (22 : Nat) (AV.sl (ints s) s.length r) (I (↑(k + (1 : Nat)) : Int)) = some (AV.cptr (ints (List.drop (k + (1 : Nat)) s))) ∧ aLoad Tryd.prog (3 : Nat) (ints (List.drop (k + (1 : Nat)) s)) = some (I (s.getD (k + (1 : Nat)) i0)) ∧ (0 : Int) ≤ s.getD (k + (1 : Nat)) i0 ∧ s.getD (k + (1 : Nat)) i0 ≤ (7 : Int) ∧ (0 : Int) < (↑(k + (1 : Nat)) : Int) ∧ aBin Tryd.prog BinOp.sub (3 : Nat) (I (↑(k + (1 : Nat)) : Int)) (I 1) = some (I (↑k : Int)) ∧ aIndexAddr Tryd.prog (22 : Nat) (AV.sl (ints s) s.length r) (I (↑k : Int)) = some (AV.cptr (ints (List.drop k s))) ∧ aLoad Tryd.prog (3 : Nat) (ints (List.drop k s)) = some (I (s.getD k i0)) ∧ s.getD k i0 ≤ s.getD (k + (1 : Nat)) i0 ∧ aBin Tryd.prog BinOp.add (3 : Nat) (I (↑(k + (1 : Nat)) : Int)) (I 1) = some (I (↑(k + (1 : Nat) + (1 : Nat)) : Int)) ∧ (40 : Nat) = (40 : Nat) ∧ k + (1 : Nat) < s.length ∧ Keep (H.mk [] [] [] = H.mk [] [] [] ∧ [AV.sl (ints s) s.length r, AV.sl (ints s) s.length r, I (↑s.length : Int), I (↑(k + (1 : Nat) + (1 : Nat)) : Int)] = [AV.sl (ints s) s.length r, AV.sl (ints s) s.length r, I (↑s.length : Int), I (↑(k + (1 : Nat) + (1 : Nat)) : Int)] ∧ ∀ (i : Nat), i < k + (1 : Nat) + (1 : Nat) → sk1 s i)) (by kernel_rfl) ?_⟩
        refine ⟨by first | with_reducible assumption | omega | assumption, ?_⟩
        refine ⟨by first | exact ix_ints (by kernel_rfl) hz' hri | exact ix_ints (by kernel_rfl) hzk hri, ?_⟩
        refine ⟨by first | exact ld_ints (by kernel_rfl) (by kernel_rfl) hz' | exact ld_ints (by kernel_rfl) (by kernel_rfl) hzk, ?_⟩
        refine ⟨by first | with_reducible assumption | omega | assumption, ?_⟩
        refine ⟨by first | with_reducible assumption | omega | assumption, ?_⟩
        refine ⟨by first | with_reducible assumption | omega | assumption, ?_⟩
        refine ⟨told_sub (by with_reducible assumption), ?_⟩
        refine ⟨by first | exact ix_ints (by kernel_rfl) hz' hri | exact ix_ints (by kernel_rfl) hzk hri, ?_⟩
        refine ⟨by first | exact ld_ints (by kernel_rfl) (by kernel_rfl) hz' | exact ld_ints (by kernel_rfl) (by kernel_rfl) hzk, ?_⟩
        refine ⟨by first | with_reducible assumption | omega | assumption, ?_⟩
        refine ⟨told_add (by with_reducible assumption), ?_⟩
        refine ⟨by first | with_reducible assumption | omega | assumption, ?_⟩
        refine ⟨by first | with_reducible assumption | omega | assumption, ?_⟩
        exact ⟨rfl, rfl, hk2⟩
  · have hz : (s.length : Int) ≤ k := by omega
    have hk' : k = s.length := by omega
    subst hk'
    refine ⟨[Ans.o (Orc.b false)], fun u => of_eq ((↑s.length : Int) ≤ (↑s.length : Int) ∧ (40 : Nat) = (40 : Nat) ∧ hits [Out.mk Unit AX.ret [(2 : Nat)] (fun x => ¬SK s) (fun x => [AV.bool false]) (fun x => H.nil) fun x => [], Out.mk Unit (AX.exit (0 : Nat)) [(0 : Nat)] (fun x => SK s) (fun x => [ls s r]) (fun x => H.nil) fun x => []] (AX.exit (0 : Nat)) [AV.sl (ints s) s.length r, u (1 : Nat), u (2 : Nat), u (3 : Nat), u (4 : Nat), AV.sl (ints s) s.length r, I (↑s.length : Int), I (↑s.length : Int), AV.bool false, u (9 : Nat), u (10 : Nat), u (11 : Nat), u (12 : Nat), u (13 : Nat), u (14 : Nat), u (15 : Nat), u (16 : Nat), u (17 : Nat), u (18 : Nat), u (19 : Nat), u (20 : Nat), u (21 : Nat), u (22 : Nat), u (23 : Nat), u (24 : Nat), u (25 : Nat), u (26 : Nat), u (27 : Nat), u (28 : Nat), u (29 : Nat), u (30 : Nat), u (31 : Nat), u (32 : Nat), u (33 : Nat), u (34 : Nat), u (35 : Nat), u (36 : Nat), u (37 : Nat), u (38 : Nat), u (39 : Nat)] (H.mk [] [] [])) (by kernel_rfl) ?_⟩
    refine ⟨by first | with_reducible assumption | omega | assumption, ?_⟩
    refine ⟨by first | with_reducible assumption | omega | assumption, ?_⟩
    exact .inr (.inl ⟨(), ⟨ha⟩, rfl, rfl, rfl⟩)
theorem ok25 : FokM Tryd.prog none1 25 Tryd.f25 := ⟨mixed, by kernel_rfl, by kernel_rfl, by kernel_rfl, by kernel_rfl⟩
theorem r25 (s : List Int) (r : Room) (hp : lim s.length ∧ rok s r) : Body ⟨Tryd.prog, Sof (P := Tryd.prog) [], Pof (P := Tryd.prog) [], H.nil.base, 300⟩ none1 Tryd.f25 [ls s r] .nil (.bool (sB s), .nil) := by
  obtain ⟨h1, hr⟩ := hp
  have lp := lp25 s r hr h1
  by_cases c1 : (1 : Int) ≤ s.length
  · by_cases c2 : (s.length : Int) ≤ 8
    · refine body_s ([Ans.loop [(0 : Nat), (5 : Nat), (6 : Nat), (7 : Nat)] [Out.mk Unit AX.ret [(2 : Nat)] (fun x => ¬SK s) (fun x => [AV.bool false]) (fun x => H.nil) fun y => [], Out.mk Unit (AX.exit (0 : Nat)) [(0 : Nat)] (fun x => SK s) (fun x => [ls s r]) (fun x => H.nil) fun y => [Ans.o (Orc.b true), Ans.o (Orc.b true)]]]) (LoopS (Env.mk Tryd.prog (Sof (P := Tryd.prog) []) (Pof (P := Tryd.prog) []) H.nil.base (300 : Nat)) (loopAt Tryd.f25 (0 : Nat)) (40 : Nat) [(0 : Nat), (5 : Nat), (6 : Nat), (7 : Nat)] [AV.sl (ints s) s.length r, AV.sl (ints s) s.length r, I (↑s.length : Int), I 0] (H.mk [] [] []) [Out.mk Unit AX.ret [(2 : Nat)] (fun x => ¬SK s) (fun x => [AV.bool false]) (fun x => H.nil) fun y => [], Out.mk Unit (AX.exit (0 : Nat)) [(0 : Nat)] (fun x => SK s) (fun x => [ls s r]) (fun x => H.nil) fun y => [Ans.o (Orc.b true), Ans.o (Orc.b true)]] ∧ (∀ (y : Unit), ¬SK s → ∀ (u : Nat → AV), (AV.bool false, H.mk [] [] []) = (AV.bool (sB s), H.mk [] [] [])) ∧ (∀ (y : Unit), SK s → ∀ (u : Nat → AV), (1 : Int) ≤ (↑s.length : Int) ∧ (↑s.length : Int) ≤ (8 : Int) ∧ (AV.bool true, H.mk [] [] []) = (AV.bool (sB s), H.mk [] [] [])) ∧ True) (by kernel_rfl) ?_
      refine ⟨lp, ?_⟩
      refine And.intro ?_ ?_
      · skip
        intro y
        intro w1
        intro u
        first | rw [sB_t (SB_iff.2 ⟨by assumption, by omega, by omega⟩)] | rw [sB_f (fun q => absurd (SB_iff.1 q).1 (by assumption))]
      · skip
        refine And.intro ?_ ?_
        · skip
          intro y
          intro w1
          intro u
          refine ⟨by first | with_reducible assumption | omega | assumption, ?_⟩
          refine ⟨by first | with_reducible assumption | omega | assumption, ?_⟩
          first | rw [sB_t (SB_iff.2 ⟨by assumption, by omega, by omega⟩)] | rw [sB_f (fun q => absurd (SB_iff.1 q).1 (by assumption))]
        · skip
          trivial
    · rw [sB_f (fun q => by have := q.l8; omega)]
      have c2 : (8 : Int) < s.length := by omega
      refine body_s ([Ans.loop [(0 : Nat), (5 : Nat), (6 : Nat), (7 : Nat)] [Out.mk Unit AX.ret [(2 : Nat)] (fun x => ¬SK s) (fun x => [AV.bool false]) (fun x => H.nil) fun y => [], Out.mk Unit (AX.exit (0 : Nat)) [(0 : Nat)] (fun x => SK s) (fun x => [ls s r]) (fun x => H.nil) fun y => [Ans.o (Orc.b true), Ans.o (Orc.b false)]]]) (LoopS (Env.mk Tryd.prog (Sof (P := Tryd.prog) []) (Pof (P := Tryd.prog) []) H.nil.base (300 : Nat)) (loopAt Tryd.f25 (0 : Nat)) (40 : Nat) [(0 : Nat), (5 : Nat), (6 : Nat), (7 : Nat)] [AV.sl (ints s) s.length r, AV.sl (ints s) s.length r, I (↑s.length : Int), I 0] (H.mk [] [] []) [Out.mk Unit AX.ret [(2 : Nat)] (fun x => ¬SK s) (fun x => [AV.bool false]) (fun x => H.nil) fun y => [], Out.mk Unit (AX.exit (0 : Nat)) [(0 : Nat)] (fun x => SK s) (fun x => [ls s r]) (fun x => H.nil) fun y => [Ans.o (Orc.b true), Ans.o (Orc.b false)]] ∧ (∀ (y : Unit), ¬SK s → ∀ (u : Nat → AV), (AV.bool false, H.mk [] [] []) = (AV.bool false, H.mk [] [] [])) ∧ (∀ (y : Unit), SK s → ∀ (u : Nat → AV), (1 : Int) ≤ (↑s.length : Int) ∧ (8 : Int) < (↑s.length : Int) ∧ (AV.bool false, H.mk [] [] []) = (AV.bool false, H.mk [] [] [])) ∧ True) (by kernel_rfl) ?_
      refine ⟨lp, ?_⟩
      refine And.intro ?_ ?_
      · skip
        intro y
        intro w1
        intro u
        first | with_reducible rfl | (refine bleaf_t ?_; omega) | (refine bleaf_f ?_; omega) | (refine ileaf ?_; omega) | rfl | (exfalso; omega)
      · skip
        refine And.intro ?_ ?_
        · skip
          intro y
          intro w1
          intro u
          refine ⟨by first | with_reducible assumption | omega | assumption, ?_⟩
          refine ⟨by first | with_reducible assumption | omega | assumption, ?_⟩
          first | with_reducible rfl | (refine bleaf_t ?_; omega) | (refine bleaf_f ?_; omega) | (refine ileaf ?_; omega) | rfl | (exfalso; omega)
        · skip
          trivial
  · rw [sB_f (fun q => by have := q.l1; omega)]
    have c1 : (s.length : Int) < 1 := by omega
    refine body_s ([Ans.loop [(0 : Nat), (5 : Nat), (6 : Nat), (7 : Nat)] [Out.mk Unit AX.ret [(2 : Nat)] (fun x => ¬SK s) (fun x => [AV.bool false]) (fun x => H.nil) fun y => [], Out.mk Unit (AX.exit (0 : Nat)) [(0 : Nat)] (fun x => SK s) (fun x => [ls s r]) (fun x => H.nil) fun y => [Ans.o (Orc.b false)]]]) (LoopS (Env.mk Tryd.prog (Sof (P := Tryd.prog) []) (Pof (P := Tryd.prog) []) H.nil.base (300 : Nat)) (loopAt Tryd.f25 (0 : Nat)) (40 : Nat) [(0 : Nat), (5 : Nat), (6 : Nat), (7 : Nat)] [AV.sl (ints s) s.length r, AV.sl (ints s) s.length r, I (↑s.length : Int), I 0] (H.mk [] [] []) [Out.mk Unit AX.ret [(2 : Nat)] (fun x => ¬SK s) (fun x => [AV.bool false]) (fun x => H.nil) fun y => [], Out.mk Unit (AX.exit (0 : Nat)) [(0 : Nat)] (fun x => SK s) (fun x => [ls s r]) (fun x => H.nil) fun y => [Ans.o (Orc.b false)]] ∧ (∀ (y : Unit), ¬SK s → ∀ (u : Nat → AV), (AV.bool false, H.mk [] [] []) = (AV.bool false, H.mk [] [] [])) ∧ (∀ (y : Unit), SK s → ∀ (u : Nat → AV), (↑s.length : Int) < (1 : Int) ∧ (AV.bool false, H.mk [] [] []) = (AV.bool false, H.mk [] [] [])) ∧ True) (by kernel_rfl) ?_
    refine ⟨lp, ?_⟩
    refine And.intro ?_ ?_
    · skip
      intro y
      intro w1
      intro u
      first | with_reducible rfl | (refine bleaf_t ?_; omega) | (refine bleaf_f ?_; omega) | (refine ileaf ?_; omega) | rfl | (exfalso; omega)
    · skip
      refine And.intro ?_ ?_
      · skip
        intro y
        intro w1
        intro u
        refine ⟨by first | with_reducible assumption | omega | assumption, ?_⟩
        first | with_reducible rfl | (refine bleaf_t ?_; omega) | (refine bleaf_f ?_; omega) | (refine ileaf ?_; omega) | rfl | (exfalso; omega)
      · skip
        trivial
noncomputable def c25 : PCtr Tryd.prog := sctr ok25 (X := List Int × Room) (fun x => [ls x.1 x.2]) (fun x => lim x.1.length ∧ rok x.1 x.2) (fun x => .bool (sB x.1)) (by intro x y e _ _; simp [Int.natCast_inj] at e; simp [e]) (fun x => by simp [AV.bnds, AV.bnd, AV.wk, rm_wk_bnd]) (fun x => by first | rfl | (simp [AV.bnd, rm_wk_bnd]; done)  | (simp [AV.bnd, AV.bnds, rm_wk_bnd]; done) | simp [AV.bnd, AV.bnds, Room.bnd, rm_wk_bnd]) (fun x hx => ⟨_, _, _, .nil, r25 (x.1) (x.2).wk (by first | exact hx | (simp only [rok_wk]; exact hx) | (simp only [rok_wk, lst_wk]; exact hx) | (simp only [rok_wk, lst_wk, lsn_wk]; exact hx))⟩)
/-- 'Equal' of the same lists -/
noncomputable def c22h : PCtr Tryd.prog where
  f := 22
  X := (List Int × Nat × Room) × List Int × Nat × Room
  args x := [.sl (ints x.1.1) x.1.2.1 x.1.2.2, .sl (ints x.2.1) x.2.2.1 x.2.2.2]
  pre x := (x.1.1 = x.2.1 ∧ x.1.1.length = x.1.2.1 ∧ x.2.1.length = x.2.2.1) ∧ lim x.1.1.length ∧ rok x.1.1 x.1.2.2 ∧ rok x.2.1 x.2.2.2
  v _ := .bool true
  det := by intro x y e _ _; rfl
  ok := by
    rintro ⟨⟨l, n, r⟩, m, k, s⟩ ⟨⟨h1, h2, h3⟩, h4, h5, h6⟩
    simp only at h1 h2 h3 h4 h5 h6
    subst h1 h2
    subst h3
    exact c22.ok (l, r, l, s) ⟨rfl, h4, h5, h6⟩
theorem cut_SB {s : List Int} (h : ¬ SB s) : ¬ SB (cut s) := fun k => by
  have h8 := k.l8
  have : s.length ≤ 11 := by simp only [cut, List.length_take] at h8; omega
  rw [cut_eq this] at k
  exact h k
theorem rcl_em {l : List Int} {r : Room} : em l (rcl r) := fun e => by cases r <;> cases e
structure LE (s : List Int) : Prop where
  ev1 : IntKind.i64.wrap (2 * ws s s.length) = 2 * ws s s.length
  ev2 : IntKind.i64.wrap ((s.length : Int) - 1) = (s.length : Int) - 1
  ev3 : IntKind.i64.wrap ((s.length : Int) * ((s.length : Int) - 1)) = 2 * gm s.length
end Go.Proofs.Rnk

