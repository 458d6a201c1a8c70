/- Layer 1: both pans have as many coins; false coins are told apart. -/
import Derived.Test.YtbadfaiepgfpdaaWgG
import Derived.KernelRfl
set_option linter.unusedSimpArgs false
set_option linter.unusedVariables false
set_option linter.unnecessarySimpa false
set_option maxHeartbeats 4000000
namespace Go.Proofs.Weg
open Go Go.VM

/-- the sum of a weighing, over the first rows -/
def cs (t : List Row) (w : Nat) : Nat → Int
  | 0 => 0
  | j + 1 => cs t w j + (List.getD t j row0).1.getD w i0
abbrev lv (t : List Row) : Prop := ∀ w, w < (List.getD t 0 row0).1.length → cs t w t.length = 0
theorem tb_at {t : List Row} (h : tb t) {j w : Nat} (hj : j < t.length) (hw : w < (List.getD t 0 row0).1.length) : w < (List.getD t j row0).1.length ∧ -1 ≤ (List.getD t j row0).1.getD w i0 ∧ (List.getD t j row0).1.getD w i0 ≤ 1 := by
  obtain ⟨_, _, _, _, h5⟩ := h
  have hl := (h5 j hj).1
  have hw' : w < (List.getD t j row0).1.length := by omega
  exact ⟨hw', sg_at (h5 j hj).2 hw'⟩
theorem cs_bnd {t : List Row} (h : tb t) {w : Nat} (hw : w < (List.getD t 0 row0).1.length) : ∀ j, j ≤ t.length → -(j : Int) ≤ cs t w j ∧ cs t w j ≤ j
  | 0, _ => by simp [cs]
  | j + 1, hj => by
    have := cs_bnd h hw j (by omega)
    have := tb_at h (show j < t.length by omega) hw
    simp only [cs]
    omega
abbrev o61 (vs : List AV) : List Out := [.mk Unit (.exit 2) [0, 10, 11, 4] (fun _ => True) (fun _ => vs) (fun _ => .nil) (fun _ => [])]
theorem lp61i (t : List Row) (r : Room) (n w : Nat) (x10 : AV) (hn : t.length < n) (hw : w < (List.getD t 0 row0).1.length) (h2 : rok t r) (h3 : gr t) (h4 : tb t) :
    LoopTo ⟨Try.prog, Sof (P := Try.prog) [], Pof (P := Try.prog) [], H.nil.base, n⟩ (loopAt Try.f61 1) 30 [0, 10, 11, 3, 4, 14, 15, 16] [rs t r, x10, I w, I w, I 0, rs t r, I t.length, I 0] .nil (o61 [rs t r, x10, I w, I (cs t w t.length)]) := by
  refine loop_to (fun j vs h => h = .nil ∧ vs = [rs t r, x10, I w, I w, I (cs t w j), rs t r, I t.length, I j]) t.length ⟨rfl, rfl⟩ hn ?_
  rintro j vs h hj ⟨rfl, rfl⟩
  by_cases hz : (j : Int) < t.length
  · have hz' : j < t.length := by omega
    have hr := rok_idx h2 hz'
    have hrow := gr_row h3 hz'
    have hb := tb_at h4 hz' hw
    have hr' := rok_idx hrow.2 hb.1
    have hs := cs_bnd h4 hw j hj
    have hl := h4.2.1
    refine ⟨[Ans.o (Orc.b true), Ans.o (Orc.val (18 : Nat) (AV.cptr (rowsA (List.drop j t))) H.nil), Ans.o (Orc.val (19 : Nat) (AV.sl (ints (t.getD j row0).fst) (t.getD j row0).fst.length (rr (t.getD j row0).snd)) H.nil), Ans.o (Orc.val (23 : Nat) (AV.cptr (ints (List.drop w (t.getD j row0).fst))) (H.mk [] [] [])), Ans.o (Orc.val (24 : Nat) (I ((t.getD j row0).fst.getD w i0)) (H.mk [] [] []))], fun u => of_eq ((↑j : Int) < (↑t.length : Int) ∧ aIndexAddr Try.prog (48 : Nat) (AV.sl (rowsA t) t.length r) (I (↑j : Int)) = some (AV.cptr (rowsA (List.drop j t))) ∧ aLoad Try.prog (56 : Nat) (rowsA (List.drop j t)) = some (AV.sl (ints (t.getD j row0).fst) (t.getD j row0).fst.length (rr (t.getD j row0).snd)) ∧ aIndexAddr Try.prog (56 : Nat) (AV.sl (ints (t.getD j row0).fst) (t.getD j row0).fst.length (rr (t.getD j row0).snd)) (I (↑w : Int)) = some (AV.cptr (ints (List.drop w (t.getD j row0).fst))) ∧ aLoad Try.prog (3 : Nat) (ints (List.drop w (t.getD j row0).fst)) = some (I ((t.getD j row0).fst.getD w i0)) ∧ IntKind.i64.wrap (cs t w j + (t.getD j row0).fst.getD w i0) = cs t w j + (t.getD j row0).fst.getD w i0 ∧ IntKind.i64.wrap ((↑j : Int) + (1 : Int)) = (↑j : Int) + (1 : Int) ∧ (30 : Nat) = (30 : Nat) ∧ j < t.length ∧ Keep (H.mk [] [] [] = H.mk [] [] [] ∧ [AV.sl (rowsA t) t.length r, x10, I (↑w : Int), I (↑w : Int), I (cs t w j + (t.getD j row0).fst.getD w i0), AV.sl (rowsA t) t.length r, I (↑t.length : Int), I ((↑j : Int) + (1 : Int))] = [AV.sl (rowsA t) t.length r, x10, I (↑w : Int), I (↑w : Int), I (cs t w (j + (1 : Nat))), AV.sl (rowsA t) t.length r, I (↑t.length : Int), I (↑(j + (1 : Nat)) : Int)])) (by kernel_rfl) ?_⟩
    refine And.intro (by first | assumption | omega | (simp only [small, tiny, rng, decide_eq_true_eq, decide_eq_false_iff_not, true_or, or_true, true_and, and_true, Int.reduceEq, Int.reduceNeg, eq_self, reduceIte, if_true, if_false] at *; omega) | (simp [small, tiny, rng, decide_eq_true_eq, decide_eq_false_iff_not, true_or, or_true, true_and, and_true, Int.reduceEq, Int.reduceNeg, eq_self, reduceIte, if_true, if_false] at *; done)) ?_
    refine And.intro (by first | exact ix_rows (by kernel_rfl) (by omega) (by assumption) | exact ix_rows (by kernel_rfl) (by omega) (rok_idx (by assumption) (by omega))) ?_
    refine And.intro (by exact ld_rows (by kernel_rfl) (by kernel_rfl) (by omega)) ?_
    refine And.intro (by first | exact ix_ints (by kernel_rfl) (by omega) (by assumption) | exact ix_ints (by kernel_rfl) (by omega) (rok_idx (by assumption) (by omega))) ?_
    refine And.intro (by exact ld_ints (by kernel_rfl) (by kernel_rfl) (by omega)) ?_
    refine And.intro (by first | exact wr _ (by omega) (by omega) | (refine wr _ ?_ ?_ <;> (simp only [small, tiny, rng, decide_eq_true_eq, decide_eq_false_iff_not, true_or, or_true, true_and, and_true, Int.reduceEq, Int.reduceNeg, eq_self, reduceIte, if_true, if_false] at *; omega))) ?_
    refine And.intro (by first | exact wr _ (by omega) (by omega) | (refine wr _ ?_ ?_ <;> (simp only [small, tiny, rng, decide_eq_true_eq, decide_eq_false_iff_not, true_or, or_true, true_and, and_true, Int.reduceEq, Int.reduceNeg, eq_self, reduceIte, if_true, if_false] at *; omega))) ?_
    refine And.intro (by first | assumption | omega | (simp only [small, tiny, rng, decide_eq_true_eq, decide_eq_false_iff_not, true_or, or_true, true_and, and_true, Int.reduceEq, Int.reduceNeg, eq_self, reduceIte, if_true, if_false] at *; omega) | (simp [small, tiny, rng, decide_eq_true_eq, decide_eq_false_iff_not, true_or, or_true, true_and, and_true, Int.reduceEq, Int.reduceNeg, eq_self, reduceIte, if_true, if_false] at *; done)) ?_
    refine And.intro (by first | assumption | omega | (simp only [small, tiny, rng, decide_eq_true_eq, decide_eq_false_iff_not, true_or, or_true, true_and, and_true, Int.reduceEq, Int.reduceNeg, eq_self, reduceIte, if_true, if_false] at *; omega) | (simp [small, tiny, rng, decide_eq_true_eq, decide_eq_false_iff_not, true_or, or_true, true_and, and_true, Int.reduceEq, Int.reduceNeg, eq_self, reduceIte, if_true, if_false] at *; done)) ?_
    exact ⟨rfl, rfl⟩
  · have hz : (t.length : Int) ≤ j := by omega
    have hj' : j = t.length := by omega
    subst hj'
    refine ⟨[Ans.o (Orc.b false)], fun u => of_eq ((↑t.length : Int) ≤ (↑t.length : Int) ∧ (30 : Nat) = (30 : Nat) ∧ hits [Out.mk Unit (AX.exit (2 : Nat)) [(0 : Nat), (10 : Nat), (11 : Nat), (4 : Nat)] (fun x => True) (fun x => [rs t r, x10, I (↑w : Int), I (cs t w t.length)]) (fun x => H.nil) fun x => []] (AX.exit (2 : Nat)) [AV.sl (rowsA t) t.length r, u (1 : Nat), u (2 : Nat), I (↑w : Int), I (cs t w t.length), u (5 : Nat), u (6 : Nat), u (7 : Nat), u (8 : Nat), u (9 : Nat), x10, I (↑w : Int), u (12 : Nat), u (13 : Nat), AV.sl (rowsA t) t.length r, I (↑t.length : Int), I (↑t.length : Int), AV.bool false, u (18 : Nat), u (19 : Nat), u (20 : Nat), u (21 : Nat), u (22 : Nat), u (23 : Nat), u (24 : Nat), u (25 : Nat), u (26 : Nat), u (27 : Nat), u (28 : Nat), u (29 : Nat)] (H.mk [] [] [])) (by kernel_rfl) ?_⟩
    refine And.intro (by first | assumption | omega | (simp only [small, tiny, rng, decide_eq_true_eq, decide_eq_false_iff_not, true_or, or_true, true_and, and_true, Int.reduceEq, Int.reduceNeg, eq_self, reduceIte, if_true, if_false] at *; omega) | (simp [small, tiny, rng, decide_eq_true_eq, decide_eq_false_iff_not, true_or, or_true, true_and, and_true, Int.reduceEq, Int.reduceNeg, eq_self, reduceIte, if_true, if_false] at *; done)) ?_
    refine And.intro (by first | assumption | omega | (simp only [small, tiny, rng, decide_eq_true_eq, decide_eq_false_iff_not, true_or, or_true, true_and, and_true, Int.reduceEq, Int.reduceNeg, eq_self, reduceIte, if_true, if_false] at *; omega) | (simp [small, tiny, rng, decide_eq_true_eq, decide_eq_false_iff_not, true_or, or_true, true_and, and_true, Int.reduceEq, Int.reduceNeg, eq_self, reduceIte, if_true, if_false] at *; done)) ?_
    first | exact .inl ⟨(), by first | assumption | trivial, rfl, rfl, rfl⟩ | exact .inr (.inl ⟨(), by first | assumption | trivial, rfl, rfl, rfl⟩) | exact .inr (.inr (.inl ⟨(), by first | assumption | trivial, rfl, rfl, rfl⟩))
theorem lp61 (t : List Row) (r : Room) (h2 : rok t r) (h3 : gr t) (h4 : tb t) :
    LoopTo ⟨Try.prog, Sof (P := Try.prog) [], Pof (P := Try.prog) [], H.nil.base, 2000⟩ (loopAt Try.f61 0) 30 [0, 10, 11] [rs t r, I (List.getD t 0 row0).1.length, I 0] .nil (o60 (lv t) (¬ lv t)) := by
  have hl := h4.2.1
  have hk := h4.2.2.2.1
  refine loop_to (fun j vs h => h = .nil ∧ vs = [rs t r, I (List.getD t 0 row0).1.length, I j] ∧ ∀ w, w < j → cs t w t.length = 0) (List.getD t 0 row0).1.length ⟨rfl, rfl, fun i hi => absurd hi (by omega)⟩ (by omega) ?_
  rintro w vs h hj ⟨rfl, rfl, ha⟩
  by_cases hz : (w : Int) < (List.getD t 0 row0).1.length
  · have hz' : w < (List.getD t 0 row0).1.length := by omega
    have no : cs t w t.length ≠ 0 → ¬ lv t := fun hn h => hn (h w hz')
    refine ⟨[Ans.o (Orc.b true), Ans.loop [(0 : Nat), (10 : Nat), (11 : Nat), (3 : Nat), (4 : Nat), (14 : Nat), (15 : Nat), (16 : Nat)] [Out.mk Unit (AX.exit (2 : Nat)) [(0 : Nat), (10 : Nat), (11 : Nat), (4 : Nat)] (fun x => True) (fun x => [rs t r, I (↑(t.getD (0 : Nat) row0).fst.length : Int), I (↑w : Int), I (cs t w t.length)]) (fun x => H.nil) fun y => [Ans.fork [] []]]], fun u => of_eq ((↑w : Int) < (↑(t.getD (0 : Nat) row0).fst.length : Int) ∧ LoopTo (Env.mk Try.prog (Sof (P := Try.prog) []) (Pof (P := Try.prog) []) H.nil.base (2000 : Nat)) (loopAt Try.f61 (1 : Nat)) (30 : Nat) [(0 : Nat), (10 : Nat), (11 : Nat), (3 : Nat), (4 : Nat), (14 : Nat), (15 : Nat), (16 : Nat)] [AV.sl (rowsA t) t.length r, I (↑(t.getD (0 : Nat) row0).fst.length : Int), I (↑w : Int), I (↑w : Int), I (0 : Int), AV.sl (rowsA t) t.length r, I (↑t.length : Int), I (0 : Int)] (H.mk [] [] []) [Out.mk Unit (AX.exit (2 : Nat)) [(0 : Nat), (10 : Nat), (11 : Nat), (4 : Nat)] (fun x => True) (fun x => [rs t r, I (↑(t.getD (0 : Nat) row0).fst.length : Int), I (↑w : Int), I (cs t w t.length)]) (fun x => H.nil) fun y => [Ans.fork [] []]] ∧ (∀ (y : Unit), True → ∀ (u : Nat → AV), (cs t w t.length ≠ (0 : Int) → (30 : Nat) = (30 : Nat) ∧ hits [Out.mk Unit AX.ret [(2 : Nat)] (fun x => ¬lv t) (fun x => [AV.bool false]) (fun x => H.nil) fun x => [], Out.mk Unit (AX.exit (0 : Nat)) [] (fun x => lv t) (fun x => []) (fun x => H.nil) fun x => []] AX.ret [AV.sl (rowsA t) t.length r, u (1 : Nat), AV.bool false, u (3 : Nat), I (cs t w t.length), u (5 : Nat), u (6 : Nat), u (7 : Nat), u (8 : Nat), u (9 : Nat), I (↑(t.getD (0 : Nat) row0).fst.length : Int), I (↑w : Int), u (12 : Nat), u (13 : Nat), u (14 : Nat), u (15 : Nat), u (16 : Nat), u (17 : Nat), u (18 : Nat), u (19 : Nat), u (20 : Nat), u (21 : Nat), u (22 : Nat), u (23 : Nat), u (24 : Nat), u (25 : Nat), u (26 : Nat), I (cs t w t.length), AV.bool true, u (29 : Nat)] (H.mk [] [] [])) ∧ (cs t w t.length = (0 : Int) → IntKind.i64.wrap ((↑w : Int) + (1 : Int)) = (↑w : Int) + (1 : Int) ∧ (30 : Nat) = (30 : Nat) ∧ w < (t.getD (0 : Nat) row0).fst.length ∧ Keep (H.mk [] [] [] = H.mk [] [] [] ∧ [AV.sl (rowsA t) t.length r, I (↑(t.getD (0 : Nat) row0).fst.length : Int), I ((↑w : Int) + (1 : Int))] = [AV.sl (rowsA t) t.length r, I (↑(t.getD (0 : Nat) row0).fst.length : Int), I (↑(w + (1 : Nat)) : Int)] ∧ ∀ (w_1 : Nat), w_1 < w + (1 : Nat) → cs t w_1 t.length = (0 : Int)))) ∧ True) (by kernel_rfl) ?_⟩
    refine And.intro (by first | assumption | omega | (simp only [small, tiny, rng, decide_eq_true_eq, decide_eq_false_iff_not, true_or, or_true, true_and, and_true, Int.reduceEq, Int.reduceNeg, eq_self, reduceIte, if_true, if_false] at *; omega) | (simp [small, tiny, rng, decide_eq_true_eq, decide_eq_false_iff_not, true_or, or_true, true_and, and_true, Int.reduceEq, Int.reduceNeg, eq_self, reduceIte, if_true, if_false] at *; done)) ?_
    refine And.intro (by exact lp61i t r _ w _ (by omega) hz' h2 h3 h4) ?_
    refine And.intro ?_ ?_
    · skip
      intro y
      intro w1
      intro u
      refine And.intro ?_ ?_
      · skip
        intro w3
        refine And.intro (by first | assumption | omega | (simp only [small, tiny, rng, decide_eq_true_eq, decide_eq_false_iff_not, true_or, or_true, true_and, and_true, Int.reduceEq, Int.reduceNeg, eq_self, reduceIte, if_true, if_false] at *; omega) | (simp [small, tiny, rng, decide_eq_true_eq, decide_eq_false_iff_not, true_or, or_true, true_and, and_true, Int.reduceEq, Int.reduceNeg, eq_self, reduceIte, if_true, if_false] at *; done)) ?_
        exact .inl ⟨(), no (by assumption), rfl, rfl, rfl⟩
      · skip
        intro w3
        refine And.intro (by first | exact wr _ (by omega) (by omega) | (refine wr _ ?_ ?_ <;> (simp only [small, tiny, rng, decide_eq_true_eq, decide_eq_false_iff_not, true_or, or_true, true_and, and_true, Int.reduceEq, Int.reduceNeg, eq_self, reduceIte, if_true, if_false] at *; omega))) ?_
        refine And.intro (by first | assumption | omega | (simp only [small, tiny, rng, decide_eq_true_eq, decide_eq_false_iff_not, true_or, or_true, true_and, and_true, Int.reduceEq, Int.reduceNeg, eq_self, reduceIte, if_true, if_false] at *; omega) | (simp [small, tiny, rng, decide_eq_true_eq, decide_eq_false_iff_not, true_or, or_true, true_and, and_true, Int.reduceEq, Int.reduceNeg, eq_self, reduceIte, if_true, if_false] at *; done)) ?_
        refine And.intro (by first | assumption | omega | (simp only [small, tiny, rng, decide_eq_true_eq, decide_eq_false_iff_not, true_or, or_true, true_and, and_true, Int.reduceEq, Int.reduceNeg, eq_self, reduceIte, if_true, if_false] at *; omega) | (simp [small, tiny, rng, decide_eq_true_eq, decide_eq_false_iff_not, true_or, or_true, true_and, and_true, Int.reduceEq, Int.reduceNeg, eq_self, reduceIte, if_true, if_false] at *; done)) ?_
        exact ⟨rfl, rfl, all_succ (q := fun w => cs t w t.length = 0) ha (by assumption)⟩
    · skip
      trivial
  · have hz : ((List.getD t 0 row0).1.length : Int) ≤ w := by omega
    have hk : lv t := all_full ha hj hz
    refine ⟨[Ans.o (Orc.b false)], fun u => of_eq ((↑(t.getD (0 : Nat) row0).fst.length : Int) ≤ (↑w : Int) ∧ (30 : Nat) = (30 : Nat) ∧ hits [Out.mk Unit AX.ret [(2 : Nat)] (fun x => ¬lv t) (fun x => [AV.bool false]) (fun x => H.nil) fun x => [], Out.mk Unit (AX.exit (0 : Nat)) [] (fun x => lv t) (fun x => []) (fun x => H.nil) fun x => []] (AX.exit (0 : Nat)) [AV.sl (rowsA t) t.length r, u (1 : Nat), u (2 : Nat), u (3 : Nat), u (4 : Nat), u (5 : Nat), u (6 : Nat), u (7 : Nat), u (8 : Nat), u (9 : Nat), I (↑(t.getD (0 : Nat) row0).fst.length : Int), I (↑w : Int), AV.bool false, u (13 : Nat), u (14 : Nat), u (15 : Nat), u (16 : Nat), u (17 : Nat), u (18 : Nat), u (19 : Nat), u (20 : Nat), u (21 : Nat), u (22 : Nat), u (23 : Nat), u (24 : Nat), u (25 : Nat), u (26 : Nat), u (27 : Nat), u (28 : Nat), u (29 : Nat)] (H.mk [] [] [])) (by kernel_rfl) ?_⟩
    refine And.intro (by first | assumption | omega | (simp only [small, tiny, rng, decide_eq_true_eq, decide_eq_false_iff_not, true_or, or_true, true_and, and_true, Int.reduceEq, Int.reduceNeg, eq_self, reduceIte, if_true, if_false] at *; omega) | (simp [small, tiny, rng, decide_eq_true_eq, decide_eq_false_iff_not, true_or, or_true, true_and, and_true, Int.reduceEq, Int.reduceNeg, eq_self, reduceIte, if_true, if_false] at *; done)) ?_
    refine And.intro (by first | assumption | omega | (simp only [small, tiny, rng, decide_eq_true_eq, decide_eq_false_iff_not, true_or, or_true, true_and, and_true, Int.reduceEq, Int.reduceNeg, eq_self, reduceIte, if_true, if_false] at *; omega) | (simp [small, tiny, rng, decide_eq_true_eq, decide_eq_false_iff_not, true_or, or_true, true_and, and_true, Int.reduceEq, Int.reduceNeg, eq_self, reduceIte, if_true, if_false] at *; done)) ?_
    first | exact .inl ⟨(), by first | assumption | trivial, rfl, rfl, rfl⟩ | exact .inr (.inl ⟨(), by first | assumption | trivial, rfl, rfl, rfl⟩) | exact .inr (.inr (.inl ⟨(), by first | assumption | trivial, rfl, rfl, rfl⟩))
theorem ok61 : Fok Try.prog 61 Try.f61 := ⟨mixed, by kernel_rfl, by kernel_rfl, by kernel_rfl, by kernel_rfl⟩
theorem r61 (t : List Row) (r : Room) (hp : rok t r ∧ gr t ∧ tb t) : ebody Try.prog (Pof (P := Try.prog) []) (Sof (P := Try.prog) []) (2000) Try.f61 (bd Try.f61) [rs t r] .nil = some (.bool (decide (lv t)), .nil) := by
  obtain ⟨q1, q2, q3⟩ := hp
  have hz' : 0 < t.length := by have := q3.1; omega
  have hr := rok_idx q1 hz'
  refine body_wV ([Ans.o (Orc.val (8 : Nat) (AV.cptr (rowsA (List.drop (0 : Nat) t))) (H.mk [] [] [])), Ans.o (Orc.val (9 : Nat) (AV.sl (ints (t.getD (0 : Nat) row0).fst) (t.getD (0 : Nat) row0).fst.length (rr (t.getD (0 : Nat) row0).snd)) (H.mk [] [] [])), Ans.loop [(0 : Nat), (10 : Nat), (11 : Nat)] [Out.mk Unit AX.ret [(2 : Nat)] (fun x => ¬lv t) (fun x => [AV.bool false]) (fun x => H.nil) fun y => [], Out.mk Unit (AX.exit (0 : Nat)) [] (fun x => lv t) (fun x => []) (fun x => H.nil) fun y => []]]) (aIndexAddr Try.prog (48 : Nat) (AV.sl (rowsA t) t.length r) (I (0 : Int)) = some (AV.cptr (rowsA (List.drop (0 : Nat) t))) ∧ aLoad Try.prog (56 : Nat) (rowsA (List.drop (0 : Nat) t)) = some (AV.sl (ints (t.getD (0 : Nat) row0).fst) (t.getD (0 : Nat) row0).fst.length (rr (t.getD (0 : Nat) row0).snd)) ∧ LoopTo (Env.mk Try.prog (Sof (P := Try.prog) []) (Pof (P := Try.prog) []) H.nil.base (2000 : Nat)) (loopAt Try.f61 (0 : Nat)) (30 : Nat) [(0 : Nat), (10 : Nat), (11 : Nat)] [AV.sl (rowsA t) t.length r, I (↑(t.getD (0 : Nat) row0).fst.length : Int), I (0 : Int)] (H.mk [] [] []) [Out.mk Unit AX.ret [(2 : Nat)] (fun x => ¬lv t) (fun x => [AV.bool false]) (fun x => H.nil) fun y => [], Out.mk Unit (AX.exit (0 : Nat)) [] (fun x => lv t) (fun x => []) (fun x => H.nil) fun y => []] ∧ (∀ (y : Unit), ¬lv t → ∀ (u : Nat → AV), (AV.bool false, H.mk [] [] []) = (AV.bool (decide (lv t)), H.mk [] [] [])) ∧ (∀ (y : Unit), (∀ (w : Nat), w < (t.getD (0 : Nat) row0).fst.length → cs t w t.length = (0 : Int)) → ∀ (u : Nat → AV), (AV.bool true, H.mk [] [] []) = (AV.bool (decide (lv t)), H.mk [] [] [])) ∧ True) (by kernel_rfl) ?_
  refine And.intro (by first | exact ix_rows (by kernel_rfl) (by omega) (by assumption) | exact ix_rows (by kernel_rfl) (by omega) (rok_idx (by assumption) (by omega))) ?_
  refine And.intro (by exact ld_rows (by kernel_rfl) (by kernel_rfl) (by omega)) ?_
  refine And.intro (by exact lp61 t r q1 q2 q3) ?_
  refine And.intro ?_ ?_
  · skip
    intro y
    intro w1
    intro u
    first | with_reducible rfl | (refine bleaf_t ?_; first | omega | (simp only [small, tiny, rng, decide_eq_true_eq, decide_eq_false_iff_not, true_or, or_true, true_and, and_true, Int.reduceEq, Int.reduceNeg, eq_self, reduceIte, if_true, if_false] at *; omega)) | (refine bleaf_f ?_; first | omega | (simp only [small, tiny, rng, decide_eq_true_eq, decide_eq_false_iff_not, true_or, or_true, true_and, and_true, Int.reduceEq, Int.reduceNeg, eq_self, reduceIte, if_true, if_false] at *; omega)) | (refine ileaf ?_; first | omega | (simp only [small, tiny, rng, decide_eq_true_eq, decide_eq_false_iff_not, true_or, or_true, true_and, and_true, Int.reduceEq, Int.reduceNeg, eq_self, reduceIte, if_true, if_false] at *; omega)) | (exfalso; omega) | (simp only [Prod.mk.injEq, AV.agg.injEq, AV.tup.injEq, List.cons.injEq, AV.int.injEq, AV.bool.injEq, and_true, true_and]; (repeat' apply And.intro) <;> first | with_reducible rfl | (simp []; done) | (simp []; omega) | omega | (simp only [small, tiny, rng, decide_eq_true_eq, decide_eq_false_iff_not, true_or, or_true, true_and, and_true, Int.reduceEq, Int.reduceNeg, eq_self, reduceIte, if_true, if_false] at *; omega) | (simp [small, tiny, rng, decide_eq_true_eq, decide_eq_false_iff_not, true_or, or_true, true_and, and_true, Int.reduceEq, Int.reduceNeg, eq_self, reduceIte, if_true, if_false, *]; done) | (simp [small, tiny, rng, decide_eq_true_eq, decide_eq_false_iff_not, true_or, or_true, true_and, and_true, Int.reduceEq, Int.reduceNeg, eq_self, reduceIte, if_true, if_false, *]; omega)) | (exfalso; simp only [small, tiny, rng, decide_eq_true_eq, decide_eq_false_iff_not, true_or, or_true, true_and, and_true, Int.reduceEq, Int.reduceNeg, eq_self, reduceIte, if_true, if_false] at *; omega) | (simp [small, tiny, rng, decide_eq_true_eq, decide_eq_false_iff_not, true_or, or_true, true_and, and_true, Int.reduceEq, Int.reduceNeg, eq_self, reduceIte, if_true, if_false] at *; done) | (simp [small, tiny, rng, decide_eq_true_eq, decide_eq_false_iff_not, true_or, or_true, true_and, and_true, Int.reduceEq, Int.reduceNeg, eq_self, reduceIte, if_true, if_false] at *; omega)
  · skip
    refine And.intro ?_ ?_
    · skip
      intro y
      intro w1
      intro u
      first | with_reducible rfl | (refine bleaf_t ?_; first | omega | (simp only [small, tiny, rng, decide_eq_true_eq, decide_eq_false_iff_not, true_or, or_true, true_and, and_true, Int.reduceEq, Int.reduceNeg, eq_self, reduceIte, if_true, if_false] at *; omega)) | (refine bleaf_f ?_; first | omega | (simp only [small, tiny, rng, decide_eq_true_eq, decide_eq_false_iff_not, true_or, or_true, true_and, and_true, Int.reduceEq, Int.reduceNeg, eq_self, reduceIte, if_true, if_false] at *; omega)) | (refine ileaf ?_; first | omega | (simp only [small, tiny, rng, decide_eq_true_eq, decide_eq_false_iff_not, true_or, or_true, true_and, and_true, Int.reduceEq, Int.reduceNeg, eq_self, reduceIte, if_true, if_false] at *; omega)) | (exfalso; omega) | (simp only [Prod.mk.injEq, AV.agg.injEq, AV.tup.injEq, List.cons.injEq, AV.int.injEq, AV.bool.injEq, and_true, true_and]; (repeat' apply And.intro) <;> first | with_reducible rfl | (simp []; done) | (simp []; omega) | omega | (simp only [small, tiny, rng, decide_eq_true_eq, decide_eq_false_iff_not, true_or, or_true, true_and, and_true, Int.reduceEq, Int.reduceNeg, eq_self, reduceIte, if_true, if_false] at *; omega) | (simp [small, tiny, rng, decide_eq_true_eq, decide_eq_false_iff_not, true_or, or_true, true_and, and_true, Int.reduceEq, Int.reduceNeg, eq_self, reduceIte, if_true, if_false, *]; done) | (simp [small, tiny, rng, decide_eq_true_eq, decide_eq_false_iff_not, true_or, or_true, true_and, and_true, Int.reduceEq, Int.reduceNeg, eq_self, reduceIte, if_true, if_false, *]; omega)) | (exfalso; simp only [small, tiny, rng, decide_eq_true_eq, decide_eq_false_iff_not, true_or, or_true, true_and, and_true, Int.reduceEq, Int.reduceNeg, eq_self, reduceIte, if_true, if_false] at *; omega) | (simp [small, tiny, rng, decide_eq_true_eq, decide_eq_false_iff_not, true_or, or_true, true_and, and_true, Int.reduceEq, Int.reduceNeg, eq_self, reduceIte, if_true, if_false] at *; done) | (simp [small, tiny, rng, decide_eq_true_eq, decide_eq_false_iff_not, true_or, or_true, true_and, and_true, Int.reduceEq, Int.reduceNeg, eq_self, reduceIte, if_true, if_false] at *; omega)
    · skip
      trivial
noncomputable def c61 : PCtr Try.prog := pctr ok61 (X := List Row × Room) (fun x => [rs x.1 x.2]) (fun x => rok x.1 x.2 ∧ gr x.1 ∧ tb x.1) (fun x => .bool (decide (lv x.1))) (by intro x y e _ _; simp at e; simp [e]) (fun x => by simp [AV.bnds, AV.bnd, AV.wk, rm_wk_bnd]) (fun _ => rfl) (pof_ok _) (sof_ok _) (fun x => 2000) (fun x hx => r61 (x.1) (x.2).wk (by simp only [rok_wk]; exact hx))

abbrev aq (t : List Row) (i k : Nat) : Prop := ¬ sm (List.getD t i row0).1 (List.getD t k row0).1 1 ∧ ¬ sm (List.getD t i row0).1 (List.getD t k row0).1 (-1)
abbrev ar (t : List Row) (i : Nat) : Prop := ¬ sm (List.getD t i row0).1 (List.getD t i row0).1 (-1) ∧ ∀ k, k < i → aq t i k
abbrev ap (t : List Row) : Prop := ∀ i, i < t.length → ar t i
theorem take_at (t : List Row) {i k : Nat} (h : k < i) : (t.take i).getD k row0 = List.getD t k row0 := by
  simp only [List.getD_eq_getElem?_getD, List.getElem?_take, if_pos h]
end Go.Proofs.Weg
