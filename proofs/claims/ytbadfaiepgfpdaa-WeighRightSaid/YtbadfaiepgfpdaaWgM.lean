/- Layer 1: a table copied. -/
import Derived.Test.YtbadfaiepgfpdaaWgL
import Derived.KernelRfl
set_option linter.unusedSimpArgs false
set_option linter.unusedVariables false
set_option linter.unnecessarySimpa false
set_option maxHeartbeats 4000000
namespace Go.Proofs.Weg
open Go Go.VM

abbrev cr (x : Row) : Row := (cut x.1, x.2.cl)
def tc (t : List Row) (j : Nat) : List Row := ((t.take j).take 16).map cr
theorem tc_succ {t : List Row} {j : Nat} (h : j < t.length) (h' : j < 16) : tc t (j + 1) = tc t j ++ [(cut (List.getD t j row0).1, (List.getD t j row0).2.cl)] := by
  have e : List.getD t j row0 = t[j] := by simp [List.getD_eq_getElem?_getD, List.getElem?_eq_getElem h]
  simp only [tc, List.take_take]
  rw [show min 16 (j + 1) = j + 1 by omega, show min 16 j = j by omega, List.take_add_one, List.getElem?_eq_getElem h, e]
  simp only [Option.toList_some, List.map_append, List.map_cons, List.map_nil]
theorem tc_stay {t : List Row} {j : Nat} (h' : 16 ≤ j) : tc t (j + 1) = tc t j := by
  simp only [tc, List.take_take]
  rw [show min 16 (j + 1) = 16 by omega, show min 16 j = 16 by omega]
def tab (t : List Row) : List Row := (t.take 16).map cr
theorem tc_full (t : List Row) : tc t t.length = tab t := by simp [tc, tab]
theorem tc_le (t : List Row) (j : Nat) : (tc t j).length ≤ 16 := by simp [tc]; omega
abbrev acc (l : List Row) : AV := .sl (rowsA l) l.length (rm 0 l)
abbrev hacc (l : List Row) : H := ⟨[], tk l, []⟩
abbrev o30 (v : AV) (h : H) : List Out := [.mk Unit (.exit 0) [3] (fun _ => True) (fun _ => [v]) (fun _ => h) (fun _ => [])]
theorem lp30 (t : List Row) (r : Room) (h1 : lim t.length) (h2 : rok t r) (h3 : gr t) :
    LoopTo ⟨Try.prog, Sof [c36.to], Pof [c36], H.nil.base, 2000 + t.length⟩ (loopAt Try.f30 0) 22 [3, 6, 7, 8] [.sl [] 0 .nil, rs t r, I t.length, I 0] .nil (o30 (acc (tab t)) (hacc (tab t))) := by
  refine loop_to (fun j vs h => h = hacc (tc t j) ∧ vs = [acc (tc t j), rs t r, I t.length, I j]) t.length ⟨rfl, rfl⟩ (by omega) ?_
  rintro j vs h hj ⟨rfl, rfl⟩
  by_cases hz : (j : Int) < t.length
  · have hz' : j < t.length := by omega
    have hr := rok_idx h2 hz'
    have hp := h3 j hz'
    have hle := tc_le t j
    by_cases hs : (j : Int) < 16
    · have htc := tc_succ hz' (show j < 16 by omega)
      refine ⟨[Ans.o (Orc.b true), Ans.o (Orc.val (11 : Nat) (AV.cptr (rowsA (List.drop j t))) (H.mk [] (tk (tc t j)) [])), Ans.o (Orc.val (12 : Nat) (AV.sl (ints (t.getD j row0).fst) (t.getD j row0).fst.length (rr (t.getD j row0).snd)) (H.mk [] (tk (tc t j)) [])), Ans.o (Orc.b true), Ans.o (Orc.val (17 : Nat) (AV.sl (ints (cut (t.getD j row0).fst)) (cut (t.getD j row0).fst).length (rr (t.getD j row0).snd.cl)) (H.mk [] (tk (tc t j)) [])), Ans.o (Orc.val (19 : Nat) (AV.sl (rowsA (tc t j ++ [(List.take (16 : Nat) (t.getD j row0).fst, match (t.getD j row0).snd with | RK.n => RK.n | x => RK.l)])) (tc t j ++ [(List.take (16 : Nat) (t.getD j row0).fst, match (t.getD j row0).snd with | RK.n => RK.n | x => RK.l)]).length (rm (0 : Nat) (tc t j ++ [(List.take (16 : Nat) (t.getD j row0).fst, match (t.getD j row0).snd with | RK.n => RK.n | x => RK.l)]))) (H.mk [] (tk (tc t j ++ [(List.take (16 : Nat) (t.getD j row0).fst, match (t.getD j row0).snd with | RK.n => RK.n | x => RK.l)])) []))], fun u => of_eq ((↑j : Int) < (↑t.length : Int) ∧ aIndexAddr Try.prog (48 : Nat) (AV.sl (rowsA t) t.length r) (I (↑j : Int)) = some (AV.cptr (rowsA (List.drop j t))) ∧ aLoad Try.prog (56 : Nat) (rowsA (List.drop j t)) = some (AV.sl (ints (t.getD j row0).fst) (t.getD j row0).fst.length (rr (t.getD j row0).snd)) ∧ (↑j : Int) < (16 : Int) ∧ aCall (Sof [c36.to]) (AV.fn (Fn.func (36 : Nat)) [] []) [AV.sl (ints (t.getD j row0).fst) (t.getD j row0).fst.length (rr (t.getD j row0).snd)] (H.mk [] (tk (tc t j)) []) = some (AV.sl (ints (cut (t.getD j row0).fst)) (cut (t.getD j row0).fst).length (rr (t.getD j row0).snd.cl), H.mk [] (tk (tc t j)) []) ∧ aAppend Try.prog (48 : Nat) (48 : Nat) (AV.sl (rowsA (tc t j)) (tc t j).length (rm (0 : Nat) (tc t j))) (AV.sl [AV.sl (ints (cut (t.getD j row0).fst)) (cut (t.getD j row0).fst).length (rr (t.getD j row0).snd.cl)] (1 : Nat) Room.full) (H.mk [] (tk (tc t j)) []) = some (AV.sl (rowsA (tc t j ++ [(List.take (16 : Nat) (t.getD j row0).fst, match (t.getD j row0).snd with | RK.n => RK.n | x => RK.l)])) (tc t j ++ [(List.take (16 : Nat) (t.getD j row0).fst, match (t.getD j row0).snd with | RK.n => RK.n | x => RK.l)]).length (rm (0 : Nat) (tc t j ++ [(List.take (16 : Nat) (t.getD j row0).fst, match (t.getD j row0).snd with | RK.n => RK.n | x => RK.l)])), H.mk [] (tk (tc t j ++ [(List.take (16 : Nat) (t.getD j row0).fst, match (t.getD j row0).snd with | RK.n => RK.n | x => RK.l)])) []) ∧ IntKind.i64.wrap ((↑j : Int) + (1 : Int)) = (↑j : Int) + (1 : Int) ∧ (22 : Nat) = (22 : Nat) ∧ j < t.length ∧ Keep (H.mk [] (tk (tc t j ++ [(List.take (16 : Nat) (t.getD j row0).fst, match (t.getD j row0).snd with | RK.n => RK.n | x => RK.l)])) [] = H.mk [] (tk (tc t (j + (1 : Nat)))) [] ∧ [AV.sl (rowsA (tc t j ++ [(List.take (16 : Nat) (t.getD j row0).fst, match (t.getD j row0).snd with | RK.n => RK.n | x => RK.l)])) (tc t j ++ [(List.take (16 : Nat) (t.getD j row0).fst, match (t.getD j row0).snd with | RK.n => RK.n | x => RK.l)]).length (rm (0 : Nat) (tc t j ++ [(List.take (16 : Nat) (t.getD j row0).fst, match (t.getD j row0).snd with | RK.n => RK.n | x => RK.l)])), AV.sl (rowsA t) t.length r, I (↑t.length : Int), I ((↑j : Int) + (1 : Int))] = [AV.sl (rowsA (tc t (j + (1 : Nat)))) (tc t (j + (1 : Nat))).length (rm (0 : Nat) (tc t (j + (1 : Nat)))), AV.sl (rowsA t) t.length r, I (↑t.length : Int), I (↑(j + (1 : Nat)) : Int)])) (by kernel_rfl) ?_⟩
      refine And.intro (by first | assumption | omega | (simp only [small, tiny, rng, decide_eq_true_eq, decide_eq_false_iff_not, true_or, or_true, true_and, and_true, Int.reduceEq, Int.reduceNeg, eq_self, reduceIte, if_true, if_false] at *; omega) | (simp [small, tiny, rng, decide_eq_true_eq, decide_eq_false_iff_not, true_or, or_true, true_and, and_true, Int.reduceEq, Int.reduceNeg, eq_self, reduceIte, if_true, if_false] at *; done)) ?_
      refine And.intro (by first | exact ix_rows (by kernel_rfl) (by omega) (by assumption) | exact ix_rows (by kernel_rfl) (by omega) (rok_idx (by assumption) (by omega))) ?_
      refine And.intro (by exact ld_rows (by kernel_rfl) (by kernel_rfl) (by omega)) ?_
      refine And.intro (by first | assumption | omega | (simp only [small, tiny, rng, decide_eq_true_eq, decide_eq_false_iff_not, true_or, or_true, true_and, and_true, Int.reduceEq, Int.reduceNeg, eq_self, reduceIte, if_true, if_false] at *; omega) | (simp [small, tiny, rng, decide_eq_true_eq, decide_eq_false_iff_not, true_or, or_true, true_and, and_true, Int.reduceEq, Int.reduceNeg, eq_self, reduceIte, if_true, if_false] at *; done)) ?_
      refine And.intro (by first | (refine acall_hit (c := c36.to) (((t.getD j row0).fst, (t.getD j row0).snd)) _ rfl ?_; first | exact True.intro | exact hp | exact hp' | (simp only [c36, PCtr.to, pctr, lctr, small, tiny, rng, decide_eq_true_eq, decide_eq_false_iff_not, true_or, or_true, true_and, and_true, Int.reduceEq, Int.reduceNeg, eq_self, reduceIte, if_true, if_false]; first | assumption | omega) | (simp only [c36, PCtr.to, pctr, lctr, small, tiny, rng, decide_eq_true_eq, decide_eq_false_iff_not, true_or, or_true, true_and, and_true, Int.reduceEq, Int.reduceNeg, eq_self, reduceIte, if_true, if_false] at *; first | assumption | omega)) | (refine acall_b (acall_hit (c := c36.to) (((t.getD j row0).fst, (t.getD j row0).snd)) _ rfl ?_) (by assumption); first | exact True.intro | exact hp | exact hp' | (simp only [c36, PCtr.to, pctr, lctr, small, tiny, rng, decide_eq_true_eq, decide_eq_false_iff_not, true_or, or_true, true_and, and_true, Int.reduceEq, Int.reduceNeg, eq_self, reduceIte, if_true, if_false]; first | assumption | omega) | (simp only [c36, PCtr.to, pctr, lctr, small, tiny, rng, decide_eq_true_eq, decide_eq_false_iff_not, true_or, or_true, true_and, and_true, Int.reduceEq, Int.reduceNeg, eq_self, reduceIte, if_true, if_false] at *; first | assumption | omega))) ?_
      refine And.intro (by exact app_rows (l := tc t j) (x := (cut (List.getD t j row0).1, (List.getD t j row0).2.cl)) (by kernel_rfl) (by omega)) ?_
      refine And.intro (by first | exact wr _ (by omega) (by omega) | (refine wr _ ?_ ?_ <;> (simp only [small, tiny, rng, decide_eq_true_eq, decide_eq_false_iff_not, true_or, or_true, true_and, and_true, Int.reduceEq, Int.reduceNeg, eq_self, reduceIte, if_true, if_false] at *; omega))) ?_
      refine And.intro (by first | assumption | omega | (simp only [small, tiny, rng, decide_eq_true_eq, decide_eq_false_iff_not, true_or, or_true, true_and, and_true, Int.reduceEq, Int.reduceNeg, eq_self, reduceIte, if_true, if_false] at *; omega) | (simp [small, tiny, rng, decide_eq_true_eq, decide_eq_false_iff_not, true_or, or_true, true_and, and_true, Int.reduceEq, Int.reduceNeg, eq_self, reduceIte, if_true, if_false] at *; done)) ?_
      refine And.intro (by first | assumption | omega | (simp only [small, tiny, rng, decide_eq_true_eq, decide_eq_false_iff_not, true_or, or_true, true_and, and_true, Int.reduceEq, Int.reduceNeg, eq_self, reduceIte, if_true, if_false] at *; omega) | (simp [small, tiny, rng, decide_eq_true_eq, decide_eq_false_iff_not, true_or, or_true, true_and, and_true, Int.reduceEq, Int.reduceNeg, eq_self, reduceIte, if_true, if_false] at *; done)) ?_
      (show _ = _ ∧ _ = _; rw [htc]; exact ⟨rfl, rfl⟩)
    · have hs : (16 : Int) ≤ j := by omega
      have htc := tc_stay (t := t) (show 16 ≤ j by omega)
      refine ⟨[Ans.o (Orc.b true), Ans.o (Orc.val (11 : Nat) (AV.cptr (rowsA (List.drop j t))) (H.mk [] (tk (tc t j)) [])), Ans.o (Orc.val (12 : Nat) (AV.sl (ints (t.getD j row0).fst) (t.getD j row0).fst.length (rr (t.getD j row0).snd)) (H.mk [] (tk (tc t j)) [])), Ans.o (Orc.b false)], fun u => of_eq ((↑j : Int) < (↑t.length : Int) ∧ aIndexAddr Try.prog (48 : Nat) (AV.sl (rowsA t) t.length r) (I (↑j : Int)) = some (AV.cptr (rowsA (List.drop j t))) ∧ aLoad Try.prog (56 : Nat) (rowsA (List.drop j t)) = some (AV.sl (ints (t.getD j row0).fst) (t.getD j row0).fst.length (rr (t.getD j row0).snd)) ∧ (16 : Int) ≤ (↑j : Int) ∧ IntKind.i64.wrap ((↑j : Int) + (1 : Int)) = (↑j : Int) + (1 : Int) ∧ (22 : Nat) = (22 : Nat) ∧ j < t.length ∧ Keep (H.mk [] (tk (tc t j)) [] = H.mk [] (tk (tc t (j + (1 : Nat)))) [] ∧ [AV.sl (rowsA (tc t j)) (tc t j).length (rm (0 : Nat) (tc t j)), AV.sl (rowsA t) t.length r, I (↑t.length : Int), I ((↑j : Int) + (1 : Int))] = [AV.sl (rowsA (tc t (j + (1 : Nat)))) (tc t (j + (1 : Nat))).length (rm (0 : Nat) (tc t (j + (1 : Nat)))), AV.sl (rowsA t) t.length r, I (↑t.length : Int), I (↑(j + (1 : Nat)) : Int)])) (by kernel_rfl) ?_⟩
      refine And.intro (by first | assumption | omega | (simp only [small, tiny, rng, decide_eq_true_eq, decide_eq_false_iff_not, true_or, or_true, true_and, and_true, Int.reduceEq, Int.reduceNeg, eq_self, reduceIte, if_true, if_false] at *; omega) | (simp [small, tiny, rng, decide_eq_true_eq, decide_eq_false_iff_not, true_or, or_true, true_and, and_true, Int.reduceEq, Int.reduceNeg, eq_self, reduceIte, if_true, if_false] at *; done)) ?_
      refine And.intro (by first | exact ix_rows (by kernel_rfl) (by omega) (by assumption) | exact ix_rows (by kernel_rfl) (by omega) (rok_idx (by assumption) (by omega))) ?_
      refine And.intro (by exact ld_rows (by kernel_rfl) (by kernel_rfl) (by omega)) ?_
      refine And.intro (by first | assumption | omega | (simp only [small, tiny, rng, decide_eq_true_eq, decide_eq_false_iff_not, true_or, or_true, true_and, and_true, Int.reduceEq, Int.reduceNeg, eq_self, reduceIte, if_true, if_false] at *; omega) | (simp [small, tiny, rng, decide_eq_true_eq, decide_eq_false_iff_not, true_or, or_true, true_and, and_true, Int.reduceEq, Int.reduceNeg, eq_self, reduceIte, if_true, if_false] at *; done)) ?_
      refine And.intro (by first | exact wr _ (by omega) (by omega) | (refine wr _ ?_ ?_ <;> (simp only [small, tiny, rng, decide_eq_true_eq, decide_eq_false_iff_not, true_or, or_true, true_and, and_true, Int.reduceEq, Int.reduceNeg, eq_self, reduceIte, if_true, if_false] at *; omega))) ?_
      refine And.intro (by first | assumption | omega | (simp only [small, tiny, rng, decide_eq_true_eq, decide_eq_false_iff_not, true_or, or_true, true_and, and_true, Int.reduceEq, Int.reduceNeg, eq_self, reduceIte, if_true, if_false] at *; omega) | (simp [small, tiny, rng, decide_eq_true_eq, decide_eq_false_iff_not, true_or, or_true, true_and, and_true, Int.reduceEq, Int.reduceNeg, eq_self, reduceIte, if_true, if_false] at *; done)) ?_
      refine And.intro (by first | assumption | omega | (simp only [small, tiny, rng, decide_eq_true_eq, decide_eq_false_iff_not, true_or, or_true, true_and, and_true, Int.reduceEq, Int.reduceNeg, eq_self, reduceIte, if_true, if_false] at *; omega) | (simp [small, tiny, rng, decide_eq_true_eq, decide_eq_false_iff_not, true_or, or_true, true_and, and_true, Int.reduceEq, Int.reduceNeg, eq_self, reduceIte, if_true, if_false] at *; done)) ?_
      (show _ = _ ∧ _ = _; rw [htc]; exact ⟨rfl, rfl⟩)
  · have hz : (t.length : Int) ≤ j := by omega
    have hj' : j = t.length := by omega
    have htc : tc t j = tab t := by rw [hj', tc_full]
    rw [htc]
    refine ⟨[Ans.o (Orc.b false)], fun u => of_eq ((↑t.length : Int) ≤ (↑j : Int) ∧ (22 : Nat) = (22 : Nat) ∧ hits [Out.mk Unit (AX.exit (0 : Nat)) [(3 : Nat)] (fun x => True) (fun x => [acc (tab t)]) (fun x => hacc (tab t)) fun x => []] (AX.exit (0 : Nat)) [u (0 : Nat), u (1 : Nat), u (2 : Nat), AV.sl (rowsA (tab t)) (tab t).length (rm (0 : Nat) (tab t)), u (4 : Nat), u (5 : Nat), AV.sl (rowsA t) t.length r, I (↑t.length : Int), I (↑j : Int), AV.bool false, u (10 : Nat), u (11 : Nat), u (12 : Nat), u (13 : Nat), u (14 : Nat), u (15 : Nat), u (16 : Nat), u (17 : Nat), u (18 : Nat), u (19 : Nat), u (20 : Nat), u (21 : Nat)] (H.mk [] (tk (tab t)) [])) (by kernel_rfl) ?_⟩
    refine And.intro (by first | assumption | omega | (simp only [small, tiny, rng, decide_eq_true_eq, decide_eq_false_iff_not, true_or, or_true, true_and, and_true, Int.reduceEq, Int.reduceNeg, eq_self, reduceIte, if_true, if_false] at *; omega) | (simp [small, tiny, rng, decide_eq_true_eq, decide_eq_false_iff_not, true_or, or_true, true_and, and_true, Int.reduceEq, Int.reduceNeg, eq_self, reduceIte, if_true, if_false] at *; done)) ?_
    refine And.intro (by first | assumption | omega | (simp only [small, tiny, rng, decide_eq_true_eq, decide_eq_false_iff_not, true_or, or_true, true_and, and_true, Int.reduceEq, Int.reduceNeg, eq_self, reduceIte, if_true, if_false] at *; omega) | (simp [small, tiny, rng, decide_eq_true_eq, decide_eq_false_iff_not, true_or, or_true, true_and, and_true, Int.reduceEq, Int.reduceNeg, eq_self, reduceIte, if_true, if_false] at *; done)) ?_
    first | exact .inl ⟨(), by first | assumption | trivial, rfl, rfl, rfl⟩ | exact .inr (.inl ⟨(), by first | assumption | trivial, rfl, rfl, rfl⟩) | exact .inr (.inr (.inl ⟨(), by first | assumption | trivial, rfl, rfl, rfl⟩))
theorem ok30 : Fok Try.prog 30 Try.f30 := ⟨mixed, by kernel_rfl, by kernel_rfl, by kernel_rfl, by kernel_rfl⟩
theorem r30 (t : List Row) (r : Room) (h1 : lim t.length) (h2 : rok t r) (h3 : gr t) : ebody Try.prog (Pof [c36]) (Sof [c36.to]) (2000 + t.length) Try.f30 (bd Try.f30) [rs t r] .nil = some (acc (tab t), hacc (tab t)) := by
  refine body_wV ([Ans.loop [(3 : Nat), (6 : Nat), (7 : Nat), (8 : Nat)] [Out.mk Unit (AX.exit (0 : Nat)) [(3 : Nat)] (fun x => True) (fun x => [acc (tab t)]) (fun x => hacc (tab t)) fun y => []]]) (LoopTo (Env.mk Try.prog (Sof [c36.to]) (Pof [c36]) H.nil.base ((2000 : Nat) + t.length)) (loopAt Try.f30 (0 : Nat)) (22 : Nat) [(3 : Nat), (6 : Nat), (7 : Nat), (8 : Nat)] [AV.sl [] (0 : Nat) Room.nil, AV.sl (rowsA t) t.length r, I (↑t.length : Int), I (0 : Int)] (H.mk [] [] []) [Out.mk Unit (AX.exit (0 : Nat)) [(3 : Nat)] (fun x => True) (fun x => [acc (tab t)]) (fun x => hacc (tab t)) fun y => []] ∧ (∀ (y : Unit), True → ∀ (u : Nat → AV), leave (Base.mk H.nil.blk.length H.nil.toks.length H.nil.maps.length) (AV.sl (rowsA (tab t)) (tab t).length (rm (0 : Nat) (tab t))) (H.mk [] (tk (tab t)) []) = (AV.sl (rowsA (tab t)) (tab t).length (rm (0 : Nat) (tab t)), H.mk [] (tk (tab t)) [])) ∧ True) (by kernel_rfl) ?_
  refine And.intro (by exact lp30 t r h1 h2 h3) ?_
  refine And.intro ?_ ?_
  · skip
    intro y
    intro w1
    intro u
    exact leave_rows _
  · skip
    trivial
abbrev rn {α : Type} (l : List α) : Room := (rm 0 l).wk
theorem rn_rok {α : Type} (l : List α) : rok l (rn l) := by cases l <;> simp [rok, rn, rm, Room.wk]
/-- 'table' -/
noncomputable def c30 : PCtr Try.prog := lctr ok30 (X := List Row × Room) (fun x => [rs x.1 x.2]) (fun x => lim x.1.length ∧ rok x.1 x.2 ∧ gr x.1) (fun x => rs (tab x.1) (rn (tab x.1)))
  (by intro x y e _ _; simp at e; simp [e]) (fun x => by simp [AV.bnds, AV.bnd, AV.wk, rm_wk_bnd]) (fun x => by simp [AV.bnd, rm_wk_bnd]) (pof_ok _) (sof_ok _) (fun x => 2000 + x.1.length)
  (fun x hx => ⟨acc (tab x.1), tk (tab x.1), r30 x.1 x.2.wk hx.1 (by simpa using hx.2.1) hx.2.2, plains_rows _, by simp only [AV.wkd, wkds_rows]⟩)
theorem drop_at {t : List Row} {j : Nat} (h : j < t.length) : t.drop j = List.getD t j row0 :: t.drop (j + 1) := by
  have e : List.getD t j row0 = t[j] := by simp [List.getD_eq_getElem?_getD, List.getElem?_eq_getElem h]
  rw [e, List.drop_eq_getElem_cons h]
end Go.Proofs.Weg
