/- Layer 4: the reference's parts of a class. -/
import Derived.Test.YtdnidpojcocklaaDoorLnN0
import Derived.KernelRfl
set_option linter.unusedSimpArgs false
set_option linter.unusedVariables false
set_option linter.unnecessarySimpa false
set_option maxHeartbeats 4000000
set_option maxRecDepth 100000
namespace Go.Proofs.Lrn
open Go Go.VM

abbrev rn {α : Type} (l : List α) : Room := (rm 0 l).wk
theorem rn_rok {α : Type} (l : List α) : rok l (rn l) := by cases l <;> simp [rok, rn, rm, Room.wk]
/-- the bit of a concept -/
def cbit (c : Int) (x : Int) : Int := ((c.toNat / 2 ^ x.toNat % 2 : Nat) : Int)
def spl (l : List Int) (x y : Int) : List Int := l.filter fun c => decide (cbit c x = y)
theorem spl_succ {l : List Int} {x y : Int} {j : Nat} (h : j < l.length) : spl (l.take (j + 1)) x y = if cbit (l.getD j i0) x = y then spl (l.take j) x y ++ [l.getD j i0] else spl (l.take j) x y := by
  have e : l.getD j i0 = l[j] := by simp [List.getD_eq_getElem?_getD, List.getElem?_eq_getElem h]
  rw [List.take_add_one, List.getElem?_eq_getElem h, e]
  simp only [spl, Option.toList_some, List.filter_append, List.filter_cons, List.filter_nil]
  by_cases hc : cbit l[j] x = y <;> simp [hc]
theorem spl_le (l : List Int) (x y : Int) : (spl l x y).length ≤ l.length := List.length_filter_le _ _
abbrev acc (l : List Int) : AV := .sl (ints l) l.length (rm 0 l)
abbrev hacc (l : List Int) : H := ⟨[], tk l, []⟩
theorem leave_acc (l : List Int) : leave ⟨0, 0, 0⟩ (acc l) (hacc l) = (acc l, hacc l) := by
  cases l with
  | nil => rfl
  | cons x l => exact leave_ints (x :: l) _
abbrev o57 (l : List Int) (x y : Int) : List Out := [.mk Unit (.exit 0) [7] (fun _ => True) (fun _ => [acc (spl l x y)]) (fun _ => hacc (spl l x y)) (fun _ => [])]
abbrev inL (l : List Int) : Prop := ∀ c ∈ l, 0 ≤ c ∧ c < 32
theorem inL_at {l : List Int} (h : inL l) {j : Nat} (hj : j < l.length) : 0 ≤ l.getD j i0 ∧ l.getD j i0 < 32 := h _ (mem_iff.2 ⟨j, hj, rfl⟩)
theorem simp57 : allSimpleM none1 (loopAt Tryd.f57 0) = true := by kernel_rfl
theorem lp57 (l : List Int) (r : Room) (x y : Int) (h1 : l.length ≤ 1000) (h2 : rok l r) (h3 : inL l) (hx : is5 x) :
    LoopS (En4 []) (loopAt Tryd.f57 0) 28 [1, 2, 7, 10, 11, 12] [I x, I y, .sl [] 0 .nil, ls l r, I l.length, I 0] .nil (o57 l x y) := by
  have hR : Rests (En4 []) none1 := rests mixed .nil
  refine loop_s hR simp57 none (by intro _ h; cases h) (fun j vs h => h = hacc (spl (l.take j) x y) ∧ vs = [I x, I y, acc (spl (l.take j) x y), ls l r, I l.length, I j]) l.length ⟨rfl, rfl⟩ (by intro _ h; cases h) ?_
  rintro j vs h hj ⟨rfl, rfl⟩
  by_cases hz : (j : Int) < l.length
  · have hz' : j < l.length := by omega
    have hr := rok_idx h2 hz'
    have hs := spl_succ (x := x) (y := y) hz'
    have hle := spl_le (l.take j) x y
    have hle2 : (l.take j).length ≤ l.length := by simp; omega
    have hle3 : (spl (l.take j) x y).length ≤ 1000000000 := by omega
    obtain ⟨c0, c1⟩ := inL_at h3 hz'
    obtain ⟨cn, hcn⟩ : ∃ n : Nat, l.getD j i0 = n := ⟨(l.getD j i0).toNat, by omega⟩
    obtain ⟨xn, rfl⟩ : ∃ n : Nat, x = n := ⟨x.toNat, by obtain ⟨_, _⟩ := hx; omega⟩
    have hcb : cbit (l.getD j i0) (xn : Int) = ((cn / 2 ^ xn % 2 : Nat) : Int) := by rw [hcn]; rfl
    have ev0 : (l.getD j i0).fdiv (2 ^ min ((xn : Int)).toNat IntKind.i64.bits) = ((cn / 2 ^ xn : Nat) : Int) := by
      rw [hcn]; exact shr_nat cn xn (by obtain ⟨_, _⟩ := hx; omega)
    have ev1 := and1 (n := cn / 2 ^ xn) (Nat.lt_of_le_of_lt (Nat.div_le_self _ _) (by omega))
    have hx0 : (0 : Int) ≤ (xn : Int) := by omega
    rw [hcb] at hs
    by_cases hb : ((cn / 2 ^ xn % 2 : Nat) : Int) = y
    · rw [if_pos hb] at hs
      clear hcn hcb c0 c1
      refine ⟨[Ans.o (Orc.b true), Ans.o (Orc.val (14 : Nat) (AV.cptr (ints (List.drop j l))) (hacc (spl (List.take j l) (↑xn : Int) y))), Ans.o (Orc.val (15 : Nat) (I (l.getD j i0)) (hacc (spl (List.take j l) (↑xn : Int) y))), Ans.o (Orc.val (18 : Nat) (I (↑(cn / (2 : Nat) ^ xn) : Int)) (H.mk [] (tk (spl (List.take j l) (↑xn : Int) y)) [])), Ans.o (Orc.val (19 : Nat) (I (↑(cn / (2 : Nat) ^ xn % (2 : Nat)) : Int)) (H.mk [] (tk (spl (List.take j l) (↑xn : Int) y)) [])), Ans.o (Orc.b true), Ans.o (Orc.val (25 : Nat) (AV.sl (ints (spl (List.take j l) (↑xn : Int) y ++ [l.getD j i0])) (spl (List.take j l) (↑xn : Int) y ++ [l.getD j i0]).length (rm (0 : Nat) (spl (List.take j l) (↑xn : Int) y ++ [l.getD j i0]))) (H.mk [] (tk (spl (List.take j l) (↑xn : Int) y ++ [l.getD j i0])) []))], fun u => of_eq ((↑j : Int) < (↑l.length : Int) ∧ aIndexAddr Tryd.prog (22 : Nat) (AV.sl (ints l) l.length r) (I (↑j : Int)) = some (AV.cptr (ints (List.drop j l))) ∧ aLoad Tryd.prog (3 : Nat) (ints (List.drop j l)) = some (I (l.getD j i0)) ∧ aBin Tryd.prog BinOp.shr (3 : Nat) (I (l.getD j i0)) (I (↑xn : Int)) = some (I (↑(cn / (2 : Nat) ^ xn) : Int)) ∧ aBin Tryd.prog BinOp.and (3 : Nat) (I (↑(cn / (2 : Nat) ^ xn) : Int)) (I (1 : Int)) = some (I (↑(cn / (2 : Nat) ^ xn % (2 : Nat)) : Int)) ∧ (↑(cn / (2 : Nat) ^ xn % (2 : Nat)) : Int) = y ∧ aAppend Tryd.prog (22 : Nat) (22 : Nat) (AV.sl (ints (spl (List.take j l) (↑xn : Int) y)) (spl (List.take j l) (↑xn : Int) y).length (rm (0 : Nat) (spl (List.take j l) (↑xn : Int) y))) (AV.sl [I (l.getD j i0)] (1 : Nat) Room.full) (H.mk [] (tk (spl (List.take j l) (↑xn : Int) y)) []) = some (AV.sl (ints (spl (List.take j l) (↑xn : Int) y ++ [l.getD j i0])) (spl (List.take j l) (↑xn : Int) y ++ [l.getD j i0]).length (rm (0 : Nat) (spl (List.take j l) (↑xn : Int) y ++ [l.getD j i0])), H.mk [] (tk (spl (List.take j l) (↑xn : Int) y ++ [l.getD j i0])) []) ∧ IntKind.i64.wrap ((↑j : Int) + (1 : Int)) = (↑j : Int) + (1 : Int) ∧ (28 : Nat) = (28 : Nat) ∧ j < l.length ∧ Keep (H.mk [] (tk (spl (List.take j l) (↑xn : Int) y ++ [l.getD j i0])) [] = H.mk [] (tk (spl (List.take (j + (1 : Nat)) l) (↑xn : Int) y)) [] ∧ [I (↑xn : Int), I y, AV.sl (ints (spl (List.take j l) (↑xn : Int) y ++ [l.getD j i0])) (spl (List.take j l) (↑xn : Int) y ++ [l.getD j i0]).length (rm (0 : Nat) (spl (List.take j l) (↑xn : Int) y ++ [l.getD j i0])), AV.sl (ints l) l.length r, I (↑l.length : Int), I ((↑j : Int) + (1 : Int))] = [I (↑xn : Int), I y, AV.sl (ints (spl (List.take (j + (1 : Nat)) l) (↑xn : Int) y)) (spl (List.take (j + (1 : Nat)) l) (↑xn : Int) y).length (rm (0 : Nat) (spl (List.take (j + (1 : Nat)) l) (↑xn : Int) y)), AV.sl (ints l) l.length r, I (↑l.length : Int), I (↑(j + (1 : Nat)) : Int)])) (by kernel_rfl) ?_⟩
      refine And.intro (by first | assumption | omega | (simp only [small, tiny, rng, decide_eq_true_eq, decide_eq_false_iff_not, true_or, or_true, true_and, and_true, Int.reduceEq, Int.reduceNeg, eq_self, reduceIte, if_true, if_false] at *; omega) | (simp [small, tiny, rng, decide_eq_true_eq, decide_eq_false_iff_not, true_or, or_true, true_and, and_true, Int.reduceEq, Int.reduceNeg, eq_self, reduceIte, if_true, if_false] at *; done)) ?_
      refine And.intro (by first | exact ix_ints (by kernel_rfl) (by omega) (by assumption) | exact ix_ints (by kernel_rfl) (by omega) (rok_idx (by assumption) (by omega))) ?_
      refine And.intro (by exact ld_ints (by kernel_rfl) (by kernel_rfl) (by omega)) ?_
      refine And.intro (by first | exact told_shr hx0 (by assumption) | exact told_and (by assumption)) ?_
      refine And.intro (by first | exact told_shr hx0 (by assumption) | exact told_and (by assumption)) ?_
      refine And.intro (by first | assumption | omega | (simp only [small, tiny, rng, decide_eq_true_eq, decide_eq_false_iff_not, true_or, or_true, true_and, and_true, Int.reduceEq, Int.reduceNeg, eq_self, reduceIte, if_true, if_false] at *; omega) | (simp [small, tiny, rng, decide_eq_true_eq, decide_eq_false_iff_not, true_or, or_true, true_and, and_true, Int.reduceEq, Int.reduceNeg, eq_self, reduceIte, if_true, if_false] at *; done)) ?_
      refine And.intro (by exact app_ints (by kernel_rfl) hle3) ?_
      refine And.intro (by first | exact wr _ (by omega) (by omega) | (refine wr _ ?_ ?_ <;> (simp only [small, tiny, rng, decide_eq_true_eq, decide_eq_false_iff_not, true_or, or_true, true_and, and_true, Int.reduceEq, Int.reduceNeg, eq_self, reduceIte, if_true, if_false] at *; omega))) ?_
      refine And.intro (by first | assumption | omega | (simp only [small, tiny, rng, decide_eq_true_eq, decide_eq_false_iff_not, true_or, or_true, true_and, and_true, Int.reduceEq, Int.reduceNeg, eq_self, reduceIte, if_true, if_false] at *; omega) | (simp [small, tiny, rng, decide_eq_true_eq, decide_eq_false_iff_not, true_or, or_true, true_and, and_true, Int.reduceEq, Int.reduceNeg, eq_self, reduceIte, if_true, if_false] at *; done)) ?_
      refine And.intro (by first | assumption | omega | (simp only [small, tiny, rng, decide_eq_true_eq, decide_eq_false_iff_not, true_or, or_true, true_and, and_true, Int.reduceEq, Int.reduceNeg, eq_self, reduceIte, if_true, if_false] at *; omega) | (simp [small, tiny, rng, decide_eq_true_eq, decide_eq_false_iff_not, true_or, or_true, true_and, and_true, Int.reduceEq, Int.reduceNeg, eq_self, reduceIte, if_true, if_false] at *; done)) ?_
      (show _ = _ ∧ _ = _; rw [hs]; exact ⟨rfl, rfl⟩)
    · rw [if_neg hb] at hs
      have hb : ((cn / 2 ^ xn % 2 : Nat) : Int) ≠ y := hb
      clear hcn hcb c0 c1
      refine ⟨[Ans.o (Orc.b true), Ans.o (Orc.val (14 : Nat) (AV.cptr (ints (List.drop j l))) (hacc (spl (List.take j l) (↑xn : Int) y))), Ans.o (Orc.val (15 : Nat) (I (l.getD j i0)) (hacc (spl (List.take j l) (↑xn : Int) y))), Ans.o (Orc.val (18 : Nat) (I (↑(cn / (2 : Nat) ^ xn) : Int)) (H.mk [] (tk (spl (List.take j l) (↑xn : Int) y)) [])), Ans.o (Orc.val (19 : Nat) (I (↑(cn / (2 : Nat) ^ xn % (2 : Nat)) : Int)) (H.mk [] (tk (spl (List.take j l) (↑xn : Int) y)) [])), Ans.o (Orc.b false)], fun u => of_eq ((↑j : Int) < (↑l.length : Int) ∧ aIndexAddr Tryd.prog (22 : Nat) (AV.sl (ints l) l.length r) (I (↑j : Int)) = some (AV.cptr (ints (List.drop j l))) ∧ aLoad Tryd.prog (3 : Nat) (ints (List.drop j l)) = some (I (l.getD j i0)) ∧ aBin Tryd.prog BinOp.shr (3 : Nat) (I (l.getD j i0)) (I (↑xn : Int)) = some (I (↑(cn / (2 : Nat) ^ xn) : Int)) ∧ aBin Tryd.prog BinOp.and (3 : Nat) (I (↑(cn / (2 : Nat) ^ xn) : Int)) (I (1 : Int)) = some (I (↑(cn / (2 : Nat) ^ xn % (2 : Nat)) : Int)) ∧ (↑(cn / (2 : Nat) ^ xn % (2 : Nat)) : Int) ≠ y ∧ IntKind.i64.wrap ((↑j : Int) + (1 : Int)) = (↑j : Int) + (1 : Int) ∧ (28 : Nat) = (28 : Nat) ∧ j < l.length ∧ Keep (H.mk [] (tk (spl (List.take j l) (↑xn : Int) y)) [] = H.mk [] (tk (spl (List.take (j + (1 : Nat)) l) (↑xn : Int) y)) [] ∧ [I (↑xn : Int), I y, AV.sl (ints (spl (List.take j l) (↑xn : Int) y)) (spl (List.take j l) (↑xn : Int) y).length (rm (0 : Nat) (spl (List.take j l) (↑xn : Int) y)), AV.sl (ints l) l.length r, I (↑l.length : Int), I ((↑j : Int) + (1 : Int))] = [I (↑xn : Int), I y, AV.sl (ints (spl (List.take (j + (1 : Nat)) l) (↑xn : Int) y)) (spl (List.take (j + (1 : Nat)) l) (↑xn : Int) y).length (rm (0 : Nat) (spl (List.take (j + (1 : Nat)) l) (↑xn : Int) y)), AV.sl (ints l) l.length r, I (↑l.length : Int), I (↑(j + (1 : Nat)) : Int)])) (by kernel_rfl) ?_⟩
      refine And.intro (by first | assumption | omega | (simp only [small, tiny, rng, decide_eq_true_eq, decide_eq_false_iff_not, true_or, or_true, true_and, and_true, Int.reduceEq, Int.reduceNeg, eq_self, reduceIte, if_true, if_false] at *; omega) | (simp [small, tiny, rng, decide_eq_true_eq, decide_eq_false_iff_not, true_or, or_true, true_and, and_true, Int.reduceEq, Int.reduceNeg, eq_self, reduceIte, if_true, if_false] at *; done)) ?_
      refine And.intro (by first | exact ix_ints (by kernel_rfl) (by omega) (by assumption) | exact ix_ints (by kernel_rfl) (by omega) (rok_idx (by assumption) (by omega))) ?_
      refine And.intro (by exact ld_ints (by kernel_rfl) (by kernel_rfl) (by omega)) ?_
      refine And.intro (by first | exact told_shr hx0 (by assumption) | exact told_and (by assumption)) ?_
      refine And.intro (by first | exact told_shr hx0 (by assumption) | exact told_and (by assumption)) ?_
      refine And.intro (by first | assumption | omega | (simp only [small, tiny, rng, decide_eq_true_eq, decide_eq_false_iff_not, true_or, or_true, true_and, and_true, Int.reduceEq, Int.reduceNeg, eq_self, reduceIte, if_true, if_false] at *; omega) | (simp [small, tiny, rng, decide_eq_true_eq, decide_eq_false_iff_not, true_or, or_true, true_and, and_true, Int.reduceEq, Int.reduceNeg, eq_self, reduceIte, if_true, if_false] at *; done)) ?_
      refine And.intro (by first | exact wr _ (by omega) (by omega) | (refine wr _ ?_ ?_ <;> (simp only [small, tiny, rng, decide_eq_true_eq, decide_eq_false_iff_not, true_or, or_true, true_and, and_true, Int.reduceEq, Int.reduceNeg, eq_self, reduceIte, if_true, if_false] at *; omega))) ?_
      refine And.intro (by first | assumption | omega | (simp only [small, tiny, rng, decide_eq_true_eq, decide_eq_false_iff_not, true_or, or_true, true_and, and_true, Int.reduceEq, Int.reduceNeg, eq_self, reduceIte, if_true, if_false] at *; omega) | (simp [small, tiny, rng, decide_eq_true_eq, decide_eq_false_iff_not, true_or, or_true, true_and, and_true, Int.reduceEq, Int.reduceNeg, eq_self, reduceIte, if_true, if_false] at *; done)) ?_
      refine And.intro (by first | assumption | omega | (simp only [small, tiny, rng, decide_eq_true_eq, decide_eq_false_iff_not, true_or, or_true, true_and, and_true, Int.reduceEq, Int.reduceNeg, eq_self, reduceIte, if_true, if_false] at *; omega) | (simp [small, tiny, rng, decide_eq_true_eq, decide_eq_false_iff_not, true_or, or_true, true_and, and_true, Int.reduceEq, Int.reduceNeg, eq_self, reduceIte, if_true, if_false] at *; done)) ?_
      (show _ = _ ∧ _ = _; rw [hs]; exact ⟨rfl, rfl⟩)
  · have hz : (l.length : Int) ≤ j := by omega
    have e : j = l.length := by omega
    subst e
    refine ⟨[Ans.o (Orc.b false)], fun u => of_eq ((↑l.length : Int) ≤ (↑l.length : Int) ∧ (28 : Nat) = (28 : Nat) ∧ hits [Out.mk Unit (AX.exit (0 : Nat)) [(7 : Nat)] (fun x => True) (fun x_1 => [acc (spl l x y)]) (fun x_1 => hacc (spl l x y)) fun x => []] (AX.exit (0 : Nat)) [u (0 : Nat), I x, I y, u (3 : Nat), u (4 : Nat), u (5 : Nat), u (6 : Nat), AV.sl (ints (spl (List.take l.length l) x y)) (spl (List.take l.length l) x y).length (rm (0 : Nat) (spl (List.take l.length l) x y)), u (8 : Nat), u (9 : Nat), AV.sl (ints l) l.length r, I (↑l.length : Int), I (↑l.length : Int), AV.bool false, u (14 : Nat), u (15 : Nat), u (16 : Nat), u (17 : Nat), u (18 : Nat), u (19 : Nat), u (20 : Nat), u (21 : Nat), u (22 : Nat), u (23 : Nat), u (24 : Nat), u (25 : Nat), u (26 : Nat), u (27 : Nat)] (H.mk [] (tk (spl (List.take l.length l) x y)) [])) (by kernel_rfl) ?_⟩
    refine And.intro (by first | assumption | omega | (simp only [small, tiny, rng, decide_eq_true_eq, decide_eq_false_iff_not, true_or, or_true, true_and, and_true, Int.reduceEq, Int.reduceNeg, eq_self, reduceIte, if_true, if_false] at *; omega) | (simp [small, tiny, rng, decide_eq_true_eq, decide_eq_false_iff_not, true_or, or_true, true_and, and_true, Int.reduceEq, Int.reduceNeg, eq_self, reduceIte, if_true, if_false] at *; done)) ?_
    refine And.intro (by first | assumption | omega | (simp only [small, tiny, rng, decide_eq_true_eq, decide_eq_false_iff_not, true_or, or_true, true_and, and_true, Int.reduceEq, Int.reduceNeg, eq_self, reduceIte, if_true, if_false] at *; omega) | (simp [small, tiny, rng, decide_eq_true_eq, decide_eq_false_iff_not, true_or, or_true, true_and, and_true, Int.reduceEq, Int.reduceNeg, eq_self, reduceIte, if_true, if_false] at *; done)) ?_
    exact .inl ⟨(), trivial, rfl, by first | rfl | (rw [List.take_length]; rfl), by first | rfl | rw [List.take_length]⟩
theorem ok57 : FokM Tryd.prog none1 57 Tryd.f57 := ⟨mixed, by kernel_rfl, by kernel_rfl, by kernel_rfl, by kernel_rfl⟩
theorem r57 (l : List Int) (r : Room) (x : Int) (y : Int) (hp : (l.length ≤ 1000 ∧ rok l r) ∧ inL l ∧ is5 x) : Body ⟨Tryd.prog, Sof (P := Tryd.prog) [], Pof (P := Tryd.prog) [], H.nil.base, 300⟩ none1 Tryd.f57 [ls l r, I x, I y] .nil (acc (spl l x y), ⟨[], tk (spl l x y), []⟩) := by
  refine body_s ([Ans.loop [(1 : Nat), (2 : Nat), (7 : Nat), (10 : Nat), (11 : Nat), (12 : Nat)] [Out.mk Unit (AX.exit (0 : Nat)) [(7 : Nat)] (fun x => True) (fun x_1 => [acc (spl l x y)]) (fun x_1 => hacc (spl l x y)) fun y => []]]) (LoopS (Env.mk Tryd.prog (Sof (P := Tryd.prog) []) (Pof (P := Tryd.prog) []) H.nil.base (300 : Nat)) (loopAt Tryd.f57 (0 : Nat)) (28 : Nat) [(1 : Nat), (2 : Nat), (7 : Nat), (10 : Nat), (11 : Nat), (12 : Nat)] [I x, I y, AV.sl [] (0 : Nat) Room.nil, AV.sl (ints l) l.length r, I (↑l.length : Int), I (0 : Int)] (H.mk [] [] []) [Out.mk Unit (AX.exit (0 : Nat)) [(7 : Nat)] (fun x => True) (fun x_1 => [acc (spl l x y)]) (fun x_1 => hacc (spl l x y)) fun y => []] ∧ (∀ (y_1 : Unit), True → ∀ (u : Nat → AV), leave (Base.mk H.nil.blk.length H.nil.toks.length H.nil.maps.length) (AV.sl (ints (spl l x y)) (spl l x y).length (rm (0 : Nat) (spl l x y))) (H.mk [] (tk (spl l x y)) []) = (AV.sl (ints (spl l x y)) (spl l x y).length (rm (0 : Nat) (spl l x y)), H.mk [] (tk (spl l x y)) [])) ∧ True) (by kernel_rfl) ?_
  refine And.intro (by exact lp57 l r x y hp.1.1 hp.1.2 hp.2.1 hp.2.2) ?_
  refine And.intro ?_ ?_
  · skip
    intro y
    intro w1
    intro u
    exact leave_acc _
  · skip
    trivial
noncomputable def c57 : PCtr Tryd.prog := slctr ok57 (X := List Int × Room × Int × Int) (fun x => [ls x.1 x.2.1, I x.2.2.1, I x.2.2.2]) (fun x => (x.1.length ≤ 1000 ∧ rok x.1 x.2.1) ∧ inL x.1 ∧ is5 x.2.2.1) (fun x => .sl (ints (spl x.1 x.2.2.1 x.2.2.2)) (spl x.1 x.2.2.1 x.2.2.2).length (rn (spl x.1 x.2.2.1 x.2.2.2))) (by intro x y e _ _; simp at e; simp [e]) (fun x => by simp [AV.bnds, AV.bnd, AV.wk, rm_wk_bnd]) (fun x => by first | rfl | (simp [AV.bnd, rm_wk_bnd]; done) | simp [AV.bnd, AV.bnds, Room.bnd, rm_wk_bnd]) (fun x hx => ⟨_, _, _, acc (spl x.1 x.2.2.1 x.2.2.2), tk (spl x.1 x.2.2.1 x.2.2.2), .nil, r57 (x.1) (x.2.1).wk (x.2.2.1) (x.2.2.2) (by first | exact hx | (simp only [rok_wk]; exact hx) | (simp only [rok_wk, lst_wk]; exact hx) | (simp only [rok_wk, lst_wk, lsn_wk]; exact hx)), by simp [AV.plain, AV.plains, plains_ints, plains_rows], by first | (simp only [AV.wkd, wkds_rows]; done) | (simp only [AV.wkd, wkds_ints]; done) | simp [AV.wkd, AV.wkds, Room.wk]⟩)
end Go.Proofs.Lrn
