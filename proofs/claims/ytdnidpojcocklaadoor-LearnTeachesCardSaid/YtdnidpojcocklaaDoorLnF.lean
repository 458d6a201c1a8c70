/- Layer 4: what is in a list. -/
import Derived.Test.YtdnidpojcocklaaDoorLnB
import Derived.KernelRfl
set_option linter.unusedSimpArgs false
set_option linter.unusedVariables false
set_option linter.unnecessarySimpa false
set_option maxHeartbeats 4000000
set_option maxRecDepth 100000
namespace Go.Proofs.Lrn
open Go Go.VM

def ixF (c : Int) : List Int → Nat → Int
  | [], _ => -1
  | x :: t, k => if c = x then (k : Int) else ixF c t (k + 1)
theorem ixF_drop {l : List Int} {c : Int} {j : Nat} (h : j < l.length) : ixF c (l.drop j) j = if c = l.getD j i0 then (j : Int) else ixF c (l.drop (j + 1)) (j + 1) := by
  have e : l.getD j i0 = l[j] := by simp [List.getD_eq_getElem?_getD, List.getElem?_eq_getElem h]
  rw [List.drop_eq_getElem_cons h, e]; rfl
theorem ixF_mem (c : Int) : ∀ (l : List Int) (k : Nat), 0 ≤ ixF c l k ↔ c ∈ l
  | [], k => by simp [ixF]
  | x :: t, k => by
    simp only [ixF, List.mem_cons]
    split
    · rename_i h; simp [h]
    · rename_i h; rw [ixF_mem c t (k + 1)]; simp [h]
abbrev o82 (l : List Int) (c : Int) : List Out := [.mk Nat .ret [4] (fun j => ixF c l 0 = (j : Int)) (fun j => [I j]) (fun _ => .nil) (fun _ => []), .mk Unit (.exit 0) [] (fun _ => ixF c l 0 = -1) (fun _ => []) (fun _ => .nil) (fun _ => [])]
theorem simp82 : allSimpleM none1 (loopAt Tryd.f82 0) = true := by kernel_rfl
theorem lp82 (l : List Int) (r : Room) (c : Int) (h1 : lim l.length) (h2 : rok l r) :
    LoopS (En4 []) (loopAt Tryd.f82 0) 19 [0, 1, 6, 7, 8] [ls l r, I c, ls l r, I l.length, I 0] .nil (o82 l c) := by
  have hR : Rests (En4 []) none1 := rests mixed .nil
  refine loop_s hR simp82 none (by intro _ h; cases h) (fun j vs h => h = .nil ∧ vs = [ls l r, I c, ls l r, I l.length, I j] ∧ ixF c l 0 = ixF c (l.drop j) j) l.length ⟨rfl, rfl, rfl⟩ (by intro _ h; cases h) ?_
  rintro j vs h hj ⟨rfl, rfl, ha⟩
  by_cases hz : (j : Int) < l.length
  · have hz' : j < l.length := by omega
    have hr := rok_idx h2 hz'
    rw [ixF_drop hz'] at ha
    by_cases hc : c = l.getD j i0
    · rw [if_pos hc] at ha
      refine ⟨[Ans.o (Orc.b true), Ans.o (Orc.val 14 (AV.cptr (ints (List.drop j l))) (H.mk [] [] [])), Ans.o (Orc.val 15 (I (l.getD j i0)) (H.mk [] [] [])), Ans.o (Orc.b true)], fun u => of_eq ((↑j : Int) < (↑l.length : Int) ∧ aIndexAddr Tryd.prog (22 : Nat) (AV.sl (ints l) l.length r) (I (↑j : Int)) = some (AV.cptr (ints (List.drop j l))) ∧ aLoad Tryd.prog (3 : Nat) (ints (List.drop j l)) = some (I (l.getD j i0)) ∧ c = l.getD j i0 ∧ (19 : Nat) = (19 : Nat) ∧ hits [Out.mk Nat AX.ret [(4 : Nat)] (fun j => ixF c l (0 : Nat) = (↑j : Int)) (fun j => [I (↑j : Int)]) (fun x => H.nil) fun x => [], Out.mk Unit (AX.exit (0 : Nat)) [] (fun x => ixF c l (0 : Nat) = (-1 : Int)) (fun x => []) (fun x => H.nil) fun x => []] AX.ret [AV.sl (ints l) l.length r, I c, u (2 : Nat), u (3 : Nat), I (↑j : Int), I (↑j : Int), AV.sl (ints l) l.length r, I (↑l.length : Int), I (↑j : Int), AV.bool true, I (↑j : Int), I c, AV.sl (ints l) l.length r, I (↑j : Int), AV.cptr (ints (List.drop j l)), I (l.getD j i0), AV.bool true, I (↑j : Int), u (18 : Nat)] (H.mk [] [] [])) (by kernel_rfl) ?_⟩
      refine ⟨by first | assumption | omega | (simp only [small, tiny, rng, decide_eq_true_eq, decide_eq_false_iff_not, true_or, or_true, true_and, and_true, Int.reduceEq, Int.reduceNeg, eq_self, reduceIte, if_true, if_false] at *; omega) | (simp [small, tiny, rng, decide_eq_true_eq, decide_eq_false_iff_not, true_or, or_true, true_and, and_true, Int.reduceEq, Int.reduceNeg, eq_self, reduceIte, if_true, if_false] at *; done), ?_⟩
      refine ⟨by first | exact ix_ints (by kernel_rfl) (by omega) (by assumption) | exact ix_ints (by kernel_rfl) (by omega) (rok_idx (by assumption) (by omega)), ?_⟩
      refine ⟨ld_ints (by kernel_rfl) (by kernel_rfl) (by omega), ?_⟩
      refine ⟨by first | assumption | omega | (simp only [small, tiny, rng, decide_eq_true_eq, decide_eq_false_iff_not, true_or, or_true, true_and, and_true, Int.reduceEq, Int.reduceNeg, eq_self, reduceIte, if_true, if_false] at *; omega) | (simp [small, tiny, rng, decide_eq_true_eq, decide_eq_false_iff_not, true_or, or_true, true_and, and_true, Int.reduceEq, Int.reduceNeg, eq_self, reduceIte, if_true, if_false] at *; done), ?_⟩
      refine ⟨by first | assumption | omega | (simp only [small, tiny, rng, decide_eq_true_eq, decide_eq_false_iff_not, true_or, or_true, true_and, and_true, Int.reduceEq, Int.reduceNeg, eq_self, reduceIte, if_true, if_false] at *; omega) | (simp [small, tiny, rng, decide_eq_true_eq, decide_eq_false_iff_not, true_or, or_true, true_and, and_true, Int.reduceEq, Int.reduceNeg, eq_self, reduceIte, if_true, if_false] at *; done), ?_⟩
      exact .inl ⟨j, ha, rfl, rfl, rfl⟩
    · rw [if_neg hc] at ha
      have hc : c ≠ l.getD j i0 := hc
      refine ⟨[Ans.o (Orc.b true), Ans.o (Orc.val 14 (AV.cptr (ints (List.drop j l))) (H.mk [] [] [])), Ans.o (Orc.val 15 (I (l.getD j i0)) (H.mk [] [] [])), Ans.o (Orc.b false)], fun u => of_eq ((↑j : Int) < (↑l.length : Int) ∧ aIndexAddr Tryd.prog (22 : Nat) (AV.sl (ints l) l.length r) (I (↑j : Int)) = some (AV.cptr (ints (List.drop j l))) ∧ aLoad Tryd.prog (3 : Nat) (ints (List.drop j l)) = some (I (l.getD j i0)) ∧ c ≠ l.getD j i0 ∧ IntKind.i64.wrap ((↑j : Int) + (1 : Int)) = (↑j : Int) + (1 : Int) ∧ (19 : Nat) = (19 : Nat) ∧ j < l.length ∧ Keep (H.mk [] [] [] = H.mk [] [] [] ∧ [AV.sl (ints l) l.length r, I c, AV.sl (ints l) l.length r, I (↑l.length : Int), I ((↑j : Int) + (1 : Int))] = [AV.sl (ints l) l.length r, I c, AV.sl (ints l) l.length r, I (↑l.length : Int), I (↑(j + (1 : Nat)) : Int)] ∧ ixF c l (0 : Nat) = ixF c (List.drop (j + (1 : Nat)) l) (j + (1 : Nat)))) (by kernel_rfl) ?_⟩
      refine ⟨by first | assumption | omega | (simp only [small, tiny, rng, decide_eq_true_eq, decide_eq_false_iff_not, true_or, or_true, true_and, and_true, Int.reduceEq, Int.reduceNeg, eq_self, reduceIte, if_true, if_false] at *; omega) | (simp [small, tiny, rng, decide_eq_true_eq, decide_eq_false_iff_not, true_or, or_true, true_and, and_true, Int.reduceEq, Int.reduceNeg, eq_self, reduceIte, if_true, if_false] at *; done), ?_⟩
      refine ⟨by first | exact ix_ints (by kernel_rfl) (by omega) (by assumption) | exact ix_ints (by kernel_rfl) (by omega) (rok_idx (by assumption) (by omega)), ?_⟩
      refine ⟨ld_ints (by kernel_rfl) (by kernel_rfl) (by omega), ?_⟩
      refine ⟨by first | assumption | omega | (simp only [small, tiny, rng, decide_eq_true_eq, decide_eq_false_iff_not, true_or, or_true, true_and, and_true, Int.reduceEq, Int.reduceNeg, eq_self, reduceIte, if_true, if_false] at *; omega) | (simp [small, tiny, rng, decide_eq_true_eq, decide_eq_false_iff_not, true_or, or_true, true_and, and_true, Int.reduceEq, Int.reduceNeg, eq_self, reduceIte, if_true, if_false] at *; done), ?_⟩
      refine ⟨by first | exact wr _ (by omega) (by omega) | (refine wr _ ?_ ?_ <;> (simp only [small, tiny, rng, decide_eq_true_eq, decide_eq_false_iff_not, true_or, or_true, true_and, and_true, Int.reduceEq, Int.reduceNeg, eq_self, reduceIte, if_true, if_false] at *; omega)), ?_⟩
      refine ⟨by first | assumption | omega | (simp only [small, tiny, rng, decide_eq_true_eq, decide_eq_false_iff_not, true_or, or_true, true_and, and_true, Int.reduceEq, Int.reduceNeg, eq_self, reduceIte, if_true, if_false] at *; omega) | (simp [small, tiny, rng, decide_eq_true_eq, decide_eq_false_iff_not, true_or, or_true, true_and, and_true, Int.reduceEq, Int.reduceNeg, eq_self, reduceIte, if_true, if_false] at *; done), ?_⟩
      refine ⟨by first | assumption | omega | (simp only [small, tiny, rng, decide_eq_true_eq, decide_eq_false_iff_not, true_or, or_true, true_and, and_true, Int.reduceEq, Int.reduceNeg, eq_self, reduceIte, if_true, if_false] at *; omega) | (simp [small, tiny, rng, decide_eq_true_eq, decide_eq_false_iff_not, true_or, or_true, true_and, and_true, Int.reduceEq, Int.reduceNeg, eq_self, reduceIte, if_true, if_false] at *; done), ?_⟩
      exact ⟨rfl, rfl, ha⟩
  · have hz : (l.length : Int) ≤ j := by omega
    have hj' : j = l.length := by omega
    subst hj'
    rw [List.drop_length] at ha
    refine ⟨[Ans.o (Orc.b false)], fun u => of_eq ((↑l.length : Int) ≤ (↑l.length : Int) ∧ (19 : Nat) = (19 : Nat) ∧ hits [Out.mk Nat AX.ret [(4 : Nat)] (fun j => ixF c l (0 : Nat) = (↑j : Int)) (fun j => [I (↑j : Int)]) (fun x => H.nil) fun x => [], Out.mk Unit (AX.exit (0 : Nat)) [] (fun x => ixF c l (0 : Nat) = (-1 : Int)) (fun x => []) (fun x => H.nil) fun x => []] (AX.exit (0 : Nat)) [AV.sl (ints l) l.length r, I c, u (2 : Nat), u (3 : Nat), u (4 : Nat), u (5 : Nat), AV.sl (ints l) l.length r, I (↑l.length : Int), I (↑l.length : Int), AV.bool false, u (10 : Nat), u (11 : Nat), u (12 : Nat), u (13 : Nat), u (14 : Nat), u (15 : Nat), u (16 : Nat), u (17 : Nat), u (18 : Nat)] (H.mk [] [] [])) (by kernel_rfl) ?_⟩
    refine ⟨by first | assumption | omega | (simp only [small, tiny, rng, decide_eq_true_eq, decide_eq_false_iff_not, true_or, or_true, true_and, and_true, Int.reduceEq, Int.reduceNeg, eq_self, reduceIte, if_true, if_false] at *; omega) | (simp [small, tiny, rng, decide_eq_true_eq, decide_eq_false_iff_not, true_or, or_true, true_and, and_true, Int.reduceEq, Int.reduceNeg, eq_self, reduceIte, if_true, if_false] at *; done), ?_⟩
    refine ⟨by first | assumption | omega | (simp only [small, tiny, rng, decide_eq_true_eq, decide_eq_false_iff_not, true_or, or_true, true_and, and_true, Int.reduceEq, Int.reduceNeg, eq_self, reduceIte, if_true, if_false] at *; omega) | (simp [small, tiny, rng, decide_eq_true_eq, decide_eq_false_iff_not, true_or, or_true, true_and, and_true, Int.reduceEq, Int.reduceNeg, eq_self, reduceIte, if_true, if_false] at *; done), ?_⟩
    exact .inr (.inl ⟨(), ha, rfl, rfl, rfl⟩)
theorem ok82 : FokM Tryd.prog none1 82 Tryd.f82 := ⟨mixed, by kernel_rfl, by kernel_rfl, by kernel_rfl, by kernel_rfl⟩
theorem r82 (l : List Int) (r : Room) (c : Int) (hp : lim l.length ∧ rok l r) : Body ⟨Tryd.prog, Sof (P := Tryd.prog) [], Pof (P := Tryd.prog) [], H.nil.base, 300⟩ none1 Tryd.f82 [ls l r, I c] .nil (I (ixF c l 0), .nil) := by
  refine body_s ([Ans.loop [(0 : Nat), (1 : Nat), (6 : Nat), (7 : Nat), (8 : Nat)] [Out.mk Nat AX.ret [(4 : Nat)] (fun j => ixF c l (0 : Nat) = (↑j : Int)) (fun j => [I (↑j : Int)]) (fun x => H.nil) fun y => [], Out.mk Unit (AX.exit (0 : Nat)) [] (fun x => ixF c l (0 : Nat) = (-1 : Int)) (fun x => []) (fun x => H.nil) fun y => []]]) (LoopS (Env.mk Tryd.prog (Sof (P := Tryd.prog) []) (Pof (P := Tryd.prog) []) H.nil.base (300 : Nat)) (loopAt Tryd.f82 (0 : Nat)) (19 : Nat) [(0 : Nat), (1 : Nat), (6 : Nat), (7 : Nat), (8 : Nat)] [AV.sl (ints l) l.length r, I c, AV.sl (ints l) l.length r, I (↑l.length : Int), I 0] (H.mk [] [] []) [Out.mk Nat AX.ret [(4 : Nat)] (fun j => ixF c l (0 : Nat) = (↑j : Int)) (fun j => [I (↑j : Int)]) (fun x => H.nil) fun y => [], Out.mk Unit (AX.exit (0 : Nat)) [] (fun x => ixF c l (0 : Nat) = (-1 : Int)) (fun x => []) (fun x => H.nil) fun y => []] ∧ (∀ (y : Nat), ixF c l (0 : Nat) = (↑y : Int) → ∀ (u : Nat → AV), (I (↑y : Int), H.mk [] [] []) = (I (ixF c l (0 : Nat)), H.mk [] [] [])) ∧ (∀ (y : Unit), ixF c l (0 : Nat) = (-1 : Int) → ∀ (u : Nat → AV), (I (-1 : Int), H.mk [] [] []) = (I (ixF c l (0 : Nat)), H.mk [] [] [])) ∧ True) (by kernel_rfl) ?_
  refine ⟨lp82 l r c hp.1 hp.2, ?_⟩
  refine And.intro ?_ ?_
  · skip
    intro y
    intro w1
    intro u
    (congr 2; exact Eq.symm (by assumption))
  · skip
    refine And.intro ?_ ?_
    · skip
      intro y
      intro w1
      intro u
      (congr 2; exact Eq.symm (by assumption))
    · skip
      trivial
noncomputable def c82 : PCtr Tryd.prog := sctr ok82 (X := List Int × Room × Int) (fun x => [ls x.1 x.2.1, I x.2.2]) (fun x => lim x.1.length ∧ rok x.1 x.2.1) (fun x => I (ixF x.2.2 x.1 0)) (by intro x y e _ _; simp at e; simp [e]) (fun x => by simp [AV.bnds, AV.bnd, AV.wk, rm_wk_bnd]) (fun x => by first | rfl | simp [AV.bnd, AV.bnds, Room.bnd, rm_wk_bnd]) (fun x hx => ⟨_, _, _, .nil, r82 (x.1) (x.2.1).wk (x.2.2) (by simp only [rok_wk]; exact hx)⟩)
theorem ok66 : FokM Tryd.prog none1 66 Tryd.f66 := ⟨mixed, by kernel_rfl, by kernel_rfl, by kernel_rfl, by kernel_rfl⟩
theorem r66 (l : List Int) (r : Room) (c : Int) (hp : lim l.length ∧ rok l r) : Body ⟨Tryd.prog, Sof (P := Tryd.prog) [c82.to], Pof (P := Tryd.prog) [], H.nil.base, 300⟩ none1 Tryd.f66 [ls l r, I c] .nil (.bool (decide (c ∈ l)), .nil) := by
  have hm := ixF_mem c l 0
  refine body_s ([Ans.o (Orc.val 7 (I (ixF c l (0 : Nat))) (H.mk [] [] [])), Ans.fork [] []]) (aCall (Sof [c82.to]) (AV.fn (Fn.func (82 : Nat)) [] []) [AV.sl (ints l) l.length r, I c] (H.mk [] [] []) = some (I (ixF c l (0 : Nat)), H.mk [] [] []) ∧ ((0 : Int) ≤ ixF c l (0 : Nat) → (AV.bool true, H.mk [] [] []) = (AV.bool (decide (c ∈ l)), H.mk [] [] [])) ∧ (ixF c l (0 : Nat) < (0 : Int) → (AV.bool false, H.mk [] [] []) = (AV.bool (decide (c ∈ l)), H.mk [] [] []))) (by kernel_rfl) ?_
  refine ⟨by first | (refine acall_hit (c := c82.to) ((l, r, c)) _ rfl ?_; first | exact True.intro | exact hp | exact hp' | (simp only [c82, PCtr.to, pctr, lctr, small, tiny, rng, decide_eq_true_eq, decide_eq_false_iff_not, true_or, or_true, true_and, and_true, Int.reduceEq, Int.reduceNeg, eq_self, reduceIte, if_true, if_false]; first | assumption | omega) | (simp only [c82, PCtr.to, pctr, lctr, small, tiny, rng, decide_eq_true_eq, decide_eq_false_iff_not, true_or, or_true, true_and, and_true, Int.reduceEq, Int.reduceNeg, eq_self, reduceIte, if_true, if_false] at *; first | assumption | omega)) | (refine acall_b (acall_hit (c := c82.to) ((l, r, c)) _ rfl ?_) (by assumption); first | exact True.intro | exact hp | exact hp' | (simp only [c82, PCtr.to, pctr, lctr, small, tiny, rng, decide_eq_true_eq, decide_eq_false_iff_not, true_or, or_true, true_and, and_true, Int.reduceEq, Int.reduceNeg, eq_self, reduceIte, if_true, if_false]; first | assumption | omega) | (simp only [c82, PCtr.to, pctr, lctr, small, tiny, rng, decide_eq_true_eq, decide_eq_false_iff_not, true_or, or_true, true_and, and_true, Int.reduceEq, Int.reduceNeg, eq_self, reduceIte, if_true, if_false] at *; first | assumption | omega)), ?_⟩
  refine And.intro ?_ ?_
  · skip
    intro w0
    first | exact bleaf_t (hm.1 (by assumption)) | exact bleaf_f (fun h => by have := hm.2 h; omega)
  · skip
    intro w0
    first | exact bleaf_t (hm.1 (by assumption)) | exact bleaf_f (fun h => by have := hm.2 h; omega)
noncomputable def c66 : PCtr Tryd.prog := sctr ok66 (X := List Int × Room × Int) (fun x => [ls x.1 x.2.1, I x.2.2]) (fun x => lim x.1.length ∧ rok x.1 x.2.1) (fun x => .bool (decide (x.2.2 ∈ x.1))) (by intro x y e _ _; simp at e; simp [e]) (fun x => by simp [AV.bnds, AV.bnd, AV.wk, rm_wk_bnd]) (fun x => by first | rfl | simp [AV.bnd, AV.bnds, Room.bnd, rm_wk_bnd]) (fun x hx => ⟨_, _, _, .pure c82 (.nil), r66 (x.1) (x.2.1).wk (x.2.2) (by simp only [rok_wk]; exact hx)⟩)
theorem mem_iff {l : List Int} {c : Int} : c ∈ l ↔ ∃ j, j < l.length ∧ l.getD j i0 = c := by
  rw [List.mem_iff_getElem]
  constructor
  · rintro ⟨i, hi, rfl⟩
    exact ⟨i, hi, by simp [List.getD_eq_getElem?_getD, List.getElem?_eq_getElem hi]⟩
  · rintro ⟨i, hi, h⟩
    exact ⟨i, hi, by rw [← h]; simp [List.getD_eq_getElem?_getD, List.getElem?_eq_getElem hi]⟩
end Go.Proofs.Lrn

