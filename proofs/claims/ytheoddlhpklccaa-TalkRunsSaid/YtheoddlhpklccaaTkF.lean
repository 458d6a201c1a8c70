/- Layer 3: what nodes are. -/
import Derived.Test.YtheoddlhpklccaaTkE
import Derived.Test.YtheoddlhpklccaaVm6
import Derived.KernelRfl
set_option linter.unusedSimpArgs false
set_option linter.unusedVariables false
set_option linter.unnecessarySimpa false
set_option maxHeartbeats 4000000
set_option maxRecDepth 100000
namespace Go.Proofs.Tlk
open Go Go.VM
theorem ok57g : FokM Try.prog none1 57 Try.f57 := ⟨mixed, by kernel_rfl, by kernel_rfl, by kernel_rfl, by kernel_rfl⟩
theorem r57g (v : Int) (hp : True) : Body ⟨Try.prog, Sof (P := Try.prog) [], Pof (P := Try.prog) [], H.nil.base, 300⟩ none1 Try.f57 [I v] .nil (.bool (decide (v = 0 ∨ v = 1)), .nil) := by
  refine body_s ([Ans.fork [] [Ans.fork [] []]]) ((v = (0 : Int) → (AV.bool true, H.mk [] [] []) = (AV.bool (decide (v = (0 : Int) ∨ v = (1 : Int))), H.mk [] [] [])) ∧ (v ≠ (0 : Int) → (v = (1 : Int) → (AV.bool true, H.mk [] [] []) = (AV.bool (decide (v = (0 : Int) ∨ v = (1 : Int))), H.mk [] [] [])) ∧ (v ≠ (1 : Int) → (AV.bool false, H.mk [] [] []) = (AV.bool (decide (v = (0 : Int) ∨ v = (1 : Int))), H.mk [] [] [])))) (by kernel_rfl) ?_
  refine And.intro ?_ ?_
  · skip
    intro w0
    first | with_reducible rfl | (refine bleaf_t ?_; omega) | (refine bleaf_f ?_; omega) | (refine ileaf ?_; omega) | rfl | (exfalso; omega)
  · skip
    intro w0
    refine And.intro ?_ ?_
    · skip
      intro w1
      first | with_reducible rfl | (refine bleaf_t ?_; omega) | (refine bleaf_f ?_; omega) | (refine ileaf ?_; omega) | rfl | (exfalso; omega)
    · skip
      intro w1
      first | with_reducible rfl | (refine bleaf_t ?_; omega) | (refine bleaf_f ?_; omega) | (refine ileaf ?_; omega) | rfl | (exfalso; omega)
noncomputable def c57g : PCtr Try.prog := sctr ok57g (X := Int) (fun x => [I x]) (fun x => True) (fun x => .bool (decide (x = 0 ∨ x = 1))) (by intro x y e _ _; simp [Int.natCast_inj] at e; simp [e]) (fun x => by simp [AV.bnds, AV.bnd, AV.wk, rm_wk_bnd]) (fun x => by first | rfl | (simp [AV.bnd, rm_wk_bnd]; done)  | (simp [AV.bnd, AV.bnds, rm_wk_bnd]; done) | simp [AV.bnd, AV.bnds, Room.bnd, rm_wk_bnd]) (fun x hx => ⟨_, _, _, .nil, r57g (x) hx⟩)
theorem ok55 : FokM Try.prog none1 55 Try.f55 := ⟨mixed, by kernel_rfl, by kernel_rfl, by kernel_rfl, by kernel_rfl⟩
theorem r55 (v : Int) (hp : True) : Body ⟨Try.prog, Sof (P := Try.prog) [], Pof (P := Try.prog) [], H.nil.base, 300⟩ none1 Try.f55 [I v] .nil (.bool (decide (0 ≤ v ∧ v < 4)), .nil) := by
  refine body_s ([Ans.fork [Ans.fork [] []] []]) (((0 : Int) ≤ v → (v < (4 : Int) → (AV.bool true, H.mk [] [] []) = (AV.bool (decide ((0 : Int) ≤ v ∧ v < (4 : Int))), H.mk [] [] [])) ∧ ((4 : Int) ≤ v → (AV.bool false, H.mk [] [] []) = (AV.bool (decide ((0 : Int) ≤ v ∧ v < (4 : Int))), H.mk [] [] []))) ∧ (v < (0 : Int) → (AV.bool false, H.mk [] [] []) = (AV.bool (decide ((0 : Int) ≤ v ∧ v < (4 : Int))), H.mk [] [] []))) (by kernel_rfl) ?_
  refine And.intro ?_ ?_
  · skip
    intro w0
    refine And.intro ?_ ?_
    · skip
      intro w1
      first | with_reducible rfl | (refine bleaf_t ?_; omega) | (refine bleaf_f ?_; omega) | (refine ileaf ?_; omega) | rfl | (exfalso; omega)
    · skip
      intro w1
      first | with_reducible rfl | (refine bleaf_t ?_; omega) | (refine bleaf_f ?_; omega) | (refine ileaf ?_; omega) | rfl | (exfalso; omega)
  · skip
    intro w0
    first | with_reducible rfl | (refine bleaf_t ?_; omega) | (refine bleaf_f ?_; omega) | (refine ileaf ?_; omega) | rfl | (exfalso; omega)
noncomputable def c55 : PCtr Try.prog := sctr ok55 (X := Int) (fun x => [I x]) (fun x => True) (fun x => .bool (decide (0 ≤ x ∧ x < 4))) (by intro x y e _ _; simp [Int.natCast_inj] at e; simp [e]) (fun x => by simp [AV.bnds, AV.bnd, AV.wk, rm_wk_bnd]) (fun x => by first | rfl | (simp [AV.bnd, rm_wk_bnd]; done)  | (simp [AV.bnd, AV.bnds, rm_wk_bnd]; done) | simp [AV.bnd, AV.bnds, Room.bnd, rm_wk_bnd]) (fun x hx => ⟨_, _, _, .nil, r55 (x) hx⟩)
theorem ok73 : FokM Try.prog none1 73 Try.f73 := ⟨mixed, by kernel_rfl, by kernel_rfl, by kernel_rfl, by kernel_rfl⟩
theorem r73 (b : Bool) (v : Int) (w : Int) (s : Int) (n : Int) (y : Int) (hp : True) : Body ⟨Try.prog, Sof (P := Try.prog) [c57g.to], Pof (P := Try.prog) [], H.nil.base, 300⟩ none1 Try.f73 [.agg [.bool b, I v, I w, I s, I n, I y]] .nil (.bool (b && decide ((v = 0 ∨ v = 1) ∧ w = 0 ∧ s = 0 ∧ n = 0 ∧ y = 0)), .nil) := by
  cases b
  · refine body_s ([Ans.vfork (5 : Nat) (decide (v = (0 : Int) ∨ v = (1 : Int))) (H.mk [[AV.bool false, I v, I w, I s, I n, I y]] [] []) [] []]) (aCall (Sof [c57g.to]) (AV.fn (Fn.func (57 : Nat)) [] []) [I v] (H.mk [[AV.bool false, I v, I w, I s, I n, I y]] [] []) = some (AV.bool (decide (v = (0 : Int) ∨ v = (1 : Int))), H.mk [[AV.bool false, I v, I w, I s, I n, I y]] [] []) ∧ (decide (v = (0 : Int) ∨ v = (1 : Int)) = true → (AV.bool false, H.mk [] [] []) = (AV.bool false, H.mk [] [] [])) ∧ (decide (v = (0 : Int) ∨ v = (1 : Int)) = false → (AV.bool false, H.mk [] [] []) = (AV.bool false, H.mk [] [] []))) (by kernel_rfl) ?_
    refine ⟨by first | (refine acall_hit (c := c57g.to) (v) _ rfl ?_; first | exact True.intro | exact hp | exact hp' | (simp only [c57g, PCtr.to, pctr, lctr, small, tiny, rng, decide_eq_true_eq, decide_eq_false_iff_not, true_or, or_true, true_and, and_true, Int.reduceEq, Int.reduceNeg, eq_self, reduceIte, if_true, if_false]; first | assumption | omega) | (simp only [c57g, PCtr.to, pctr, lctr, small, tiny, rng, decide_eq_true_eq, decide_eq_false_iff_not, true_or, or_true, true_and, and_true, Int.reduceEq, Int.reduceNeg, eq_self, reduceIte, if_true, if_false] at *; first | assumption | omega)) | (refine acall_b (acall_hit (c := c57g.to) (v) _ rfl ?_) (by assumption); first | exact True.intro | exact hp | exact hp' | (simp only [c57g, PCtr.to, pctr, lctr, small, tiny, rng, decide_eq_true_eq, decide_eq_false_iff_not, true_or, or_true, true_and, and_true, Int.reduceEq, Int.reduceNeg, eq_self, reduceIte, if_true, if_false]; first | assumption | omega) | (simp only [c57g, PCtr.to, pctr, lctr, small, tiny, rng, decide_eq_true_eq, decide_eq_false_iff_not, true_or, or_true, true_and, and_true, Int.reduceEq, Int.reduceNeg, eq_self, reduceIte, if_true, if_false] at *; first | assumption | omega)), ?_⟩
    refine And.intro ?_ ?_
    · skip
      intro w0
      first | rfl | (simp at *; done) | (simp at *; omega) | (simp at *; simp [*]; done) | (simp at *; simp [*]; omega)
    · skip
      intro w0
      first | rfl | (simp at *; done) | (simp at *; omega) | (simp at *; simp [*]; done) | (simp at *; simp [*]; omega)
  · refine body_s ([Ans.vfork (5 : Nat) (decide (v = (0 : Int) ∨ v = (1 : Int))) (H.mk [[AV.bool true, I v, I w, I s, I n, I y]] [] []) [Ans.bfork (11 : Nat) [] []] []]) (aCall (Sof [c57g.to]) (AV.fn (Fn.func (57 : Nat)) [] []) [I v] (H.mk [[AV.bool true, I v, I w, I s, I n, I y]] [] []) = some (AV.bool (decide (v = (0 : Int) ∨ v = (1 : Int))), H.mk [[AV.bool true, I v, I w, I s, I n, I y]] [] []) ∧ (decide (v = (0 : Int) ∨ v = (1 : Int)) = true → ((true == true && (v == v && (w == (0 : Int) && (s == (0 : Int) && (n == (0 : Int) && (y == (0 : Int) && true)))))) = true → (AV.bool true, H.mk [] [] []) = (AV.bool (true && decide ((v = (0 : Int) ∨ v = (1 : Int)) ∧ w = (0 : Int) ∧ s = (0 : Int) ∧ n = (0 : Int) ∧ y = (0 : Int))), H.mk [] [] [])) ∧ ((true == true && (v == v && (w == (0 : Int) && (s == (0 : Int) && (n == (0 : Int) && (y == (0 : Int) && true)))))) = false → (AV.bool false, H.mk [] [] []) = (AV.bool (true && decide ((v = (0 : Int) ∨ v = (1 : Int)) ∧ w = (0 : Int) ∧ s = (0 : Int) ∧ n = (0 : Int) ∧ y = (0 : Int))), H.mk [] [] []))) ∧ (decide (v = (0 : Int) ∨ v = (1 : Int)) = false → (AV.bool false, H.mk [] [] []) = (AV.bool (true && decide ((v = (0 : Int) ∨ v = (1 : Int)) ∧ w = (0 : Int) ∧ s = (0 : Int) ∧ n = (0 : Int) ∧ y = (0 : Int))), H.mk [] [] []))) (by kernel_rfl) ?_
    refine ⟨by first | (refine acall_hit (c := c57g.to) (v) _ rfl ?_; first | exact True.intro | exact hp | exact hp' | (simp only [c57g, PCtr.to, pctr, lctr, small, tiny, rng, decide_eq_true_eq, decide_eq_false_iff_not, true_or, or_true, true_and, and_true, Int.reduceEq, Int.reduceNeg, eq_self, reduceIte, if_true, if_false]; first | assumption | omega) | (simp only [c57g, PCtr.to, pctr, lctr, small, tiny, rng, decide_eq_true_eq, decide_eq_false_iff_not, true_or, or_true, true_and, and_true, Int.reduceEq, Int.reduceNeg, eq_self, reduceIte, if_true, if_false] at *; first | assumption | omega)) | (refine acall_b (acall_hit (c := c57g.to) (v) _ rfl ?_) (by assumption); first | exact True.intro | exact hp | exact hp' | (simp only [c57g, PCtr.to, pctr, lctr, small, tiny, rng, decide_eq_true_eq, decide_eq_false_iff_not, true_or, or_true, true_and, and_true, Int.reduceEq, Int.reduceNeg, eq_self, reduceIte, if_true, if_false]; first | assumption | omega) | (simp only [c57g, PCtr.to, pctr, lctr, small, tiny, rng, decide_eq_true_eq, decide_eq_false_iff_not, true_or, or_true, true_and, and_true, Int.reduceEq, Int.reduceNeg, eq_self, reduceIte, if_true, if_false] at *; first | assumption | omega)), ?_⟩
    refine And.intro ?_ ?_
    · skip
      intro w0
      refine And.intro ?_ ?_
      · skip
        intro w1
        first | rfl | (simp at *; done) | (simp at *; omega) | (simp at *; simp [*]; done) | (simp at *; simp [*]; omega)
      · skip
        intro w1
        first | rfl | (simp at *; done) | (simp at *; omega) | (simp at *; simp [*]; done) | (simp at *; simp [*]; omega)
    · skip
      intro w0
      first | rfl | (simp at *; done) | (simp at *; omega) | (simp at *; simp [*]; done) | (simp at *; simp [*]; omega)
noncomputable def c73 : PCtr Try.prog := sctr ok73 (X := Bool × Int × Int × Int × Int × Int) (fun x => [.agg [.bool x.1, I x.2.1, I x.2.2.1, I x.2.2.2.1, I x.2.2.2.2.1, I x.2.2.2.2.2]]) (fun x => True) (fun x => .bool (x.1 && decide ((x.2.1 = 0 ∨ x.2.1 = 1) ∧ x.2.2.1 = 0 ∧ x.2.2.2.1 = 0 ∧ x.2.2.2.2.1 = 0 ∧ x.2.2.2.2.2 = 0))) (by intro x y e _ _; simp [Int.natCast_inj] at e; simp [e]) (fun x => by simp [AV.bnds, AV.bnd, AV.wk, rm_wk_bnd]) (fun x => by first | rfl | (simp [AV.bnd, rm_wk_bnd]; done)  | (simp [AV.bnd, AV.bnds, rm_wk_bnd]; done) | simp [AV.bnd, AV.bnds, Room.bnd, rm_wk_bnd]) (fun x hx => ⟨_, _, _, .pure c57g (.nil), r73 (x.1) (x.2.1) (x.2.2.1) (x.2.2.2.1) (x.2.2.2.2.1) (x.2.2.2.2.2) hx⟩)
theorem ok74 : FokM Try.prog none1 74 Try.f74 := ⟨mixed, by kernel_rfl, by kernel_rfl, by kernel_rfl, by kernel_rfl⟩
theorem r74 (b : Bool) (v : Int) (w : Int) (s : Int) (n : Int) (y : Int) (i : Int) (m : Int) (hp : True) : Body ⟨Try.prog, Sof (P := Try.prog) [c57g.to], Pof (P := Try.prog) [], H.nil.base, 300⟩ none1 Try.f74 [.agg [.bool b, I v, I w, I s, I n, I y], I i, I m] .nil (.bool (!b && decide (v = 0 ∧ (w = 0 ∨ w = 1) ∧ 0 ≤ s ∧ s < 16 ∧ i < n ∧ n < m ∧ i < y ∧ y < m)), .nil) := by
  cases b
  · refine body_s ([Ans.fork [Ans.fork [Ans.fork [Ans.fork [Ans.fork [Ans.vfork (41 : Nat) (decide (w = (0 : Int) ∨ w = (1 : Int))) (H.mk [[AV.bool false, I v, I w, I s, I n, I y]] [] []) [Ans.fork [Ans.fork [] []] []] []] []] [Ans.fork [Ans.vfork (41 : Nat) (decide (w = (0 : Int) ∨ w = (1 : Int))) (H.mk [[AV.bool false, I v, I w, I s, I n, I y]] [] []) [Ans.fork [Ans.fork [] []] []] []] []]] [Ans.fork [Ans.vfork (41 : Nat) (decide (w = (0 : Int) ∨ w = (1 : Int))) (H.mk [[AV.bool false, I v, I w, I s, I n, I y]] [] []) [Ans.fork [Ans.fork [] []] []] []] []]] [Ans.fork [Ans.vfork (41 : Nat) (decide (w = (0 : Int) ∨ w = (1 : Int))) (H.mk [[AV.bool false, I v, I w, I s, I n, I y]] [] []) [Ans.fork [Ans.fork [] []] []] []] []]] [Ans.fork [Ans.vfork (41 : Nat) (decide (w = (0 : Int) ∨ w = (1 : Int))) (H.mk [[AV.bool false, I v, I w, I s, I n, I y]] [] []) [Ans.fork [Ans.fork [] []] []] []] []]]) ((i < n → (n < m → (i < y → (y < m → (v = (0 : Int) → aCall (Sof [c57g.to]) (AV.fn (Fn.func (57 : Nat)) [] []) [I w] (H.mk [[AV.bool false, I v, I w, I s, I n, I y]] [] []) = some (AV.bool (decide (w = (0 : Int) ∨ w = (1 : Int))), H.mk [[AV.bool false, I v, I w, I s, I n, I y]] [] []) ∧ (decide (w = (0 : Int) ∨ w = (1 : Int)) = true → ((0 : Int) ≤ s → (s < (16 : Int) → (AV.bool true, H.mk [] [] []) = (AV.bool (!false && decide (v = (0 : Int) ∧ (w = (0 : Int) ∨ w = (1 : Int)) ∧ (0 : Int) ≤ s ∧ s < (16 : Int) ∧ i < n ∧ n < m ∧ i < y ∧ y < m)), H.mk [] [] [])) ∧ ((16 : Int) ≤ s → (AV.bool false, H.mk [] [] []) = (AV.bool (!false && decide (v = (0 : Int) ∧ (w = (0 : Int) ∨ w = (1 : Int)) ∧ (0 : Int) ≤ s ∧ s < (16 : Int) ∧ i < n ∧ n < m ∧ i < y ∧ y < m)), H.mk [] [] []))) ∧ (s < (0 : Int) → (AV.bool false, H.mk [] [] []) = (AV.bool (!false && decide (v = (0 : Int) ∧ (w = (0 : Int) ∨ w = (1 : Int)) ∧ (0 : Int) ≤ s ∧ s < (16 : Int) ∧ i < n ∧ n < m ∧ i < y ∧ y < m)), H.mk [] [] []))) ∧ (decide (w = (0 : Int) ∨ w = (1 : Int)) = false → (AV.bool false, H.mk [] [] []) = (AV.bool (!false && decide (v = (0 : Int) ∧ (w = (0 : Int) ∨ w = (1 : Int)) ∧ (0 : Int) ≤ s ∧ s < (16 : Int) ∧ i < n ∧ n < m ∧ i < y ∧ y < m)), H.mk [] [] []))) ∧ (v ≠ (0 : Int) → (AV.bool false, H.mk [] [] []) = (AV.bool (!false && decide (v = (0 : Int) ∧ (w = (0 : Int) ∨ w = (1 : Int)) ∧ (0 : Int) ≤ s ∧ s < (16 : Int) ∧ i < n ∧ n < m ∧ i < y ∧ y < m)), H.mk [] [] []))) ∧ (m ≤ y → (v = (0 : Int) → aCall (Sof [c57g.to]) (AV.fn (Fn.func (57 : Nat)) [] []) [I w] (H.mk [[AV.bool false, I v, I w, I s, I n, I y]] [] []) = some (AV.bool (decide (w = (0 : Int) ∨ w = (1 : Int))), H.mk [[AV.bool false, I v, I w, I s, I n, I y]] [] []) ∧ (decide (w = (0 : Int) ∨ w = (1 : Int)) = true → ((0 : Int) ≤ s → (s < (16 : Int) → (AV.bool false, H.mk [] [] []) = (AV.bool (!false && decide (v = (0 : Int) ∧ (w = (0 : Int) ∨ w = (1 : Int)) ∧ (0 : Int) ≤ s ∧ s < (16 : Int) ∧ i < n ∧ n < m ∧ i < y ∧ y < m)), H.mk [] [] [])) ∧ ((16 : Int) ≤ s → (AV.bool false, H.mk [] [] []) = (AV.bool (!false && decide (v = (0 : Int) ∧ (w = (0 : Int) ∨ w = (1 : Int)) ∧ (0 : Int) ≤ s ∧ s < (16 : Int) ∧ i < n ∧ n < m ∧ i < y ∧ y < m)), H.mk [] [] []))) ∧ (s < (0 : Int) → (AV.bool false, H.mk [] [] []) = (AV.bool (!false && decide (v = (0 : Int) ∧ (w = (0 : Int) ∨ w = (1 : Int)) ∧ (0 : Int) ≤ s ∧ s < (16 : Int) ∧ i < n ∧ n < m ∧ i < y ∧ y < m)), H.mk [] [] []))) ∧ (decide (w = (0 : Int) ∨ w = (1 : Int)) = false → (AV.bool false, H.mk [] [] []) = (AV.bool (!false && decide (v = (0 : Int) ∧ (w = (0 : Int) ∨ w = (1 : Int)) ∧ (0 : Int) ≤ s ∧ s < (16 : Int) ∧ i < n ∧ n < m ∧ i < y ∧ y < m)), H.mk [] [] []))) ∧ (v ≠ (0 : Int) → (AV.bool false, H.mk [] [] []) = (AV.bool (!false && decide (v = (0 : Int) ∧ (w = (0 : Int) ∨ w = (1 : Int)) ∧ (0 : Int) ≤ s ∧ s < (16 : Int) ∧ i < n ∧ n < m ∧ i < y ∧ y < m)), H.mk [] [] [])))) ∧ (y ≤ i → (v = (0 : Int) → aCall (Sof [c57g.to]) (AV.fn (Fn.func (57 : Nat)) [] []) [I w] (H.mk [[AV.bool false, I v, I w, I s, I n, I y]] [] []) = some (AV.bool (decide (w = (0 : Int) ∨ w = (1 : Int))), H.mk [[AV.bool false, I v, I w, I s, I n, I y]] [] []) ∧ (decide (w = (0 : Int) ∨ w = (1 : Int)) = true → ((0 : Int) ≤ s → (s < (16 : Int) → (AV.bool false, H.mk [] [] []) = (AV.bool (!false && decide (v = (0 : Int) ∧ (w = (0 : Int) ∨ w = (1 : Int)) ∧ (0 : Int) ≤ s ∧ s < (16 : Int) ∧ i < n ∧ n < m ∧ i < y ∧ y < m)), H.mk [] [] [])) ∧ ((16 : Int) ≤ s → (AV.bool false, H.mk [] [] []) = (AV.bool (!false && decide (v = (0 : Int) ∧ (w = (0 : Int) ∨ w = (1 : Int)) ∧ (0 : Int) ≤ s ∧ s < (16 : Int) ∧ i < n ∧ n < m ∧ i < y ∧ y < m)), H.mk [] [] []))) ∧ (s < (0 : Int) → (AV.bool false, H.mk [] [] []) = (AV.bool (!false && decide (v = (0 : Int) ∧ (w = (0 : Int) ∨ w = (1 : Int)) ∧ (0 : Int) ≤ s ∧ s < (16 : Int) ∧ i < n ∧ n < m ∧ i < y ∧ y < m)), H.mk [] [] []))) ∧ (decide (w = (0 : Int) ∨ w = (1 : Int)) = false → (AV.bool false, H.mk [] [] []) = (AV.bool (!false && decide (v = (0 : Int) ∧ (w = (0 : Int) ∨ w = (1 : Int)) ∧ (0 : Int) ≤ s ∧ s < (16 : Int) ∧ i < n ∧ n < m ∧ i < y ∧ y < m)), H.mk [] [] []))) ∧ (v ≠ (0 : Int) → (AV.bool false, H.mk [] [] []) = (AV.bool (!false && decide (v = (0 : Int) ∧ (w = (0 : Int) ∨ w = (1 : Int)) ∧ (0 : Int) ≤ s ∧ s < (16 : Int) ∧ i < n ∧ n < m ∧ i < y ∧ y < m)), H.mk [] [] [])))) ∧ (m ≤ n → (v = (0 : Int) → aCall (Sof [c57g.to]) (AV.fn (Fn.func (57 : Nat)) [] []) [I w] (H.mk [[AV.bool false, I v, I w, I s, I n, I y]] [] []) = some (AV.bool (decide (w = (0 : Int) ∨ w = (1 : Int))), H.mk [[AV.bool false, I v, I w, I s, I n, I y]] [] []) ∧ (decide (w = (0 : Int) ∨ w = (1 : Int)) = true → ((0 : Int) ≤ s → (s < (16 : Int) → (AV.bool false, H.mk [] [] []) = (AV.bool (!false && decide (v = (0 : Int) ∧ (w = (0 : Int) ∨ w = (1 : Int)) ∧ (0 : Int) ≤ s ∧ s < (16 : Int) ∧ i < n ∧ n < m ∧ i < y ∧ y < m)), H.mk [] [] [])) ∧ ((16 : Int) ≤ s → (AV.bool false, H.mk [] [] []) = (AV.bool (!false && decide (v = (0 : Int) ∧ (w = (0 : Int) ∨ w = (1 : Int)) ∧ (0 : Int) ≤ s ∧ s < (16 : Int) ∧ i < n ∧ n < m ∧ i < y ∧ y < m)), H.mk [] [] []))) ∧ (s < (0 : Int) → (AV.bool false, H.mk [] [] []) = (AV.bool (!false && decide (v = (0 : Int) ∧ (w = (0 : Int) ∨ w = (1 : Int)) ∧ (0 : Int) ≤ s ∧ s < (16 : Int) ∧ i < n ∧ n < m ∧ i < y ∧ y < m)), H.mk [] [] []))) ∧ (decide (w = (0 : Int) ∨ w = (1 : Int)) = false → (AV.bool false, H.mk [] [] []) = (AV.bool (!false && decide (v = (0 : Int) ∧ (w = (0 : Int) ∨ w = (1 : Int)) ∧ (0 : Int) ≤ s ∧ s < (16 : Int) ∧ i < n ∧ n < m ∧ i < y ∧ y < m)), H.mk [] [] []))) ∧ (v ≠ (0 : Int) → (AV.bool false, H.mk [] [] []) = (AV.bool (!false && decide (v = (0 : Int) ∧ (w = (0 : Int) ∨ w = (1 : Int)) ∧ (0 : Int) ≤ s ∧ s < (16 : Int) ∧ i < n ∧ n < m ∧ i < y ∧ y < m)), H.mk [] [] [])))) ∧ (n ≤ i → (v = (0 : Int) → aCall (Sof [c57g.to]) (AV.fn (Fn.func (57 : Nat)) [] []) [I w] (H.mk [[AV.bool false, I v, I w, I s, I n, I y]] [] []) = some (AV.bool (decide (w = (0 : Int) ∨ w = (1 : Int))), H.mk [[AV.bool false, I v, I w, I s, I n, I y]] [] []) ∧ (decide (w = (0 : Int) ∨ w = (1 : Int)) = true → ((0 : Int) ≤ s → (s < (16 : Int) → (AV.bool false, H.mk [] [] []) = (AV.bool (!false && decide (v = (0 : Int) ∧ (w = (0 : Int) ∨ w = (1 : Int)) ∧ (0 : Int) ≤ s ∧ s < (16 : Int) ∧ i < n ∧ n < m ∧ i < y ∧ y < m)), H.mk [] [] [])) ∧ ((16 : Int) ≤ s → (AV.bool false, H.mk [] [] []) = (AV.bool (!false && decide (v = (0 : Int) ∧ (w = (0 : Int) ∨ w = (1 : Int)) ∧ (0 : Int) ≤ s ∧ s < (16 : Int) ∧ i < n ∧ n < m ∧ i < y ∧ y < m)), H.mk [] [] []))) ∧ (s < (0 : Int) → (AV.bool false, H.mk [] [] []) = (AV.bool (!false && decide (v = (0 : Int) ∧ (w = (0 : Int) ∨ w = (1 : Int)) ∧ (0 : Int) ≤ s ∧ s < (16 : Int) ∧ i < n ∧ n < m ∧ i < y ∧ y < m)), H.mk [] [] []))) ∧ (decide (w = (0 : Int) ∨ w = (1 : Int)) = false → (AV.bool false, H.mk [] [] []) = (AV.bool (!false && decide (v = (0 : Int) ∧ (w = (0 : Int) ∨ w = (1 : Int)) ∧ (0 : Int) ≤ s ∧ s < (16 : Int) ∧ i < n ∧ n < m ∧ i < y ∧ y < m)), H.mk [] [] []))) ∧ (v ≠ (0 : Int) → (AV.bool false, H.mk [] [] []) = (AV.bool (!false && decide (v = (0 : Int) ∧ (w = (0 : Int) ∨ w = (1 : Int)) ∧ (0 : Int) ≤ s ∧ s < (16 : Int) ∧ i < n ∧ n < m ∧ i < y ∧ y < m)), H.mk [] [] [])))) (by kernel_rfl) ?_
    refine And.intro ?_ ?_
    · skip
      intro w0
      refine And.intro ?_ ?_
      · skip
        intro w1
        refine And.intro ?_ ?_
        · skip
          intro w2
          refine And.intro ?_ ?_
          · skip
            intro w3
            refine And.intro ?_ ?_
            · skip
              intro w4
              refine ⟨by first | (refine acall_hit (c := c57g.to) (w) _ rfl ?_; first | exact True.intro | exact hp | exact hp' | (simp only [c57g, PCtr.to, pctr, lctr, small, tiny, rng, decide_eq_true_eq, decide_eq_false_iff_not, true_or, or_true, true_and, and_true, Int.reduceEq, Int.reduceNeg, eq_self, reduceIte, if_true, if_false]; first | assumption | omega) | (simp only [c57g, PCtr.to, pctr, lctr, small, tiny, rng, decide_eq_true_eq, decide_eq_false_iff_not, true_or, or_true, true_and, and_true, Int.reduceEq, Int.reduceNeg, eq_self, reduceIte, if_true, if_false] at *; first | assumption | omega)) | (refine acall_b (acall_hit (c := c57g.to) (w) _ rfl ?_) (by assumption); first | exact True.intro | exact hp | exact hp' | (simp only [c57g, PCtr.to, pctr, lctr, small, tiny, rng, decide_eq_true_eq, decide_eq_false_iff_not, true_or, or_true, true_and, and_true, Int.reduceEq, Int.reduceNeg, eq_self, reduceIte, if_true, if_false]; first | assumption | omega) | (simp only [c57g, PCtr.to, pctr, lctr, small, tiny, rng, decide_eq_true_eq, decide_eq_false_iff_not, true_or, or_true, true_and, and_true, Int.reduceEq, Int.reduceNeg, eq_self, reduceIte, if_true, if_false] at *; first | assumption | omega)), ?_⟩
              refine And.intro ?_ ?_
              · skip
                intro w5
                refine And.intro ?_ ?_
                · skip
                  intro w6
                  refine And.intro ?_ ?_
                  · skip
                    intro w7
                    first | rfl | (simp at *; done) | (simp at *; omega) | (simp at *; simp [*]; done) | (simp at *; simp [*]; omega)
                  · skip
                    intro w7
                    first | rfl | (simp at *; done) | (simp at *; omega) | (simp at *; simp [*]; done) | (simp at *; simp [*]; omega)
                · skip
                  intro w6
                  first | rfl | (simp at *; done) | (simp at *; omega) | (simp at *; simp [*]; done) | (simp at *; simp [*]; omega)
              · skip
                intro w5
                first | rfl | (simp at *; done) | (simp at *; omega) | (simp at *; simp [*]; done) | (simp at *; simp [*]; omega)
            · skip
              intro w4
              first | rfl | (simp at *; done) | (simp at *; omega) | (simp at *; simp [*]; done) | (simp at *; simp [*]; omega)
          · skip
            intro w3
            refine And.intro ?_ ?_
            · skip
              intro w4
              refine ⟨by first | (refine acall_hit (c := c57g.to) (w) _ rfl ?_; first | exact True.intro | exact hp | exact hp' | (simp only [c57g, PCtr.to, pctr, lctr, small, tiny, rng, decide_eq_true_eq, decide_eq_false_iff_not, true_or, or_true, true_and, and_true, Int.reduceEq, Int.reduceNeg, eq_self, reduceIte, if_true, if_false]; first | assumption | omega) | (simp only [c57g, PCtr.to, pctr, lctr, small, tiny, rng, decide_eq_true_eq, decide_eq_false_iff_not, true_or, or_true, true_and, and_true, Int.reduceEq, Int.reduceNeg, eq_self, reduceIte, if_true, if_false] at *; first | assumption | omega)) | (refine acall_b (acall_hit (c := c57g.to) (w) _ rfl ?_) (by assumption); first | exact True.intro | exact hp | exact hp' | (simp only [c57g, PCtr.to, pctr, lctr, small, tiny, rng, decide_eq_true_eq, decide_eq_false_iff_not, true_or, or_true, true_and, and_true, Int.reduceEq, Int.reduceNeg, eq_self, reduceIte, if_true, if_false]; first | assumption | omega) | (simp only [c57g, PCtr.to, pctr, lctr, small, tiny, rng, decide_eq_true_eq, decide_eq_false_iff_not, true_or, or_true, true_and, and_true, Int.reduceEq, Int.reduceNeg, eq_self, reduceIte, if_true, if_false] at *; first | assumption | omega)), ?_⟩
              refine And.intro ?_ ?_
              · skip
                intro w5
                refine And.intro ?_ ?_
                · skip
                  intro w6
                  refine And.intro ?_ ?_
                  · skip
                    intro w7
                    first | rfl | (simp at *; done) | (simp at *; omega) | (simp at *; simp [*]; done) | (simp at *; simp [*]; omega)
                  · skip
                    intro w7
                    first | rfl | (simp at *; done) | (simp at *; omega) | (simp at *; simp [*]; done) | (simp at *; simp [*]; omega)
                · skip
                  intro w6
                  first | rfl | (simp at *; done) | (simp at *; omega) | (simp at *; simp [*]; done) | (simp at *; simp [*]; omega)
              · skip
                intro w5
                first | rfl | (simp at *; done) | (simp at *; omega) | (simp at *; simp [*]; done) | (simp at *; simp [*]; omega)
            · skip
              intro w4
              first | rfl | (simp at *; done) | (simp at *; omega) | (simp at *; simp [*]; done) | (simp at *; simp [*]; omega)
        · skip
          intro w2
          refine And.intro ?_ ?_
          · skip
            intro w3
            refine ⟨by first | (refine acall_hit (c := c57g.to) (w) _ rfl ?_; first | exact True.intro | exact hp | exact hp' | (simp only [c57g, PCtr.to, pctr, lctr, small, tiny, rng, decide_eq_true_eq, decide_eq_false_iff_not, true_or, or_true, true_and, and_true, Int.reduceEq, Int.reduceNeg, eq_self, reduceIte, if_true, if_false]; first | assumption | omega) | (simp only [c57g, PCtr.to, pctr, lctr, small, tiny, rng, decide_eq_true_eq, decide_eq_false_iff_not, true_or, or_true, true_and, and_true, Int.reduceEq, Int.reduceNeg, eq_self, reduceIte, if_true, if_false] at *; first | assumption | omega)) | (refine acall_b (acall_hit (c := c57g.to) (w) _ rfl ?_) (by assumption); first | exact True.intro | exact hp | exact hp' | (simp only [c57g, PCtr.to, pctr, lctr, small, tiny, rng, decide_eq_true_eq, decide_eq_false_iff_not, true_or, or_true, true_and, and_true, Int.reduceEq, Int.reduceNeg, eq_self, reduceIte, if_true, if_false]; first | assumption | omega) | (simp only [c57g, PCtr.to, pctr, lctr, small, tiny, rng, decide_eq_true_eq, decide_eq_false_iff_not, true_or, or_true, true_and, and_true, Int.reduceEq, Int.reduceNeg, eq_self, reduceIte, if_true, if_false] at *; first | assumption | omega)), ?_⟩
            refine And.intro ?_ ?_
            · skip
              intro w4
              refine And.intro ?_ ?_
              · skip
                intro w5
                refine And.intro ?_ ?_
                · skip
                  intro w6
                  first | rfl | (simp at *; done) | (simp at *; omega) | (simp at *; simp [*]; done) | (simp at *; simp [*]; omega)
                · skip
                  intro w6
                  first | rfl | (simp at *; done) | (simp at *; omega) | (simp at *; simp [*]; done) | (simp at *; simp [*]; omega)
              · skip
                intro w5
                first | rfl | (simp at *; done) | (simp at *; omega) | (simp at *; simp [*]; done) | (simp at *; simp [*]; omega)
            · skip
              intro w4
              first | rfl | (simp at *; done) | (simp at *; omega) | (simp at *; simp [*]; done) | (simp at *; simp [*]; omega)
          · skip
            intro w3
            first | rfl | (simp at *; done) | (simp at *; omega) | (simp at *; simp [*]; done) | (simp at *; simp [*]; omega)
      · skip
        intro w1
        refine And.intro ?_ ?_
        · skip
          intro w2
          refine ⟨by first | (refine acall_hit (c := c57g.to) (w) _ rfl ?_; first | exact True.intro | exact hp | exact hp' | (simp only [c57g, PCtr.to, pctr, lctr, small, tiny, rng, decide_eq_true_eq, decide_eq_false_iff_not, true_or, or_true, true_and, and_true, Int.reduceEq, Int.reduceNeg, eq_self, reduceIte, if_true, if_false]; first | assumption | omega) | (simp only [c57g, PCtr.to, pctr, lctr, small, tiny, rng, decide_eq_true_eq, decide_eq_false_iff_not, true_or, or_true, true_and, and_true, Int.reduceEq, Int.reduceNeg, eq_self, reduceIte, if_true, if_false] at *; first | assumption | omega)) | (refine acall_b (acall_hit (c := c57g.to) (w) _ rfl ?_) (by assumption); first | exact True.intro | exact hp | exact hp' | (simp only [c57g, PCtr.to, pctr, lctr, small, tiny, rng, decide_eq_true_eq, decide_eq_false_iff_not, true_or, or_true, true_and, and_true, Int.reduceEq, Int.reduceNeg, eq_self, reduceIte, if_true, if_false]; first | assumption | omega) | (simp only [c57g, PCtr.to, pctr, lctr, small, tiny, rng, decide_eq_true_eq, decide_eq_false_iff_not, true_or, or_true, true_and, and_true, Int.reduceEq, Int.reduceNeg, eq_self, reduceIte, if_true, if_false] at *; first | assumption | omega)), ?_⟩
          refine And.intro ?_ ?_
          · skip
            intro w3
            refine And.intro ?_ ?_
            · skip
              intro w4
              refine And.intro ?_ ?_
              · skip
                intro w5
                first | rfl | (simp at *; done) | (simp at *; omega) | (simp at *; simp [*]; done) | (simp at *; simp [*]; omega)
              · skip
                intro w5
                first | rfl | (simp at *; done) | (simp at *; omega) | (simp at *; simp [*]; done) | (simp at *; simp [*]; omega)
            · skip
              intro w4
              first | rfl | (simp at *; done) | (simp at *; omega) | (simp at *; simp [*]; done) | (simp at *; simp [*]; omega)
          · skip
            intro w3
            first | rfl | (simp at *; done) | (simp at *; omega) | (simp at *; simp [*]; done) | (simp at *; simp [*]; omega)
        · skip
          intro w2
          first | rfl | (simp at *; done) | (simp at *; omega) | (simp at *; simp [*]; done) | (simp at *; simp [*]; omega)
    · skip
      intro w0
      refine And.intro ?_ ?_
      · skip
        intro w1
        refine ⟨by first | (refine acall_hit (c := c57g.to) (w) _ rfl ?_; first | exact True.intro | exact hp | exact hp' | (simp only [c57g, PCtr.to, pctr, lctr, small, tiny, rng, decide_eq_true_eq, decide_eq_false_iff_not, true_or, or_true, true_and, and_true, Int.reduceEq, Int.reduceNeg, eq_self, reduceIte, if_true, if_false]; first | assumption | omega) | (simp only [c57g, PCtr.to, pctr, lctr, small, tiny, rng, decide_eq_true_eq, decide_eq_false_iff_not, true_or, or_true, true_and, and_true, Int.reduceEq, Int.reduceNeg, eq_self, reduceIte, if_true, if_false] at *; first | assumption | omega)) | (refine acall_b (acall_hit (c := c57g.to) (w) _ rfl ?_) (by assumption); first | exact True.intro | exact hp | exact hp' | (simp only [c57g, PCtr.to, pctr, lctr, small, tiny, rng, decide_eq_true_eq, decide_eq_false_iff_not, true_or, or_true, true_and, and_true, Int.reduceEq, Int.reduceNeg, eq_self, reduceIte, if_true, if_false]; first | assumption | omega) | (simp only [c57g, PCtr.to, pctr, lctr, small, tiny, rng, decide_eq_true_eq, decide_eq_false_iff_not, true_or, or_true, true_and, and_true, Int.reduceEq, Int.reduceNeg, eq_self, reduceIte, if_true, if_false] at *; first | assumption | omega)), ?_⟩
        refine And.intro ?_ ?_
        · skip
          intro w2
          refine And.intro ?_ ?_
          · skip
            intro w3
            refine And.intro ?_ ?_
            · skip
              intro w4
              first | rfl | (simp at *; done) | (simp at *; omega) | (simp at *; simp [*]; done) | (simp at *; simp [*]; omega)
            · skip
              intro w4
              first | rfl | (simp at *; done) | (simp at *; omega) | (simp at *; simp [*]; done) | (simp at *; simp [*]; omega)
          · skip
            intro w3
            first | rfl | (simp at *; done) | (simp at *; omega) | (simp at *; simp [*]; done) | (simp at *; simp [*]; omega)
        · skip
          intro w2
          first | rfl | (simp at *; done) | (simp at *; omega) | (simp at *; simp [*]; done) | (simp at *; simp [*]; omega)
      · skip
        intro w1
        first | rfl | (simp at *; done) | (simp at *; omega) | (simp at *; simp [*]; done) | (simp at *; simp [*]; omega)
  · refine body_s ([Ans.fork [Ans.fork [Ans.fork [Ans.fork [] []] []] []] []]) ((i < n → (n < m → (i < y → (y < m → (AV.bool false, H.mk [] [] []) = (AV.bool false, H.mk [] [] [])) ∧ (m ≤ y → (AV.bool false, H.mk [] [] []) = (AV.bool false, H.mk [] [] []))) ∧ (y ≤ i → (AV.bool false, H.mk [] [] []) = (AV.bool false, H.mk [] [] []))) ∧ (m ≤ n → (AV.bool false, H.mk [] [] []) = (AV.bool false, H.mk [] [] []))) ∧ (n ≤ i → (AV.bool false, H.mk [] [] []) = (AV.bool false, H.mk [] [] []))) (by kernel_rfl) ?_
    refine And.intro ?_ ?_
    · skip
      intro w0
      refine And.intro ?_ ?_
      · skip
        intro w1
        refine And.intro ?_ ?_
        · skip
          intro w2
          refine And.intro ?_ ?_
          · skip
            intro w3
            first | rfl | (simp at *; done) | (simp at *; omega) | (simp at *; simp [*]; done) | (simp at *; simp [*]; omega)
          · skip
            intro w3
            first | rfl | (simp at *; done) | (simp at *; omega) | (simp at *; simp [*]; done) | (simp at *; simp [*]; omega)
        · skip
          intro w2
          first | rfl | (simp at *; done) | (simp at *; omega) | (simp at *; simp [*]; done) | (simp at *; simp [*]; omega)
      · skip
        intro w1
        first | rfl | (simp at *; done) | (simp at *; omega) | (simp at *; simp [*]; done) | (simp at *; simp [*]; omega)
    · skip
      intro w0
      first | rfl | (simp at *; done) | (simp at *; omega) | (simp at *; simp [*]; done) | (simp at *; simp [*]; omega)
noncomputable def c74 : PCtr Try.prog := sctr ok74 (X := Bool × Int × Int × Int × Int × Int × Int × Int) (fun x => [.agg [.bool x.1, I x.2.1, I x.2.2.1, I x.2.2.2.1, I x.2.2.2.2.1, I x.2.2.2.2.2.1], I x.2.2.2.2.2.2.1, I x.2.2.2.2.2.2.2]) (fun x => True) (fun x => .bool (!x.1 && decide (x.2.1 = 0 ∧ (x.2.2.1 = 0 ∨ x.2.2.1 = 1) ∧ 0 ≤ x.2.2.2.1 ∧ x.2.2.2.1 < 16 ∧ x.2.2.2.2.2.2.1 < x.2.2.2.2.1 ∧ x.2.2.2.2.1 < x.2.2.2.2.2.2.2 ∧ x.2.2.2.2.2.2.1 < x.2.2.2.2.2.1 ∧ x.2.2.2.2.2.1 < x.2.2.2.2.2.2.2))) (by intro x y e _ _; simp [Int.natCast_inj] at e; simp [e]) (fun x => by simp [AV.bnds, AV.bnd, AV.wk, rm_wk_bnd]) (fun x => by first | rfl | (simp [AV.bnd, rm_wk_bnd]; done)  | (simp [AV.bnd, AV.bnds, rm_wk_bnd]; done) | simp [AV.bnd, AV.bnds, Room.bnd, rm_wk_bnd]) (fun x hx => ⟨_, _, _, .pure c57g (.nil), r74 (x.1) (x.2.1) (x.2.2.1) (x.2.2.2.1) (x.2.2.2.2.1) (x.2.2.2.2.2.1) (x.2.2.2.2.2.2.1) (x.2.2.2.2.2.2.2) hx⟩)
end Go.Proofs.Tlk

