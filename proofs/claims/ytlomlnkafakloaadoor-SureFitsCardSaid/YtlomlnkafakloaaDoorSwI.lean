/- Layer 5: the law of least ranks. -/
import Derived.Test.YtlomlnkafakloaaDoorSwH
import Derived.Test.YtlomlnkafakloaaDoorSuI
import Derived.Test.YtlomlnkafakloaaDoorSuJ0
import Derived.Test.YtlomlnkafakloaaDoorSuK
import Derived.KernelRfl
set_option linter.unusedSimpArgs false
set_option linter.unusedVariables false
set_option linter.unnecessarySimpa false
set_option maxHeartbeats 4000000
set_option maxRecDepth 100000
namespace Go.Proofs.Sur
open Go Go.VM

theorem cut_g4 {g : List Int} (h : sz (cut g)) : cut g = g := by
  have h1 := h.2
  have : (cut g).length = min 80 g.length := by simp [cut]
  exact List.take_of_length_le (by omega)
theorem cut_gr4 {g : List Int} : Gr (cut g) ↔ Gr g := by
  constructor
  · intro h; rw [cut_g4 h.1] at h; exact h
  · intro h
    have : cut g = g := List.take_of_length_le (by have := h.1.2; omega)
    rw [this]; exact h
theorem ok7 : FokM Tryd.prog none1 7 Tryd.f7 := ⟨mixed, by kernel_rfl, by kernel_rfl, by kernel_rfl, by kernel_rfl⟩
theorem r7b (g : List Int) (q : RK) (hg : pl g q) (h : ¬ Gr g) : Body (En6 [c19.to, c43b.to, c29.to, c23.to]) none1 Tryd.f7 [ls g (rr q)] .nil (.bool true, .nil) := by
  have p19 := pl_19 hg
  have p29 : lim g.length ∧ rok g (rr q) := ⟨hg.1, pl_rok hg⟩
  have p43 : (lim (cut g).length ∧ rok (cut g) (rcl (rr q))) ∧ ¬ Gr (cut g) := ⟨pl_c hg, fun c => h (cut_gr4.1 c)⟩
  have b1 := grB_f h
  refine body_s ([Ans.o (Orc.val (7 : Nat) (AV.sl (ints (cut g)) (cut g).length (rcl (rr q))) (H.mk [] [] [])), Ans.o (Orc.val (8 : Nat) (AV.tup [I (0 : Int), I (2 : Int)]) (H.mk [] [] [])), Ans.o (Orc.val (12 : Nat) (AV.bool false) (H.mk [] [] [])), Ans.o Orc.dflt, Ans.o Orc.dflt, Ans.o (Orc.val (26 : Nat) (AV.bool true) (H.mk [] [] []))]) (aCall (Sof [c19.to, c43b.to, c29.to, c23.to]) (AV.fn (Fn.func (19 : Nat)) [] []) [AV.sl (ints g) g.length (rr q)] (H.mk [] [] []) = some (AV.sl (ints (cut g)) (cut g).length (rcl (rr q)), H.mk [] [] []) ∧ aCall (Sof [c19.to, c43b.to, c29.to, c23.to]) (AV.fn (Fn.func (43 : Nat)) [] []) [AV.sl (ints (cut g)) (cut g).length (rcl (rr q))] (H.mk [] [] []) = some (AV.tup [I (0 : Int), I (2 : Int)], H.mk [] [] []) ∧ aCall (Sof [c19.to, c43b.to, c29.to, c23.to]) (AV.fn (Fn.func (29 : Nat)) [] []) [AV.sl (ints g) g.length (rr q)] (H.mk [] [] []) = some (AV.bool false, H.mk [] [] []) ∧ aCall (Sof [c19.to, c43b.to, c29.to, c23.to]) (AV.fn (Fn.func (23 : Nat)) [] []) [] (H.mk [] [] []) = some (AV.bool true, H.mk [] [] []) ∧ (AV.bool true, H.mk [] [] []) = (AV.bool true, H.mk [] [] [])) (by kernel_rfl) ?_
  refine And.intro (by exact acall_hit (c := c19.to) (g, rr q) _ rfl p19) ?_
  refine And.intro (by exact acall_hit (c := c43b.to) (cut g, rcl (rr q)) _ rfl p43) ?_
  refine And.intro (by exact acall_b (acall_hit (c := c29.to) (g, rr q) _ rfl p29) b1) ?_
  refine And.intro (by exact acall_hit (c := c23.to) () _ rfl trivial) ?_
  first | with_reducible rfl | (refine bleaf_t ?_; omega) | (refine bleaf_f ?_; omega) | (refine ileaf ?_; omega) | rfl | (exfalso; omega)
theorem r7l (g : List Int) (q : RK) (hg : pl g q) (h : Gr g) (h5 : ¬ g.length ≤ 5) : Body (En6 [c19.to, c43l.to, c29.to, c23.to]) none1 Tryd.f7 [ls g (rr q)] .nil (.bool true, .nil) := by
  have p19 := pl_19 hg
  have p29 : lim g.length ∧ rok g (rr q) := ⟨hg.1, pl_rok hg⟩
  have hc := cut_gr4.2 h
  have eg := cut_g4 hc.1
  have p43 : (lim (cut g).length ∧ rok (cut g) (rcl (rr q))) ∧ Gr (cut g) ∧ ¬ (cut g).length ≤ 5 := ⟨pl_c hg, hc, by rw [eg]; exact h5⟩
  have b1 := grB_t h
  have h5' : (5 : Int) < (g.length : Int) := by omega
  refine body_s ([Ans.o (Orc.val (7 : Nat) (AV.sl (ints (cut g)) (cut g).length (rcl (rr q))) (H.mk [] [] [])), Ans.o (Orc.val (8 : Nat) (AV.tup [I (0 : Int), I (2 : Int)]) (H.mk [] [] [])), Ans.o (Orc.val (12 : Nat) (AV.bool true) (H.mk [] [] [])), Ans.o (Orc.b true), Ans.o Orc.dflt, Ans.o Orc.dflt, Ans.o (Orc.val (26 : Nat) (AV.bool true) (H.mk [] [] []))]) (aCall (Sof [c19.to, c43l.to, c29.to, c23.to]) (AV.fn (Fn.func (19 : Nat)) [] []) [AV.sl (ints g) g.length (rr q)] (H.mk [] [] []) = some (AV.sl (ints (cut g)) (cut g).length (rcl (rr q)), H.mk [] [] []) ∧ aCall (Sof [c19.to, c43l.to, c29.to, c23.to]) (AV.fn (Fn.func (43 : Nat)) [] []) [AV.sl (ints (cut g)) (cut g).length (rcl (rr q))] (H.mk [] [] []) = some (AV.tup [I (0 : Int), I (2 : Int)], H.mk [] [] []) ∧ aCall (Sof [c19.to, c43l.to, c29.to, c23.to]) (AV.fn (Fn.func (29 : Nat)) [] []) [AV.sl (ints g) g.length (rr q)] (H.mk [] [] []) = some (AV.bool true, H.mk [] [] []) ∧ (5 : Int) < (↑g.length : Int) ∧ aCall (Sof [c19.to, c43l.to, c29.to, c23.to]) (AV.fn (Fn.func (23 : Nat)) [] []) [] (H.mk [] [] []) = some (AV.bool true, H.mk [] [] []) ∧ (AV.bool true, H.mk [] [] []) = (AV.bool true, H.mk [] [] [])) (by kernel_rfl) ?_
  refine And.intro (by exact acall_hit (c := c19.to) (g, rr q) _ rfl p19) ?_
  refine And.intro (by exact acall_hit (c := c43l.to) (cut g, rcl (rr q)) _ rfl p43) ?_
  refine And.intro (by exact acall_b (acall_hit (c := c29.to) (g, rr q) _ rfl p29) b1) ?_
  refine And.intro (by first | with_reducible assumption | omega | assumption) ?_
  refine And.intro (by exact acall_hit (c := c23.to) () _ rfl trivial) ?_
  first | with_reducible rfl | (refine bleaf_t ?_; omega) | (refine bleaf_f ?_; omega) | (refine ileaf ?_; omega) | rfl | (exfalso; omega)
theorem r7g (g : List Int) (q : RK) (hg : pl g q) (h : Gr g) (h5 : g.length ≤ 5) : Body (En6 [c19.to, c43g.to, c29.to, c44.to, c23.to]) none1 Tryd.f7 [ls g (rr q)] .nil (.bool true, .nil) := by
  have p19 := pl_19 hg
  have p29 : lim g.length ∧ rok g (rr q) := ⟨hg.1, pl_rok hg⟩
  have hc := cut_gr4.2 h
  have eg := cut_g4 hc.1
  have p43 : (lim (cut g).length ∧ rok (cut g) (rcl (rr q))) ∧ Gr (cut g) ∧ (cut g).length ≤ 5 := ⟨pl_c hg, hc, by rw [eg]; exact h5⟩
  have p44 : (Gr g ∧ g.length ≤ 5) ∧ rok g (rr q) := ⟨⟨h, h5⟩, p29.2⟩
  have b1 := grB_t h
  have h5' : (g.length : Int) ≤ 5 := by omega
  have e1 : ((ftF (cut g) (cut g).length [0] : Nat) : Int) = ((rfF g g.length [0, 0, 0, 0, 0] g.length : Nat) : Int) := by rw [eg, fit_eq h h5]
  refine body_s ([Ans.o (Orc.val (7 : Nat) (AV.sl (ints (cut g)) (cut g).length (rcl (rr q))) (H.mk [] [] [])), Ans.o (Orc.val (8 : Nat) (AV.tup [I (↑(ftF (cut g) (cut g).length [(0 : Int)]) : Int), I (0 : Int)]) (H.mk [] [] [])), Ans.o (Orc.val (12 : Nat) (AV.bool true) (H.mk [] [] [])), Ans.o (Orc.b false), Ans.o (Orc.val (30 : Nat) (I (↑(rfF g g.length [(0 : Int), (0 : Int), (0 : Int), (0 : Int), (0 : Int)] g.length) : Int)) (H.mk [] [] [])), Ans.o (Orc.b true), Ans.o Orc.dflt, Ans.o (Orc.val (37 : Nat) (AV.bool true) (H.mk [] [] []))]) (aCall (Sof [c19.to, c43g.to, c29.to, c44.to, c23.to]) (AV.fn (Fn.func (19 : Nat)) [] []) [AV.sl (ints g) g.length (rr q)] (H.mk [] [] []) = some (AV.sl (ints (cut g)) (cut g).length (rcl (rr q)), H.mk [] [] []) ∧ aCall (Sof [c19.to, c43g.to, c29.to, c44.to, c23.to]) (AV.fn (Fn.func (43 : Nat)) [] []) [AV.sl (ints (cut g)) (cut g).length (rcl (rr q))] (H.mk [] [] []) = some (AV.tup [I (↑(ftF (cut g) (cut g).length [(0 : Int)]) : Int), I (0 : Int)], H.mk [] [] []) ∧ aCall (Sof [c19.to, c43g.to, c29.to, c44.to, c23.to]) (AV.fn (Fn.func (29 : Nat)) [] []) [AV.sl (ints g) g.length (rr q)] (H.mk [] [] []) = some (AV.bool true, H.mk [] [] []) ∧ (↑g.length : Int) ≤ (5 : Int) ∧ aCall (Sof [c19.to, c43g.to, c29.to, c44.to, c23.to]) (AV.fn (Fn.func (44 : Nat)) [] []) [AV.sl (ints g) g.length (rr q)] (H.mk [] [] []) = some (I (↑(rfF g g.length [(0 : Int), (0 : Int), (0 : Int), (0 : Int), (0 : Int)] g.length) : Int), H.mk [] [] []) ∧ (↑(ftF (cut g) (cut g).length [(0 : Int)]) : Int) = (↑(rfF g g.length [(0 : Int), (0 : Int), (0 : Int), (0 : Int), (0 : Int)] g.length) : Int) ∧ aCall (Sof [c19.to, c43g.to, c29.to, c44.to, c23.to]) (AV.fn (Fn.func (23 : Nat)) [] []) [] (H.mk [] [] []) = some (AV.bool true, H.mk [] [] []) ∧ (AV.bool true, H.mk [] [] []) = (AV.bool true, H.mk [] [] [])) (by kernel_rfl) ?_
  refine And.intro (by exact acall_hit (c := c19.to) (g, rr q) _ rfl p19) ?_
  refine And.intro (by exact acall_hit (c := c43g.to) (cut g, rcl (rr q)) _ rfl p43) ?_
  refine And.intro (by exact acall_b (acall_hit (c := c29.to) (g, rr q) _ rfl p29) b1) ?_
  refine And.intro (by first | with_reducible assumption | omega | assumption) ?_
  refine And.intro (by exact acall_hit (c := c44.to) (g, rr q) _ rfl p44) ?_
  refine And.intro (by first | with_reducible assumption | omega | assumption) ?_
  refine And.intro (by exact acall_hit (c := c23.to) () _ rfl trivial) ?_
  first | with_reducible rfl | (refine bleaf_t ?_; omega) | (refine bleaf_f ?_; omega) | (refine ileaf ?_; omega) | rfl | (exfalso; omega)
theorem fits_ok (g : List Int) (q : RK) (h1 : lim g.length) (h2 : q.mt = true → g = []) : CallOk Tryd.prog 7 [ls g (rr q)] .nil (.bool true) .nil := by
  by_cases h : Gr g
  · by_cases h5 : g.length ≤ 5
    · exact (r7g g q ⟨h1, h2⟩ h h5).run ok7 (.pure _ (.pure _ (.pure _ (.pure _ (.pure _ .nil))))) rfl
    · exact (r7l g q ⟨h1, h2⟩ h h5).run ok7 (.pure _ (.pure _ (.pure _ (.pure _ .nil)))) rfl
  · exact (r7b g q ⟨h1, h2⟩ h).run ok7 (.pure _ (.pure _ (.pure _ (.pure _ .nil)))) rfl
end Go.Proofs.Sur
