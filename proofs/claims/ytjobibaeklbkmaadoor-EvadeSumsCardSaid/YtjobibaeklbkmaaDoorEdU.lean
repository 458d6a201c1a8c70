/- Layer 8: sums. -/
import Derived.Test.YtjobibaeklbkmaaDoorEdS
import Derived.KernelRfl
set_option linter.unusedSimpArgs false
set_option linter.unusedVariables false
set_option linter.unnecessarySimpa false
set_option maxHeartbeats 4000000
set_option maxRecDepth 100000
namespace Go.Proofs.Evd
open Go Go.VM
open Go.Proofs.Sur (W w_wrap w_nat w_inj w_eq0 w_and w_or w_andn w_shl w_shr neg_nat sub_nat tz tz_ok cl bits_cons bits_0 bits_len andn andn_bit andn_le i_wrap i_and i_or i_andn i_shl i_shr bit_01)

/-! ### what a law gets -/
theorem em_rr {l : List Int} {q : RK} (h : q.mt = true → l = []) : em l (rr q) := by
  intro e
  cases q <;> simp_all [rr, RK.mt]
theorem cut_lst (F : W) : cut (lst F) = lst F := List.take_of_length_le (by have := lst_len F; omega)
theorem cut_rng {l : List Int} (h : rng l) : rng (cut l) := fun i hi => by
  have h1 : i < l.length := by rw [List.length_take] at hi; omega
  have h2 : i < 70 := by rw [List.length_take] at hi; omega
  have := h i h1
  simpa [cut, List.getD_eq_getElem?_getD, List.getElem?_take, h2] using this
theorem cut_no {n : Int} {l : List Int} (h : ¬ ∃ F, Fm n l F) : ¬ ∃ F, Fm n (cut l) F := by
  rintro ⟨F, hF⟩
  by_cases hl : l.length ≤ 70
  · rw [cut, List.take_of_length_le hl] at hF
    exact h ⟨F, hF⟩
  · have := hF.ok.2.1
    rw [List.length_take] at this
    omega
/-- 'list' of a family -/
noncomputable def c18f : PCtr Tryd.prog where
  f := 18
  X := W × Room
  args x := [ls (lst x.1) x.2]
  pre x := rok (lst x.1) x.2 ∧ em (lst x.1) x.2
  v x := ls (lst x.1) (rcl x.2)
  det := by
    rintro ⟨l, r⟩ ⟨l', r'⟩ e _ _
    simp at e
    simp [e]
  ok := by
    rintro ⟨F, r⟩ ⟨h1, h2⟩
    have hl : lim (lst F).length := by have := lst_len F; simp only [lim]; omega
    have := c18.ok (lst F, r) ⟨hl, h1, h2⟩
    simp only [c18] at this
    rw [cut_lst] at this
    exact this
theorem ok5 : FokM Tryd.prog none1 5 Tryd.f5 := ⟨mixed, by kernel_rfl, by kernel_rfl, by kernel_rfl, by kernel_rfl⟩
theorem r5g (k : Nat) (F : W) (r : Room) (h : Fm k (lst F) F) (hr : rok (lst F) r) (he : em (lst F) r) : Body (En6 [c18f.to, c38g.to, c39g.to, c24.to, c40.to, c41.to, c22.to, c26.to]) none1 Tryd.f5 [I k, ls (lst F) r] .nil (.bool true, .nil) := by
  have hl : lim (lst F).length := by have := lst_len F; simp only [lim]; omega
  have p18 : rok (lst F) r ∧ em (lst F) r := ⟨hr, he⟩
  have p38 : Fm k (lst F) F ∧ rok (lst F) (rcl r) := ⟨h, rcl_rok hr⟩
  have p24 : lim (lst F).length ∧ rok (lst F) r := ⟨hl, hr⟩
  have p41 : Fm k (lst F) F ∧ rok (lst F) r := ⟨h, hr⟩
  have hfb : famB k (lst F) = true := famB_t ⟨F, h⟩
  have hld : lim (lst (dF k F)).length := by have := lst_len (dF k F); simp only [lim]; omega
  have p22 : lim (lst (dF k F)).length ∧ rok (lst (dF k F)) (rn (lst (dF k F))) ∧ rok (lst (dF k F)) (rn (lst (dF k F))) := ⟨hld, rn_rok _, rn_rok _⟩
  have heq : decide (lst (dF k F) = lst (dF k F)) = true := decide_eq_true rfl
  refine body_s ([Ans.o (Orc.val 12 (AV.sl (ints (lst F)) (lst F).length (rcl r)) (H.mk [] [] [])), Ans.o (Orc.val 13 (AV.tup [I (sm F), I 0]) (H.mk [] [] [])), Ans.o (Orc.val 19 (AV.sl (ints (lst F)) (lst F).length (rcl r)) (H.mk [] [] [])), Ans.o (Orc.val 20 (AV.tup [AV.sl (ints (lst (dF k F))) (lst (dF k F)).length (rn (lst (dF k F))), I 0]) (H.mk [] [] [])), Ans.o (Orc.val 25 (AV.bool true) (H.mk [] [] [])), Ans.o (Orc.val 47 (I (sm F)) (H.mk [] [] [])), Ans.fork [Ans.o (Orc.val 53 (AV.sl (ints (lst (dF k F))) (lst (dF k F)).length (rn (lst (dF k F)))) (H.mk [] [] [])), Ans.o (Orc.val 54 (AV.bool true) (H.mk [] [] [])), Ans.o Orc.dflt, Ans.o Orc.dflt, Ans.o (Orc.val 65 (AV.bool true) (H.mk [] [] []))] []]) (aCall (Sof [c18f.to, c38g.to, c39g.to, c24.to, c40.to, c41.to, c22.to, c26.to]) (AV.fn (Fn.func (18 : Nat)) [] []) [AV.sl (ints (lst F)) (lst F).length r] (H.mk [] [] []) = some (AV.sl (ints (lst F)) (lst F).length (rcl r), H.mk [] [] []) ∧ aCall (Sof [c18f.to, c38g.to, c39g.to, c24.to, c40.to, c41.to, c22.to, c26.to]) (AV.fn (Fn.func (38 : Nat)) [] []) [I (↑k : Int), AV.sl (ints (lst F)) (lst F).length (rcl r)] (H.mk [] [] []) = some (AV.tup [I (sm F), I 0], H.mk [] [] []) ∧ aCall (Sof [c18f.to, c38g.to, c39g.to, c24.to, c40.to, c41.to, c22.to, c26.to]) (AV.fn (Fn.func (18 : Nat)) [] []) [AV.sl (ints (lst F)) (lst F).length r] (H.mk [] [] []) = some (AV.sl (ints (lst F)) (lst F).length (rcl r), H.mk [] [] []) ∧ aCall (Sof [c18f.to, c38g.to, c39g.to, c24.to, c40.to, c41.to, c22.to, c26.to]) (AV.fn (Fn.func (39 : Nat)) [] []) [I (↑k : Int), AV.sl (ints (lst F)) (lst F).length (rcl r)] (H.mk [] [] []) = some (AV.tup [AV.sl (ints (lst (dF k F))) (lst (dF k F)).length (rn (lst (dF k F))), I 0], H.mk [] [] []) ∧ aCall (Sof [c18f.to, c38g.to, c39g.to, c24.to, c40.to, c41.to, c22.to, c26.to]) (AV.fn (Fn.func (24 : Nat)) [] []) [I (↑k : Int), AV.sl (ints (lst F)) (lst F).length r] (H.mk [] [] []) = some (AV.bool true, H.mk [] [] []) ∧ aCall (Sof [c18f.to, c38g.to, c39g.to, c24.to, c40.to, c41.to, c22.to, c26.to]) (AV.fn (Fn.func (40 : Nat)) [] []) [AV.sl (ints (lst F)) (lst F).length r] (H.mk [] [] []) = some (I (sm F), H.mk [] [] []) ∧ (sm F = sm F → aCall (Sof [c18f.to, c38g.to, c39g.to, c24.to, c40.to, c41.to, c22.to, c26.to]) (AV.fn (Fn.func (41 : Nat)) [] []) [I (↑k : Int), AV.sl (ints (lst F)) (lst F).length r] (H.mk [] [] []) = some (AV.sl (ints (lst (dF k F))) (lst (dF k F)).length (rn (lst (dF k F))), H.mk [] [] []) ∧ aCall (Sof [c18f.to, c38g.to, c39g.to, c24.to, c40.to, c41.to, c22.to, c26.to]) (AV.fn (Fn.func (22 : Nat)) [] []) [AV.sl (ints (lst (dF k F))) (lst (dF k F)).length (rn (lst (dF k F))), AV.sl (ints (lst (dF k F))) (lst (dF k F)).length (rn (lst (dF k F)))] (H.mk [] [] []) = some (AV.bool true, H.mk [] [] []) ∧ aCall (Sof [c18f.to, c38g.to, c39g.to, c24.to, c40.to, c41.to, c22.to, c26.to]) (AV.fn (Fn.func (26 : Nat)) [] []) [] (H.mk [] [] []) = some (AV.bool true, H.mk [] [] []) ∧ (AV.bool true, H.mk [] [] []) = (AV.bool true, H.mk [] [] [])) ∧ (sm F ≠ sm F → (AV.bool false, H.mk [] [] []) = (AV.bool true, H.mk [] [] []))) (by kernel_rfl) ?_
  refine ⟨acall_hit (c := c18f.to) (F, r) _ rfl p18, ?_⟩
  refine ⟨acall_hit (c := c38g.to) ((k : Int), F, rcl r) _ rfl p38, ?_⟩
  refine ⟨acall_hit (c := c18f.to) (F, r) _ rfl p18, ?_⟩
  refine ⟨acall_hit (c := c39g.to) (k, F, rcl r) _ rfl p38, ?_⟩
  refine ⟨acall_b (acall_hit (c := c24.to) ((k : Int), lst F, r) _ rfl p24) hfb, ?_⟩
  refine ⟨acall_hit (c := c40.to) (F, r) _ rfl hr, ?_⟩
  refine And.intro ?_ ?_
  · skip
    intro w0
    refine ⟨acall_hit (c := c41.to) (k, F, r) _ rfl p41, ?_⟩
    refine ⟨acall_b (acall_hit (c := c22.to) (lst (dF k F), rn (lst (dF k F)), lst (dF k F), rn (lst (dF k F))) _ rfl p22) heq, ?_⟩
    refine ⟨acall_hit (c := c26.to) () _ rfl trivial, ?_⟩
    first | with_reducible rfl | (refine bleaf_t ?_; omega) | (refine bleaf_f ?_; omega) | (refine ileaf ?_; omega) | rfl | (exfalso; omega)
  · skip
    intro w0
    first | with_reducible rfl | (refine bleaf_t ?_; omega) | (refine bleaf_f ?_; omega) | (refine ileaf ?_; omega) | rfl | (exfalso; omega)
theorem r5b (n : Int) (l : List Int) (r : Room) (h : ¬ ∃ F, Fm n l F) (hl : lim l.length) (hr : rok l r) (he : em l r) (hg : rng l) : Body (En6 [c18.to, c38b.to, c39b.to, c24.to, c26.to]) none1 Tryd.f5 [I n, ls l r] .nil (.bool true, .nil) := by
  have p18 : lim l.length ∧ rok l r ∧ em l r := ⟨hl, hr, he⟩
  have hrc : rok (cut l) (rcl r) := by
    have h1 := rcl_rok hr
    intro hne
    exact h1 (fun e => hne (by rw [cut, e]; rfl))
  have p38 : (lim (cut l).length ∧ rok (cut l) (rcl r) ∧ rng (cut l)) ∧ ¬ ∃ F, Fm n (cut l) F := ⟨⟨cut_lim l, hrc, cut_rng hg⟩, cut_no h⟩
  have p24 : lim l.length ∧ rok l r := ⟨hl, hr⟩
  have hfb : famB n l = false := famB_f h
  refine body_s ([Ans.o (Orc.val 12 (AV.sl (ints (cut l)) (cut l).length (rcl r)) (H.mk [] [] [])), Ans.o (Orc.val 13 (AV.tup [I 0, I 2]) (H.mk [] [] [])), Ans.o (Orc.val 19 (AV.sl (ints (cut l)) (cut l).length (rcl r)) (H.mk [] [] [])), Ans.o (Orc.val 20 (AV.tup [AV.sl [] (0 : Nat) Room.nil, I 2]) (H.mk [] [] [])), Ans.o (Orc.val 25 (AV.bool false) (H.mk [] [] [])), Ans.o Orc.dflt, Ans.o Orc.dflt, Ans.o Orc.dflt, Ans.o Orc.dflt, Ans.o (Orc.val 43 (AV.bool true) (H.mk [] [] []))]) (aCall (Sof [c18.to, c38b.to, c39b.to, c24.to, c26.to]) (AV.fn (Fn.func (18 : Nat)) [] []) [AV.sl (ints l) l.length r] (H.mk [] [] []) = some (AV.sl (ints (cut l)) (cut l).length (rcl r), H.mk [] [] []) ∧ aCall (Sof [c18.to, c38b.to, c39b.to, c24.to, c26.to]) (AV.fn (Fn.func (38 : Nat)) [] []) [I n, AV.sl (ints (cut l)) (cut l).length (rcl r)] (H.mk [] [] []) = some (AV.tup [I 0, I 2], H.mk [] [] []) ∧ aCall (Sof [c18.to, c38b.to, c39b.to, c24.to, c26.to]) (AV.fn (Fn.func (18 : Nat)) [] []) [AV.sl (ints l) l.length r] (H.mk [] [] []) = some (AV.sl (ints (cut l)) (cut l).length (rcl r), H.mk [] [] []) ∧ aCall (Sof [c18.to, c38b.to, c39b.to, c24.to, c26.to]) (AV.fn (Fn.func (39 : Nat)) [] []) [I n, AV.sl (ints (cut l)) (cut l).length (rcl r)] (H.mk [] [] []) = some (AV.tup [AV.sl [] (0 : Nat) Room.nil, I 2], H.mk [] [] []) ∧ aCall (Sof [c18.to, c38b.to, c39b.to, c24.to, c26.to]) (AV.fn (Fn.func (24 : Nat)) [] []) [I n, AV.sl (ints l) l.length r] (H.mk [] [] []) = some (AV.bool false, H.mk [] [] []) ∧ aCall (Sof [c18.to, c38b.to, c39b.to, c24.to, c26.to]) (AV.fn (Fn.func (26 : Nat)) [] []) [] (H.mk [] [] []) = some (AV.bool true, H.mk [] [] []) ∧ (AV.bool true, H.mk [] [] []) = (AV.bool true, H.mk [] [] [])) (by kernel_rfl) ?_
  refine ⟨acall_hit (c := c18.to) (l, r) _ rfl p18, ?_⟩
  refine ⟨acall_hit (c := c38b.to) (n, cut l, rcl r) _ rfl p38, ?_⟩
  refine ⟨acall_hit (c := c18.to) (l, r) _ rfl p18, ?_⟩
  refine ⟨acall_hit (c := c39b.to) (n, cut l, rcl r) _ rfl p38, ?_⟩
  refine ⟨acall_b (acall_hit (c := c24.to) (n, l, r) _ rfl p24) hfb, ?_⟩
  refine ⟨acall_hit (c := c26.to) () _ rfl trivial, ?_⟩
  first | with_reducible rfl | (refine bleaf_t ?_; omega) | (refine bleaf_f ?_; omega) | (refine ileaf ?_; omega) | rfl | (exfalso; omega)
theorem sums_ok (n : Int) (l : List Int) (q : RK) (h1 : l.length ≤ Go.maxLen) (h2 : q.mt = true → l = []) (h3 : rng l) : CallOk Tryd.prog 5 [I n, ls l (rr q)] .nil (.bool true) .nil := by
  have hm : Go.maxLen ≤ 9223372036854775807 := by decide
  have hl : lim l.length := Nat.le_trans h1 hm
  by_cases h : ∃ F, Fm n l F
  · obtain ⟨F, hF⟩ := h
    obtain ⟨k, rfl⟩ : ∃ k : Nat, n = k := ⟨n.toNat, by have := hF.n1; omega⟩
    have e := hF.eq
    subst e
    exact (r5g k F (rr q) hF (rr_rok h2) (em_rr h2)).run ok5 (.pure _ (.pure _ (.pure _ (.pure _ (.pure _ (.pure _ (.pure _ (.pure _ .nil)))))))) rfl
  · exact (r5b n l (rr q) h hl (rr_rok h2) (em_rr h2) h3).run ok5 (.pure _ (.pure _ (.pure _ (.pure _ (.pure _ .nil))))) rfl
end Go.Proofs.Evd

