/- Layer 1: the law of Read. -/
import Derived.Test.YtbadfaiepgfpdaaWgQ
import Derived.KernelRfl
set_option linter.unusedSimpArgs false
set_option linter.unusedVariables false
set_option linter.unnecessarySimpa false
set_option maxHeartbeats 4000000
namespace Go.Proofs.Weg
open Go Go.VM

theorem tab_eq {t : List Row} (hgr : gr t) (h : tb t) : tab t = t := by
  obtain ⟨_, h2, h3, h4, h5⟩ := h
  simp only [tab]
  rw [List.take_of_length_le (by omega)]
  have : ∀ x ∈ t, cr x = x := by
    intro x hx
    obtain ⟨i, hi, rfl⟩ := List.mem_iff_getElem.1 hx
    have e : List.getD t i row0 = t[i] := by simp [List.getD_eq_getElem?_getD, List.getElem?_eq_getElem hi]
    have hl := (h5 i hi).1
    have hm := (hgr i hi).2
    rw [e] at hl hm
    have hk : (t[i]).2.cl = (t[i]).2 := by
      cases hq : (t[i]).2 with
      | l => rfl
      | n => rfl
      | e =>
        rw [hq] at hm
        have h0 := hm rfl
        have h6 : (t[i]).1.length = 0 := by rw [h0]; rfl
        omega
    simp only [cr, cut, hk]
    rw [List.take_of_length_le (by omega)]
  rw [List.map_congr_left this, List.map_id']
theorem tab_len (t : List Row) : (tab t).length = min 16 t.length := by simp [tab]
theorem tab_at {t : List Row} {i : Nat} (h : i < (tab t).length) : (tab t).getD i row0 = cr (List.getD t i row0) := by
  have hl := tab_len t
  have hi : i < t.length := by omega
  have hi' : i < 16 := by omega
  simp only [List.getD_eq_getElem?_getD, tab, List.getElem?_map, List.getElem?_take, if_pos hi', List.getElem?_eq_getElem hi, Option.map_some, Option.getD_some]
theorem tb_tab {t : List Row} (h : tb (tab t)) : tb t := by
  obtain ⟨h1, h2, h3, h4, h5⟩ := h
  have hl := tab_len t
  have hlt : (tab t).length = t.length := by omega
  have e0 := tab_at (show 0 < (tab t).length by omega)
  rw [e0] at h3 h4
  simp only [cr, cut, List.length_take] at h3 h4
  refine ⟨by omega, by omega, by omega, by omega, fun i hi => ?_⟩
  have := h5 i (by omega)
  rw [tab_at (by omega), e0] at this
  simp only [cr, cut, List.length_take] at this
  have hk : (List.getD t i row0).1.length ≤ 16 := by omega
  rw [List.take_of_length_le hk] at this
  exact ⟨by omega, this.2⟩
theorem gr_tab {t : List Row} (h : gr t) : gr (tab t) := by
  intro i hi
  have hl := tab_len t
  rw [tab_at hi]
  refine ⟨by simp only [cr, cut, List.length_take, lim]; omega, fun hb => ?_⟩
  have hb' : (List.getD t i row0).2.mt = true := by
    cases hq : (List.getD t i row0).2 with
    | l => simp only [cr, hq] at hb; cases hb
    | n => rfl
    | e => rfl
  have := (h i (by omega)).2 hb'
  simp only [cr, cut]
  rw [this]; rfl
theorem gd_tab {t : List Row} {a : List Int} (hgr : gr t) (h : gd2 (tab t) (cut a)) : gd2 t a := by
  obtain ⟨h1, h2, h3⟩ := h
  have hT := tb_tab h1
  rw [tab_eq hgr hT] at h2
  have := hT.2.2.2.1
  simp only [cut, List.length_take] at h2 h3
  have hk : a.length ≤ 16 := by omega
  rw [List.take_of_length_le hk] at h3
  exact ⟨hT, by omega, h3⟩
theorem cut_eq {t : List Row} {a : List Int} (h : gd2 t a) : cut a = a := by
  obtain ⟨h1, h2, _⟩ := h
  have := h1.2.2.2.1
  simp only [cut]; rw [List.take_of_length_le (by omega)]
/-- one row alone: for the bench, that the reader finds its value -/
noncomputable def c33one : PCtr Try.prog where
  f := 33
  X := List Int × RK
  args x := [.sl [ls x.1 (rr x.2)] 1 .full]
  pre x := lim x.1.length ∧ (x.2.mt = true → x.1 = [])
  v x := .bool (decide (tb [(x.1, x.2)]))
  det x y e _ _ := by
    have := rowA_inj (show rowA (x.1, x.2) = rowA (y.1, y.2) from (by simp at e; simp [rowA, e]))
    rw [this]
  ok x hx := c33.ok ([(x.1, x.2)], .full) ⟨by simp [lim], by simp [rok], fun i hi => by
    have : i = 0 := by simp at hi; omega
    subst this; exact hx⟩
theorem one_pre {a : List Int} {b : RK} (q4 : lim a.length) (q5 : b.mt = true → a = []) : lim [(a, b)].length ∧ rok [(a, b)] .full ∧ gr [(a, b)] := ⟨by simp [lim], by simp [rok], fun i hi => by
    have : i = 0 := by simp at hi; omega
    subst this; exact ⟨q4, q5⟩⟩
theorem one_tb {a : List Int} {b : RK} : tb [(a, b)] ↔ 1 ≤ a.length ∧ a.length ≤ 4 ∧ sg a := by
  constructor
  · rintro ⟨_, _, h3, h4, h5⟩
    exact ⟨h3, h4, (h5 0 (by simp)).2⟩
  · rintro ⟨h3, h4, h5⟩
    refine ⟨by simp, by simp, h3, h4, fun i hi => ?_⟩
    have : i = 0 := by simp at hi; omega
    subst this; exact ⟨rfl, h5⟩

theorem r7b (t : List Row) (r : Room) (a : List Int) (b : RK) (q1 : lim t.length) (q2 : rok t r) (q3 : gr t) (q4 : lim a.length) (q5 : b.mt = true → a = []) (hg : ¬ gd2 t a) :
    ebody Try.prog (Pof [c30, c36, c35b, c33, c21]) (Sof [c30.to, c36.to, c35b.to, c33.to, c21.to]) 2000 Try.f7 (bd Try.f7) [rs t r, ls a (rr b)] .nil = some (.bool true, .nil) := by
  have p30 : lim t.length ∧ rok t r ∧ gr t := ⟨q1, q2, q3⟩
  have p36 : lim a.length ∧ (b.mt = true → a = []) := ⟨q4, q5⟩
  have p33 := one_pre q4 q5
  have g1 : lim (tab t).length := by have := tab_len t; simp only [lim]; omega
  have g2 := rn_rok (tab t)
  have g3 := gr_tab q3
  have g4 : lim (cut a).length := by simp only [cut, List.length_take, lim]; omega
  have g5 : rok (cut a) (rr b.cl) := rr_rok (fun h => by have hb : b.mt = true := (by cases b <;> first | rfl | cases h); rw [q5 hb]; rfl)
  have p35 : (lim (tab t).length ∧ rok (tab t) (rn (tab t)) ∧ gr (tab t) ∧ lim (cut a).length ∧ rok (cut a) (rr b.cl)) ∧ ¬ gd2 (tab t) (cut a) := ⟨⟨g1, g2, g3, g4, g5⟩, fun h => hg (gd_tab q3 h)⟩
  cases hT' : decide (tb t)
  · refine body_wV ([Ans.o (Orc.val (13 : Nat) (AV.sl (rowsA (tab t)) (tab t).length (rn (tab t))) (H.mk [] [] [])), Ans.o (Orc.val (15 : Nat) (AV.sl (ints (cut a)) (cut a).length (rr b.cl)) (H.mk [] [] [])), Ans.o (Orc.val (16 : Nat) (AV.tup [AV.int IntKind.i64 (0 : Int), AV.int IntKind.i64 (0 : Int), AV.int IntKind.i64 (2 : Int)]) (H.mk [] [] [])), Ans.o (Orc.val (21 : Nat) (AV.bool false) (H.mk [] [] [])), Ans.o Orc.dflt, Ans.o Orc.dflt, Ans.o Orc.dflt, Ans.o (Orc.val (49 : Nat) (AV.bool true) (H.mk [] [] []))]) (aCall (Sof [c30.to, c36.to, c35b.to, c33.to, c21.to]) (AV.fn (Fn.func (30 : Nat)) [] []) [AV.sl (rowsA t) t.length r] (H.mk [] [] []) = some (AV.sl (rowsA (tab t)) (tab t).length (rn (tab t)), H.mk [] [] []) ∧ aCall (Sof [c30.to, c36.to, c35b.to, c33.to, c21.to]) (AV.fn (Fn.func (36 : Nat)) [] []) [AV.sl (ints a) a.length (rr b)] (H.mk [] [] []) = some (AV.sl (ints (cut a)) (cut a).length (rr b.cl), H.mk [] [] []) ∧ aCall (Sof [c30.to, c36.to, c35b.to, c33.to, c21.to]) (AV.fn (Fn.func (35 : Nat)) [] []) [AV.sl (rowsA (tab t)) (tab t).length (rn (tab t)), AV.sl (ints (cut a)) (cut a).length (rr b.cl)] (H.mk [] [] []) = some (AV.tup [AV.int IntKind.i64 (0 : Int), AV.int IntKind.i64 (0 : Int), AV.int IntKind.i64 (2 : Int)], H.mk [] [] []) ∧ aCall (Sof [c30.to, c36.to, c35b.to, c33.to, c21.to]) (AV.fn (Fn.func (33 : Nat)) [] []) [AV.sl (rowsA t) t.length r] (H.mk [] [] []) = some (AV.bool false, H.mk [] [] []) ∧ aCall (Sof [c30.to, c36.to, c35b.to, c33.to, c21.to]) (AV.fn (Fn.func (21 : Nat)) [] []) [] (H.mk [] [] []) = some (AV.bool true, H.mk [] [] []) ∧ (AV.bool true, H.mk [] [] []) = (AV.bool true, H.mk [] [] [])) (by kernel_rfl) ?_
    refine And.intro (by exact acall_hit (c := c30.to) (t, r) _ rfl p30) ?_
    refine And.intro (by exact acall_hit (c := c36.to) (a, b) _ rfl p36) ?_
    refine And.intro (by exact acall_hit (c := c35b.to) (tab t, rn (tab t), cut a, rr b.cl) _ rfl p35) ?_
    refine And.intro (by first | exact acall_b (acall_hit (c := c33.to) (t, r) _ rfl p30) hT' | exact acall_b (acall_hit (c := c33.to) ([(a, b)], .full) _ rfl p33) hO') ?_
    refine And.intro (by first | exact acall_hit (c := c21.to) () _ rfl True.intro | exact pcall_hit (c := c21) () _ rfl True.intro) ?_
    first | with_reducible rfl | (refine bleaf_t ?_; first | omega | (simp only [small, tiny, rng, decide_eq_true_eq, decide_eq_false_iff_not, true_or, or_true, true_and, and_true, Int.reduceEq, Int.reduceNeg, eq_self, reduceIte, if_true, if_false] at *; omega)) | (refine bleaf_f ?_; first | omega | (simp only [small, tiny, rng, decide_eq_true_eq, decide_eq_false_iff_not, true_or, or_true, true_and, and_true, Int.reduceEq, Int.reduceNeg, eq_self, reduceIte, if_true, if_false] at *; omega)) | (refine ileaf ?_; first | omega | (simp only [small, tiny, rng, decide_eq_true_eq, decide_eq_false_iff_not, true_or, or_true, true_and, and_true, Int.reduceEq, Int.reduceNeg, eq_self, reduceIte, if_true, if_false] at *; omega)) | (exfalso; omega) | (simp only [Prod.mk.injEq, AV.agg.injEq, AV.tup.injEq, List.cons.injEq, AV.int.injEq, AV.bool.injEq, and_true, true_and]; (repeat' apply And.intro) <;> first | with_reducible rfl | (simp []; done) | (simp []; omega) | omega | (simp only [small, tiny, rng, decide_eq_true_eq, decide_eq_false_iff_not, true_or, or_true, true_and, and_true, Int.reduceEq, Int.reduceNeg, eq_self, reduceIte, if_true, if_false] at *; omega) | (simp [small, tiny, rng, decide_eq_true_eq, decide_eq_false_iff_not, true_or, or_true, true_and, and_true, Int.reduceEq, Int.reduceNeg, eq_self, reduceIte, if_true, if_false, *]; done) | (simp [small, tiny, rng, decide_eq_true_eq, decide_eq_false_iff_not, true_or, or_true, true_and, and_true, Int.reduceEq, Int.reduceNeg, eq_self, reduceIte, if_true, if_false, *]; omega)) | (exfalso; simp only [small, tiny, rng, decide_eq_true_eq, decide_eq_false_iff_not, true_or, or_true, true_and, and_true, Int.reduceEq, Int.reduceNeg, eq_self, reduceIte, if_true, if_false] at *; omega) | (simp [small, tiny, rng, decide_eq_true_eq, decide_eq_false_iff_not, true_or, or_true, true_and, and_true, Int.reduceEq, Int.reduceNeg, eq_self, reduceIte, if_true, if_false] at *; done) | (simp [small, tiny, rng, decide_eq_true_eq, decide_eq_false_iff_not, true_or, or_true, true_and, and_true, Int.reduceEq, Int.reduceNeg, eq_self, reduceIte, if_true, if_false] at *; omega)
  have hT : tb t := by rw [decide_eq_true_eq] at hT'; exact hT'
  have hz' : 0 < t.length := by have := hT.1; omega
  have hr := rok_idx q2 hz'
  cases hO' : decide (tb [(a, b)])
  · refine body_wV ([Ans.o (Orc.val (13 : Nat) (AV.sl (rowsA (tab t)) (tab t).length (rn (tab t))) (H.mk [] [] [])), Ans.o (Orc.val (15 : Nat) (AV.sl (ints (cut a)) (cut a).length (rr b.cl)) (H.mk [] [] [])), Ans.o (Orc.val (16 : Nat) (AV.tup [AV.int IntKind.i64 (0 : Int), AV.int IntKind.i64 (0 : Int), AV.int IntKind.i64 (2 : Int)]) (H.mk [] [] [])), Ans.o (Orc.val (21 : Nat) (AV.bool true) (H.mk [] [] [])), Ans.o (Orc.val (26 : Nat) (AV.bool false) (H.mk [] [] [])), Ans.o Orc.dflt, Ans.o Orc.dflt, Ans.o Orc.dflt, Ans.o (Orc.val (49 : Nat) (AV.bool true) (H.mk [] [] []))]) (aCall (Sof [c30.to, c36.to, c35b.to, c33.to, c21.to]) (AV.fn (Fn.func (30 : Nat)) [] []) [AV.sl (rowsA t) t.length r] (H.mk [] [] []) = some (AV.sl (rowsA (tab t)) (tab t).length (rn (tab t)), H.mk [] [] []) ∧ aCall (Sof [c30.to, c36.to, c35b.to, c33.to, c21.to]) (AV.fn (Fn.func (36 : Nat)) [] []) [AV.sl (ints a) a.length (rr b)] (H.mk [] [] []) = some (AV.sl (ints (cut a)) (cut a).length (rr b.cl), H.mk [] [] []) ∧ aCall (Sof [c30.to, c36.to, c35b.to, c33.to, c21.to]) (AV.fn (Fn.func (35 : Nat)) [] []) [AV.sl (rowsA (tab t)) (tab t).length (rn (tab t)), AV.sl (ints (cut a)) (cut a).length (rr b.cl)] (H.mk [] [] []) = some (AV.tup [AV.int IntKind.i64 (0 : Int), AV.int IntKind.i64 (0 : Int), AV.int IntKind.i64 (2 : Int)], H.mk [] [] []) ∧ aCall (Sof [c30.to, c36.to, c35b.to, c33.to, c21.to]) (AV.fn (Fn.func (33 : Nat)) [] []) [AV.sl (rowsA t) t.length r] (H.mk [] [] []) = some (AV.bool true, H.mk [] [] []) ∧ aCall (Sof [c30.to, c36.to, c35b.to, c33.to, c21.to]) (AV.fn (Fn.func (33 : Nat)) [] []) [AV.sl [AV.sl (ints a) a.length (rr b)] (1 : Nat) Room.full] (H.mk [] [] []) = some (AV.bool false, H.mk [] [] []) ∧ aCall (Sof [c30.to, c36.to, c35b.to, c33.to, c21.to]) (AV.fn (Fn.func (21 : Nat)) [] []) [] (H.mk [] [] []) = some (AV.bool true, H.mk [] [] []) ∧ (AV.bool true, H.mk [] [] []) = (AV.bool true, H.mk [] [] [])) (by kernel_rfl) ?_
    refine And.intro (by exact acall_hit (c := c30.to) (t, r) _ rfl p30) ?_
    refine And.intro (by exact acall_hit (c := c36.to) (a, b) _ rfl p36) ?_
    refine And.intro (by exact acall_hit (c := c35b.to) (tab t, rn (tab t), cut a, rr b.cl) _ rfl p35) ?_
    refine And.intro (by first | exact acall_b (acall_hit (c := c33.to) (t, r) _ rfl p30) hT' | exact acall_b (acall_hit (c := c33.to) ([(a, b)], .full) _ rfl p33) hO') ?_
    refine And.intro (by first | exact acall_b (acall_hit (c := c33.to) (t, r) _ rfl p30) hT' | exact acall_b (acall_hit (c := c33.to) ([(a, b)], .full) _ rfl p33) hO') ?_
    refine And.intro (by first | exact acall_hit (c := c21.to) () _ rfl True.intro | exact pcall_hit (c := c21) () _ rfl True.intro) ?_
    first | with_reducible rfl | (refine bleaf_t ?_; first | omega | (simp only [small, tiny, rng, decide_eq_true_eq, decide_eq_false_iff_not, true_or, or_true, true_and, and_true, Int.reduceEq, Int.reduceNeg, eq_self, reduceIte, if_true, if_false] at *; omega)) | (refine bleaf_f ?_; first | omega | (simp only [small, tiny, rng, decide_eq_true_eq, decide_eq_false_iff_not, true_or, or_true, true_and, and_true, Int.reduceEq, Int.reduceNeg, eq_self, reduceIte, if_true, if_false] at *; omega)) | (refine ileaf ?_; first | omega | (simp only [small, tiny, rng, decide_eq_true_eq, decide_eq_false_iff_not, true_or, or_true, true_and, and_true, Int.reduceEq, Int.reduceNeg, eq_self, reduceIte, if_true, if_false] at *; omega)) | (exfalso; omega) | (simp only [Prod.mk.injEq, AV.agg.injEq, AV.tup.injEq, List.cons.injEq, AV.int.injEq, AV.bool.injEq, and_true, true_and]; (repeat' apply And.intro) <;> first | with_reducible rfl | (simp []; done) | (simp []; omega) | omega | (simp only [small, tiny, rng, decide_eq_true_eq, decide_eq_false_iff_not, true_or, or_true, true_and, and_true, Int.reduceEq, Int.reduceNeg, eq_self, reduceIte, if_true, if_false] at *; omega) | (simp [small, tiny, rng, decide_eq_true_eq, decide_eq_false_iff_not, true_or, or_true, true_and, and_true, Int.reduceEq, Int.reduceNeg, eq_self, reduceIte, if_true, if_false, *]; done) | (simp [small, tiny, rng, decide_eq_true_eq, decide_eq_false_iff_not, true_or, or_true, true_and, and_true, Int.reduceEq, Int.reduceNeg, eq_self, reduceIte, if_true, if_false, *]; omega)) | (exfalso; simp only [small, tiny, rng, decide_eq_true_eq, decide_eq_false_iff_not, true_or, or_true, true_and, and_true, Int.reduceEq, Int.reduceNeg, eq_self, reduceIte, if_true, if_false] at *; omega) | (simp [small, tiny, rng, decide_eq_true_eq, decide_eq_false_iff_not, true_or, or_true, true_and, and_true, Int.reduceEq, Int.reduceNeg, eq_self, reduceIte, if_true, if_false] at *; done) | (simp [small, tiny, rng, decide_eq_true_eq, decide_eq_false_iff_not, true_or, or_true, true_and, and_true, Int.reduceEq, Int.reduceNeg, eq_self, reduceIte, if_true, if_false] at *; omega)
  have hO : tb [(a, b)] := by rw [decide_eq_true_eq] at hO'; exact hO'
  have hL : (a.length : Int) ≠ (List.getD t 0 row0).1.length := fun h => hg ⟨hT, by omega, (one_tb.1 hO).2.2⟩
  refine body_wV ([Ans.o (Orc.val (13 : Nat) (AV.sl (rowsA (tab t)) (tab t).length (rn (tab t))) (H.mk [] [] [])), Ans.o (Orc.val (15 : Nat) (AV.sl (ints (cut a)) (cut a).length (rr b.cl)) (H.mk [] [] [])), Ans.o (Orc.val (16 : Nat) (AV.tup [AV.int IntKind.i64 (0 : Int), AV.int IntKind.i64 (0 : Int), AV.int IntKind.i64 (2 : Int)]) (H.mk [] [] [])), Ans.o (Orc.val (21 : Nat) (AV.bool true) (H.mk [] [] [])), Ans.o (Orc.val (26 : Nat) (AV.bool true) (H.mk [] [] [])), Ans.o (Orc.val (33 : Nat) (AV.cptr (rowsA (List.drop (0 : Nat) t))) (H.mk [] [] [])), Ans.o (Orc.val (34 : Nat) (AV.sl (ints (t.getD (0 : Nat) row0).fst) (t.getD (0 : Nat) row0).fst.length (rr (t.getD (0 : Nat) row0).snd)) (H.mk [] [] [])), Ans.o (Orc.b true), Ans.o Orc.dflt, Ans.o Orc.dflt, Ans.o Orc.dflt, Ans.o (Orc.val (49 : Nat) (AV.bool true) (H.mk [] [] []))]) (aCall (Sof [c30.to, c36.to, c35b.to, c33.to, c21.to]) (AV.fn (Fn.func (30 : Nat)) [] []) [AV.sl (rowsA t) t.length r] (H.mk [] [] []) = some (AV.sl (rowsA (tab t)) (tab t).length (rn (tab t)), H.mk [] [] []) ∧ aCall (Sof [c30.to, c36.to, c35b.to, c33.to, c21.to]) (AV.fn (Fn.func (36 : Nat)) [] []) [AV.sl (ints a) a.length (rr b)] (H.mk [] [] []) = some (AV.sl (ints (cut a)) (cut a).length (rr b.cl), H.mk [] [] []) ∧ aCall (Sof [c30.to, c36.to, c35b.to, c33.to, c21.to]) (AV.fn (Fn.func (35 : Nat)) [] []) [AV.sl (rowsA (tab t)) (tab t).length (rn (tab t)), AV.sl (ints (cut a)) (cut a).length (rr b.cl)] (H.mk [] [] []) = some (AV.tup [AV.int IntKind.i64 (0 : Int), AV.int IntKind.i64 (0 : Int), AV.int IntKind.i64 (2 : Int)], H.mk [] [] []) ∧ aCall (Sof [c30.to, c36.to, c35b.to, c33.to, c21.to]) (AV.fn (Fn.func (33 : Nat)) [] []) [AV.sl (rowsA t) t.length r] (H.mk [] [] []) = some (AV.bool true, H.mk [] [] []) ∧ aCall (Sof [c30.to, c36.to, c35b.to, c33.to, c21.to]) (AV.fn (Fn.func (33 : Nat)) [] []) [AV.sl [AV.sl (ints a) a.length (rr b)] (1 : Nat) Room.full] (H.mk [] [] []) = some (AV.bool true, H.mk [] [] []) ∧ aIndexAddr Try.prog (48 : Nat) (AV.sl (rowsA t) t.length r) (AV.int IntKind.i64 (0 : Int)) = some (AV.cptr (rowsA (List.drop (0 : Nat) t))) ∧ aLoad Try.prog (56 : Nat) (rowsA (List.drop (0 : Nat) t)) = some (AV.sl (ints (t.getD (0 : Nat) row0).fst) (t.getD (0 : Nat) row0).fst.length (rr (t.getD (0 : Nat) row0).snd)) ∧ (↑a.length : Int) ≠ (↑(t.getD (0 : Nat) row0).fst.length : Int) ∧ aCall (Sof [c30.to, c36.to, c35b.to, c33.to, c21.to]) (AV.fn (Fn.func (21 : Nat)) [] []) [] (H.mk [] [] []) = some (AV.bool true, H.mk [] [] []) ∧ (AV.bool true, H.mk [] [] []) = (AV.bool true, H.mk [] [] [])) (by kernel_rfl) ?_
  refine And.intro (by exact acall_hit (c := c30.to) (t, r) _ rfl p30) ?_
  refine And.intro (by exact acall_hit (c := c36.to) (a, b) _ rfl p36) ?_
  refine And.intro (by exact acall_hit (c := c35b.to) (tab t, rn (tab t), cut a, rr b.cl) _ rfl p35) ?_
  refine And.intro (by first | exact acall_b (acall_hit (c := c33.to) (t, r) _ rfl p30) hT' | exact acall_b (acall_hit (c := c33.to) ([(a, b)], .full) _ rfl p33) hO') ?_
  refine And.intro (by first | exact acall_b (acall_hit (c := c33.to) (t, r) _ rfl p30) hT' | exact acall_b (acall_hit (c := c33.to) ([(a, b)], .full) _ rfl p33) hO') ?_
  refine And.intro (by first | exact ix_rows (by kernel_rfl) (by omega) (by assumption) | exact ix_rows (by kernel_rfl) (by omega) (rok_idx (by assumption) (by omega))) ?_
  refine And.intro (by exact ld_rows (by kernel_rfl) (by kernel_rfl) (by omega)) ?_
  refine And.intro (by first | assumption | omega | (simp only [small, tiny, rng, decide_eq_true_eq, decide_eq_false_iff_not, true_or, or_true, true_and, and_true, Int.reduceEq, Int.reduceNeg, eq_self, reduceIte, if_true, if_false] at *; omega) | (simp [small, tiny, rng, decide_eq_true_eq, decide_eq_false_iff_not, true_or, or_true, true_and, and_true, Int.reduceEq, Int.reduceNeg, eq_self, reduceIte, if_true, if_false] at *; done)) ?_
  refine And.intro (by first | exact acall_hit (c := c21.to) () _ rfl True.intro | exact pcall_hit (c := c21) () _ rfl True.intro) ?_
  first | with_reducible rfl | (refine bleaf_t ?_; first | omega | (simp only [small, tiny, rng, decide_eq_true_eq, decide_eq_false_iff_not, true_or, or_true, true_and, and_true, Int.reduceEq, Int.reduceNeg, eq_self, reduceIte, if_true, if_false] at *; omega)) | (refine bleaf_f ?_; first | omega | (simp only [small, tiny, rng, decide_eq_true_eq, decide_eq_false_iff_not, true_or, or_true, true_and, and_true, Int.reduceEq, Int.reduceNeg, eq_self, reduceIte, if_true, if_false] at *; omega)) | (refine ileaf ?_; first | omega | (simp only [small, tiny, rng, decide_eq_true_eq, decide_eq_false_iff_not, true_or, or_true, true_and, and_true, Int.reduceEq, Int.reduceNeg, eq_self, reduceIte, if_true, if_false] at *; omega)) | (exfalso; omega) | (simp only [Prod.mk.injEq, AV.agg.injEq, AV.tup.injEq, List.cons.injEq, AV.int.injEq, AV.bool.injEq, and_true, true_and]; (repeat' apply And.intro) <;> first | with_reducible rfl | (simp []; done) | (simp []; omega) | omega | (simp only [small, tiny, rng, decide_eq_true_eq, decide_eq_false_iff_not, true_or, or_true, true_and, and_true, Int.reduceEq, Int.reduceNeg, eq_self, reduceIte, if_true, if_false] at *; omega) | (simp [small, tiny, rng, decide_eq_true_eq, decide_eq_false_iff_not, true_or, or_true, true_and, and_true, Int.reduceEq, Int.reduceNeg, eq_self, reduceIte, if_true, if_false, *]; done) | (simp [small, tiny, rng, decide_eq_true_eq, decide_eq_false_iff_not, true_or, or_true, true_and, and_true, Int.reduceEq, Int.reduceNeg, eq_self, reduceIte, if_true, if_false, *]; omega)) | (exfalso; simp only [small, tiny, rng, decide_eq_true_eq, decide_eq_false_iff_not, true_or, or_true, true_and, and_true, Int.reduceEq, Int.reduceNeg, eq_self, reduceIte, if_true, if_false] at *; omega) | (simp [small, tiny, rng, decide_eq_true_eq, decide_eq_false_iff_not, true_or, or_true, true_and, and_true, Int.reduceEq, Int.reduceNeg, eq_self, reduceIte, if_true, if_false] at *; done) | (simp [small, tiny, rng, decide_eq_true_eq, decide_eq_false_iff_not, true_or, or_true, true_and, and_true, Int.reduceEq, Int.reduceNeg, eq_self, reduceIte, if_true, if_false] at *; omega)
theorem r7n (t : List Row) (r : Room) (a : List Int) (b : RK) (q1 : lim t.length) (q2 : rok t r) (q3 : gr t) (q4 : lim a.length) (q5 : b.mt = true → a = []) (hg : gd2 t a) (hn : ¬ (lv t ∧ ap t)) :
    ebody Try.prog (Pof [c30, c36, c35n, c33, c21, c37n]) (Sof [c30.to, c36.to, c35n.to, c33.to, c21.to, c37n.to]) 2000 Try.f7 (bd Try.f7) [rs t r, ls a (rr b)] .nil = some (.bool true, .nil) := by
  have p30 : lim t.length ∧ rok t r ∧ gr t := ⟨q1, q2, q3⟩
  have p36 : lim a.length ∧ (b.mt = true → a = []) := ⟨q4, q5⟩
  have p33 := one_pre q4 q5
  have g1 : lim (tab t).length := by have := tab_len t; simp only [lim]; omega
  have g2 := rn_rok (tab t)
  have g3 := gr_tab q3
  have g4 : lim (cut a).length := by simp only [cut, List.length_take, lim]; omega
  have g5 : rok (cut a) (rr b.cl) := rr_rok (fun h => by have hb : b.mt = true := (by cases b <;> first | rfl | cases h); rw [q5 hb]; rfl)
  have eT := tab_eq q3 hg.1
  have eA := cut_eq hg
  have hT := hg.1
  have hT' : decide (tb t) = true := by rw [decide_eq_true_eq]; exact hT
  have hz' : 0 < t.length := by have := hT.1; omega
  have hr := rok_idx q2 hz'
  have hO : tb [(a, b)] := one_tb.2 ⟨by have := hT.2.2.1; have := hg.2.1; omega, by have := hT.2.2.2.1; have := hg.2.1; omega, hg.2.2⟩
  have hO' : decide (tb [(a, b)]) = true := by rw [decide_eq_true_eq]; exact hO
  have hL : (a.length : Int) = (List.getD t 0 row0).1.length := by have := hg.2.1; omega
  have g6 : rok a (rr b) := rr_rok q5
  have p35 : (lim (tab t).length ∧ rok (tab t) (rn (tab t)) ∧ gr (tab t) ∧ lim (cut a).length ∧ rok (cut a) (rr b.cl)) ∧ gd2 (tab t) (cut a) ∧ ¬ (lv (tab t) ∧ ap (tab t)) := ⟨⟨g1, g2, g3, g4, g5⟩, by rw [eT, eA]; exact ⟨hg, hn⟩⟩
  have p37 : (lim t.length ∧ rok t r ∧ gr t ∧ lim a.length ∧ rok a (rr b)) ∧ gd2 t a ∧ ¬ (lv t ∧ ap t) := ⟨⟨q1, q2, q3, q4, g6⟩, ⟨hg, hn⟩⟩
  refine body_wV ([Ans.o (Orc.val (13 : Nat) (AV.sl (rowsA (tab t)) (tab t).length (rn (tab t))) (H.mk [] [] [])), Ans.o (Orc.val (15 : Nat) (AV.sl (ints (cut a)) (cut a).length (rr b.cl)) (H.mk [] [] [])), Ans.o (Orc.val (16 : Nat) (AV.tup [AV.int IntKind.i64 (0 : Int), AV.int IntKind.i64 (0 : Int), AV.int IntKind.i64 (4 : Int)]) (H.mk [] [] [])), Ans.o (Orc.val (21 : Nat) (AV.bool true) (H.mk [] [] [])), Ans.o (Orc.val (26 : Nat) (AV.bool true) (H.mk [] [] [])), Ans.o (Orc.val (33 : Nat) (AV.cptr (rowsA (List.drop (0 : Nat) t))) (H.mk [] [] [])), Ans.o (Orc.val (34 : Nat) (AV.sl (ints (t.getD (0 : Nat) row0).fst) (t.getD (0 : Nat) row0).fst.length (rr (t.getD (0 : Nat) row0).snd)) (H.mk [] [] [])), Ans.o (Orc.b false), Ans.o (Orc.val (54 : Nat) (AV.tup [AV.int IntKind.i64 (0 : Int), AV.int IntKind.i64 (0 : Int), AV.int IntKind.i64 (4 : Int)]) (H.mk [] [] [])), Ans.o Orc.dflt, Ans.o Orc.dflt, Ans.o Orc.dflt, Ans.o (Orc.val (72 : Nat) (AV.bool true) (H.mk [] [] []))]) (aCall (Sof [c30.to, c36.to, c35n.to, c33.to, c21.to, c37n.to]) (AV.fn (Fn.func (30 : Nat)) [] []) [AV.sl (rowsA t) t.length r] (H.mk [] [] []) = some (AV.sl (rowsA (tab t)) (tab t).length (rn (tab t)), H.mk [] [] []) ∧ aCall (Sof [c30.to, c36.to, c35n.to, c33.to, c21.to, c37n.to]) (AV.fn (Fn.func (36 : Nat)) [] []) [AV.sl (ints a) a.length (rr b)] (H.mk [] [] []) = some (AV.sl (ints (cut a)) (cut a).length (rr b.cl), H.mk [] [] []) ∧ aCall (Sof [c30.to, c36.to, c35n.to, c33.to, c21.to, c37n.to]) (AV.fn (Fn.func (35 : Nat)) [] []) [AV.sl (rowsA (tab t)) (tab t).length (rn (tab t)), AV.sl (ints (cut a)) (cut a).length (rr b.cl)] (H.mk [] [] []) = some (AV.tup [AV.int IntKind.i64 (0 : Int), AV.int IntKind.i64 (0 : Int), AV.int IntKind.i64 (4 : Int)], H.mk [] [] []) ∧ aCall (Sof [c30.to, c36.to, c35n.to, c33.to, c21.to, c37n.to]) (AV.fn (Fn.func (33 : Nat)) [] []) [AV.sl (rowsA t) t.length r] (H.mk [] [] []) = some (AV.bool true, H.mk [] [] []) ∧ aCall (Sof [c30.to, c36.to, c35n.to, c33.to, c21.to, c37n.to]) (AV.fn (Fn.func (33 : Nat)) [] []) [AV.sl [AV.sl (ints a) a.length (rr b)] (1 : Nat) Room.full] (H.mk [] [] []) = some (AV.bool true, H.mk [] [] []) ∧ aIndexAddr Try.prog (48 : Nat) (AV.sl (rowsA t) t.length r) (AV.int IntKind.i64 (0 : Int)) = some (AV.cptr (rowsA (List.drop (0 : Nat) t))) ∧ aLoad Try.prog (56 : Nat) (rowsA (List.drop (0 : Nat) t)) = some (AV.sl (ints (t.getD (0 : Nat) row0).fst) (t.getD (0 : Nat) row0).fst.length (rr (t.getD (0 : Nat) row0).snd)) ∧ (↑a.length : Int) = (↑(t.getD (0 : Nat) row0).fst.length : Int) ∧ aCall (Sof [c30.to, c36.to, c35n.to, c33.to, c21.to, c37n.to]) (AV.fn (Fn.func (37 : Nat)) [] []) [AV.sl (rowsA t) t.length r, AV.sl (ints a) a.length (rr b)] (H.mk [] [] []) = some (AV.tup [AV.int IntKind.i64 (0 : Int), AV.int IntKind.i64 (0 : Int), AV.int IntKind.i64 (4 : Int)], H.mk [] [] []) ∧ aCall (Sof [c30.to, c36.to, c35n.to, c33.to, c21.to, c37n.to]) (AV.fn (Fn.func (21 : Nat)) [] []) [] (H.mk [] [] []) = some (AV.bool true, H.mk [] [] []) ∧ (AV.bool true, H.mk [] [] []) = (AV.bool true, H.mk [] [] [])) (by kernel_rfl) ?_
  refine And.intro (by exact acall_hit (c := c30.to) (t, r) _ rfl p30) ?_
  refine And.intro (by exact acall_hit (c := c36.to) (a, b) _ rfl p36) ?_
  refine And.intro (by exact acall_hit (c := c35n.to) (tab t, rn (tab t), cut a, rr b.cl) _ rfl p35) ?_
  refine And.intro (by first | exact acall_b (acall_hit (c := c33.to) (t, r) _ rfl p30) hT' | exact acall_b (acall_hit (c := c33.to) ([(a, b)], .full) _ rfl p33) hO') ?_
  refine And.intro (by first | exact acall_b (acall_hit (c := c33.to) (t, r) _ rfl p30) hT' | exact acall_b (acall_hit (c := c33.to) ([(a, b)], .full) _ rfl p33) hO') ?_
  refine And.intro (by first | exact ix_rows (by kernel_rfl) (by omega) (by assumption) | exact ix_rows (by kernel_rfl) (by omega) (rok_idx (by assumption) (by omega))) ?_
  refine And.intro (by exact ld_rows (by kernel_rfl) (by kernel_rfl) (by omega)) ?_
  refine And.intro (by first | assumption | omega | (simp only [small, tiny, rng, decide_eq_true_eq, decide_eq_false_iff_not, true_or, or_true, true_and, and_true, Int.reduceEq, Int.reduceNeg, eq_self, reduceIte, if_true, if_false] at *; omega) | (simp [small, tiny, rng, decide_eq_true_eq, decide_eq_false_iff_not, true_or, or_true, true_and, and_true, Int.reduceEq, Int.reduceNeg, eq_self, reduceIte, if_true, if_false] at *; done)) ?_
  refine And.intro (by exact acall_hit (c := c37n.to) (t, r, a, rr b) _ rfl p37) ?_
  refine And.intro (by first | exact acall_hit (c := c21.to) () _ rfl True.intro | exact pcall_hit (c := c21) () _ rfl True.intro) ?_
  first | with_reducible rfl | (refine bleaf_t ?_; first | omega | (simp only [small, tiny, rng, decide_eq_true_eq, decide_eq_false_iff_not, true_or, or_true, true_and, and_true, Int.reduceEq, Int.reduceNeg, eq_self, reduceIte, if_true, if_false] at *; omega)) | (refine bleaf_f ?_; first | omega | (simp only [small, tiny, rng, decide_eq_true_eq, decide_eq_false_iff_not, true_or, or_true, true_and, and_true, Int.reduceEq, Int.reduceNeg, eq_self, reduceIte, if_true, if_false] at *; omega)) | (refine ileaf ?_; first | omega | (simp only [small, tiny, rng, decide_eq_true_eq, decide_eq_false_iff_not, true_or, or_true, true_and, and_true, Int.reduceEq, Int.reduceNeg, eq_self, reduceIte, if_true, if_false] at *; omega)) | (exfalso; omega) | (simp only [Prod.mk.injEq, AV.agg.injEq, AV.tup.injEq, List.cons.injEq, AV.int.injEq, AV.bool.injEq, and_true, true_and]; (repeat' apply And.intro) <;> first | with_reducible rfl | (simp []; done) | (simp []; omega) | omega | (simp only [small, tiny, rng, decide_eq_true_eq, decide_eq_false_iff_not, true_or, or_true, true_and, and_true, Int.reduceEq, Int.reduceNeg, eq_self, reduceIte, if_true, if_false] at *; omega) | (simp [small, tiny, rng, decide_eq_true_eq, decide_eq_false_iff_not, true_or, or_true, true_and, and_true, Int.reduceEq, Int.reduceNeg, eq_self, reduceIte, if_true, if_false, *]; done) | (simp [small, tiny, rng, decide_eq_true_eq, decide_eq_false_iff_not, true_or, or_true, true_and, and_true, Int.reduceEq, Int.reduceNeg, eq_self, reduceIte, if_true, if_false, *]; omega)) | (exfalso; simp only [small, tiny, rng, decide_eq_true_eq, decide_eq_false_iff_not, true_or, or_true, true_and, and_true, Int.reduceEq, Int.reduceNeg, eq_self, reduceIte, if_true, if_false] at *; omega) | (simp [small, tiny, rng, decide_eq_true_eq, decide_eq_false_iff_not, true_or, or_true, true_and, and_true, Int.reduceEq, Int.reduceNeg, eq_self, reduceIte, if_true, if_false] at *; done) | (simp [small, tiny, rng, decide_eq_true_eq, decide_eq_false_iff_not, true_or, or_true, true_and, and_true, Int.reduceEq, Int.reduceNeg, eq_self, reduceIte, if_true, if_false] at *; omega)
theorem r7z (t : List Row) (r : Room) (a : List Int) (b : RK) (q1 : lim t.length) (q2 : rok t r) (q3 : gr t) (q4 : lim a.length) (q5 : b.mt = true → a = []) (hg : gd2 t a) (hv : lv t) (ha : ap t) (hz : sm a a (-1)) :
    ebody Try.prog (Pof [c30, c36, c35z, c33, c21, c37z]) (Sof [c30.to, c36.to, c35z.to, c33.to, c21.to, c37z.to]) 2000 Try.f7 (bd Try.f7) [rs t r, ls a (rr b)] .nil = some (.bool true, .nil) := by
  have p30 : lim t.length ∧ rok t r ∧ gr t := ⟨q1, q2, q3⟩
  have p36 : lim a.length ∧ (b.mt = true → a = []) := ⟨q4, q5⟩
  have p33 := one_pre q4 q5
  have g1 : lim (tab t).length := by have := tab_len t; simp only [lim]; omega
  have g2 := rn_rok (tab t)
  have g3 := gr_tab q3
  have g4 : lim (cut a).length := by simp only [cut, List.length_take, lim]; omega
  have g5 : rok (cut a) (rr b.cl) := rr_rok (fun h => by have hb : b.mt = true := (by cases b <;> first | rfl | cases h); rw [q5 hb]; rfl)
  have eT := tab_eq q3 hg.1
  have eA := cut_eq hg
  have hT := hg.1
  have hT' : decide (tb t) = true := by rw [decide_eq_true_eq]; exact hT
  have hz' : 0 < t.length := by have := hT.1; omega
  have hr := rok_idx q2 hz'
  have hO : tb [(a, b)] := one_tb.2 ⟨by have := hT.2.2.1; have := hg.2.1; omega, by have := hT.2.2.2.1; have := hg.2.1; omega, hg.2.2⟩
  have hO' : decide (tb [(a, b)]) = true := by rw [decide_eq_true_eq]; exact hO
  have hL : (a.length : Int) = (List.getD t 0 row0).1.length := by have := hg.2.1; omega
  have g6 : rok a (rr b) := rr_rok q5
  have p35 : (lim (tab t).length ∧ rok (tab t) (rn (tab t)) ∧ gr (tab t) ∧ lim (cut a).length ∧ rok (cut a) (rr b.cl)) ∧ gd2 (tab t) (cut a) ∧ lv (tab t) ∧ ap (tab t) ∧ sm (cut a) (cut a) (-1) := ⟨⟨g1, g2, g3, g4, g5⟩, by rw [eT, eA]; exact ⟨hg, hv, ha, hz⟩⟩
  have p37 : (lim t.length ∧ rok t r ∧ gr t ∧ lim a.length ∧ rok a (rr b)) ∧ gd2 t a ∧ lv t ∧ ap t ∧ sm a a (-1) := ⟨⟨q1, q2, q3, q4, g6⟩, ⟨hg, hv, ha, hz⟩⟩
  refine body_wV ([Ans.o (Orc.val (13 : Nat) (AV.sl (rowsA (tab t)) (tab t).length (rn (tab t))) (H.mk [] [] [])), Ans.o (Orc.val (15 : Nat) (AV.sl (ints (cut a)) (cut a).length (rr b.cl)) (H.mk [] [] [])), Ans.o (Orc.val (16 : Nat) (AV.tup [AV.int IntKind.i64 (-1 : Int), AV.int IntKind.i64 (0 : Int), AV.int IntKind.i64 (0 : Int)]) (H.mk [] [] [])), Ans.o (Orc.val (21 : Nat) (AV.bool true) (H.mk [] [] [])), Ans.o (Orc.val (26 : Nat) (AV.bool true) (H.mk [] [] [])), Ans.o (Orc.val (33 : Nat) (AV.cptr (rowsA (List.drop (0 : Nat) t))) (H.mk [] [] [])), Ans.o (Orc.val (34 : Nat) (AV.sl (ints (t.getD (0 : Nat) row0).fst) (t.getD (0 : Nat) row0).fst.length (rr (t.getD (0 : Nat) row0).snd)) (H.mk [] [] [])), Ans.o (Orc.b false), Ans.o (Orc.val (54 : Nat) (AV.tup [AV.int IntKind.i64 (-1 : Int), AV.int IntKind.i64 (0 : Int), AV.int IntKind.i64 (0 : Int)]) (H.mk [] [] [])), Ans.o Orc.dflt, Ans.o Orc.dflt, Ans.o Orc.dflt, Ans.o (Orc.val (72 : Nat) (AV.bool true) (H.mk [] [] []))]) (aCall (Sof [c30.to, c36.to, c35z.to, c33.to, c21.to, c37z.to]) (AV.fn (Fn.func (30 : Nat)) [] []) [AV.sl (rowsA t) t.length r] (H.mk [] [] []) = some (AV.sl (rowsA (tab t)) (tab t).length (rn (tab t)), H.mk [] [] []) ∧ aCall (Sof [c30.to, c36.to, c35z.to, c33.to, c21.to, c37z.to]) (AV.fn (Fn.func (36 : Nat)) [] []) [AV.sl (ints a) a.length (rr b)] (H.mk [] [] []) = some (AV.sl (ints (cut a)) (cut a).length (rr b.cl), H.mk [] [] []) ∧ aCall (Sof [c30.to, c36.to, c35z.to, c33.to, c21.to, c37z.to]) (AV.fn (Fn.func (35 : Nat)) [] []) [AV.sl (rowsA (tab t)) (tab t).length (rn (tab t)), AV.sl (ints (cut a)) (cut a).length (rr b.cl)] (H.mk [] [] []) = some (AV.tup [AV.int IntKind.i64 (-1 : Int), AV.int IntKind.i64 (0 : Int), AV.int IntKind.i64 (0 : Int)], H.mk [] [] []) ∧ aCall (Sof [c30.to, c36.to, c35z.to, c33.to, c21.to, c37z.to]) (AV.fn (Fn.func (33 : Nat)) [] []) [AV.sl (rowsA t) t.length r] (H.mk [] [] []) = some (AV.bool true, H.mk [] [] []) ∧ aCall (Sof [c30.to, c36.to, c35z.to, c33.to, c21.to, c37z.to]) (AV.fn (Fn.func (33 : Nat)) [] []) [AV.sl [AV.sl (ints a) a.length (rr b)] (1 : Nat) Room.full] (H.mk [] [] []) = some (AV.bool true, H.mk [] [] []) ∧ aIndexAddr Try.prog (48 : Nat) (AV.sl (rowsA t) t.length r) (AV.int IntKind.i64 (0 : Int)) = some (AV.cptr (rowsA (List.drop (0 : Nat) t))) ∧ aLoad Try.prog (56 : Nat) (rowsA (List.drop (0 : Nat) t)) = some (AV.sl (ints (t.getD (0 : Nat) row0).fst) (t.getD (0 : Nat) row0).fst.length (rr (t.getD (0 : Nat) row0).snd)) ∧ (↑a.length : Int) = (↑(t.getD (0 : Nat) row0).fst.length : Int) ∧ aCall (Sof [c30.to, c36.to, c35z.to, c33.to, c21.to, c37z.to]) (AV.fn (Fn.func (37 : Nat)) [] []) [AV.sl (rowsA t) t.length r, AV.sl (ints a) a.length (rr b)] (H.mk [] [] []) = some (AV.tup [AV.int IntKind.i64 (-1 : Int), AV.int IntKind.i64 (0 : Int), AV.int IntKind.i64 (0 : Int)], H.mk [] [] []) ∧ aCall (Sof [c30.to, c36.to, c35z.to, c33.to, c21.to, c37z.to]) (AV.fn (Fn.func (21 : Nat)) [] []) [] (H.mk [] [] []) = some (AV.bool true, H.mk [] [] []) ∧ (AV.bool true, H.mk [] [] []) = (AV.bool true, H.mk [] [] [])) (by kernel_rfl) ?_
  refine And.intro (by exact acall_hit (c := c30.to) (t, r) _ rfl p30) ?_
  refine And.intro (by exact acall_hit (c := c36.to) (a, b) _ rfl p36) ?_
  refine And.intro (by exact acall_hit (c := c35z.to) (tab t, rn (tab t), cut a, rr b.cl) _ rfl p35) ?_
  refine And.intro (by first | exact acall_b (acall_hit (c := c33.to) (t, r) _ rfl p30) hT' | exact acall_b (acall_hit (c := c33.to) ([(a, b)], .full) _ rfl p33) hO') ?_
  refine And.intro (by first | exact acall_b (acall_hit (c := c33.to) (t, r) _ rfl p30) hT' | exact acall_b (acall_hit (c := c33.to) ([(a, b)], .full) _ rfl p33) hO') ?_
  refine And.intro (by first | exact ix_rows (by kernel_rfl) (by omega) (by assumption) | exact ix_rows (by kernel_rfl) (by omega) (rok_idx (by assumption) (by omega))) ?_
  refine And.intro (by exact ld_rows (by kernel_rfl) (by kernel_rfl) (by omega)) ?_
  refine And.intro (by first | assumption | omega | (simp only [small, tiny, rng, decide_eq_true_eq, decide_eq_false_iff_not, true_or, or_true, true_and, and_true, Int.reduceEq, Int.reduceNeg, eq_self, reduceIte, if_true, if_false] at *; omega) | (simp [small, tiny, rng, decide_eq_true_eq, decide_eq_false_iff_not, true_or, or_true, true_and, and_true, Int.reduceEq, Int.reduceNeg, eq_self, reduceIte, if_true, if_false] at *; done)) ?_
  refine And.intro (by exact acall_hit (c := c37z.to) (t, r, a, rr b) _ rfl p37) ?_
  refine And.intro (by first | exact acall_hit (c := c21.to) () _ rfl True.intro | exact pcall_hit (c := c21) () _ rfl True.intro) ?_
  first | with_reducible rfl | (refine bleaf_t ?_; first | omega | (simp only [small, tiny, rng, decide_eq_true_eq, decide_eq_false_iff_not, true_or, or_true, true_and, and_true, Int.reduceEq, Int.reduceNeg, eq_self, reduceIte, if_true, if_false] at *; omega)) | (refine bleaf_f ?_; first | omega | (simp only [small, tiny, rng, decide_eq_true_eq, decide_eq_false_iff_not, true_or, or_true, true_and, and_true, Int.reduceEq, Int.reduceNeg, eq_self, reduceIte, if_true, if_false] at *; omega)) | (refine ileaf ?_; first | omega | (simp only [small, tiny, rng, decide_eq_true_eq, decide_eq_false_iff_not, true_or, or_true, true_and, and_true, Int.reduceEq, Int.reduceNeg, eq_self, reduceIte, if_true, if_false] at *; omega)) | (exfalso; omega) | (simp only [Prod.mk.injEq, AV.agg.injEq, AV.tup.injEq, List.cons.injEq, AV.int.injEq, AV.bool.injEq, and_true, true_and]; (repeat' apply And.intro) <;> first | with_reducible rfl | (simp []; done) | (simp []; omega) | omega | (simp only [small, tiny, rng, decide_eq_true_eq, decide_eq_false_iff_not, true_or, or_true, true_and, and_true, Int.reduceEq, Int.reduceNeg, eq_self, reduceIte, if_true, if_false] at *; omega) | (simp [small, tiny, rng, decide_eq_true_eq, decide_eq_false_iff_not, true_or, or_true, true_and, and_true, Int.reduceEq, Int.reduceNeg, eq_self, reduceIte, if_true, if_false, *]; done) | (simp [small, tiny, rng, decide_eq_true_eq, decide_eq_false_iff_not, true_or, or_true, true_and, and_true, Int.reduceEq, Int.reduceNeg, eq_self, reduceIte, if_true, if_false, *]; omega)) | (exfalso; simp only [small, tiny, rng, decide_eq_true_eq, decide_eq_false_iff_not, true_or, or_true, true_and, and_true, Int.reduceEq, Int.reduceNeg, eq_self, reduceIte, if_true, if_false] at *; omega) | (simp [small, tiny, rng, decide_eq_true_eq, decide_eq_false_iff_not, true_or, or_true, true_and, and_true, Int.reduceEq, Int.reduceNeg, eq_self, reduceIte, if_true, if_false] at *; done) | (simp [small, tiny, rng, decide_eq_true_eq, decide_eq_false_iff_not, true_or, or_true, true_and, and_true, Int.reduceEq, Int.reduceNeg, eq_self, reduceIte, if_true, if_false] at *; omega)
theorem r7f (t : List Row) (r : Room) (a : List Int) (b : RK) (q1 : lim t.length) (q2 : rok t r) (q3 : gr t) (q4 : lim a.length) (q5 : b.mt = true → a = []) (hg : gd2 t a) (hv : lv t) (ha : ap t) (hz : ¬ sm a a (-1)) :
    ebody Try.prog (Pof [c30, c36, c35f, c33, c21, c37f]) (Sof [c30.to, c36.to, c35f.to, c33.to, c21.to, c37f.to]) 2000 Try.f7 (bd Try.f7) [rs t r, ls a (rr b)] .nil = some (.bool true, .nil) := by
  have p30 : lim t.length ∧ rok t r ∧ gr t := ⟨q1, q2, q3⟩
  have p36 : lim a.length ∧ (b.mt = true → a = []) := ⟨q4, q5⟩
  have p33 := one_pre q4 q5
  have g1 : lim (tab t).length := by have := tab_len t; simp only [lim]; omega
  have g2 := rn_rok (tab t)
  have g3 := gr_tab q3
  have g4 : lim (cut a).length := by simp only [cut, List.length_take, lim]; omega
  have g5 : rok (cut a) (rr b.cl) := rr_rok (fun h => by have hb : b.mt = true := (by cases b <;> first | rfl | cases h); rw [q5 hb]; rfl)
  have eT := tab_eq q3 hg.1
  have eA := cut_eq hg
  have hT := hg.1
  have hT' : decide (tb t) = true := by rw [decide_eq_true_eq]; exact hT
  have hz' : 0 < t.length := by have := hT.1; omega
  have hr := rok_idx q2 hz'
  have hO : tb [(a, b)] := one_tb.2 ⟨by have := hT.2.2.1; have := hg.2.1; omega, by have := hT.2.2.2.1; have := hg.2.1; omega, hg.2.2⟩
  have hO' : decide (tb [(a, b)]) = true := by rw [decide_eq_true_eq]; exact hO
  have hL : (a.length : Int) = (List.getD t 0 row0).1.length := by have := hg.2.1; omega
  have g6 : rok a (rr b) := rr_rok q5
  have p35 : (lim (tab t).length ∧ rok (tab t) (rn (tab t)) ∧ gr (tab t) ∧ lim (cut a).length ∧ rok (cut a) (rr b.cl)) ∧ gd2 (tab t) (cut a) ∧ lv (tab t) ∧ ap (tab t) ∧ ¬ sm (cut a) (cut a) (-1) := ⟨⟨g1, g2, g3, g4, g5⟩, by rw [eT, eA]; exact ⟨hg, hv, ha, hz⟩⟩
  have p37 : (lim t.length ∧ rok t r ∧ gr t ∧ lim a.length ∧ rok a (rr b)) ∧ gd2 t a ∧ lv t ∧ ap t ∧ ¬ sm a a (-1) := ⟨⟨q1, q2, q3, q4, g6⟩, ⟨hg, hv, ha, hz⟩⟩
  have e1 : (fm (cut a) (tab t) 0).1 = (fm a t 0).1 := by rw [eT, eA]
  have e2 : (fm (cut a) (tab t) 0).2.1 = (fm a t 0).2.1 := by rw [eT, eA]
  have e3 : (fm (cut a) (tab t) 0).2.2 = (fm a t 0).2.2 := by rw [eT, eA]
  refine body_wV ([Ans.o (Orc.val (13 : Nat) (AV.sl (rowsA (tab t)) (tab t).length (rn (tab t))) (H.mk [] [] [])), Ans.o (Orc.val (15 : Nat) (AV.sl (ints (cut a)) (cut a).length (rr b.cl)) (H.mk [] [] [])), Ans.o (Orc.val (16 : Nat) (AV.tup [AV.int IntKind.i64 (fm (cut a) (tab t) (0 : Nat)).fst, AV.int IntKind.i64 (fm (cut a) (tab t) (0 : Nat)).snd.fst, AV.int IntKind.i64 (fm (cut a) (tab t) (0 : Nat)).snd.snd]) (H.mk [] [] [])), Ans.o (Orc.val (21 : Nat) (AV.bool true) (H.mk [] [] [])), Ans.o (Orc.val (26 : Nat) (AV.bool true) (H.mk [] [] [])), Ans.o (Orc.val (33 : Nat) (AV.cptr (rowsA (List.drop (0 : Nat) t))) (H.mk [] [] [])), Ans.o (Orc.val (34 : Nat) (AV.sl (ints (t.getD (0 : Nat) row0).fst) (t.getD (0 : Nat) row0).fst.length (rr (t.getD (0 : Nat) row0).snd)) (H.mk [] [] [])), Ans.o (Orc.b false), Ans.o (Orc.val (54 : Nat) (AV.tup [AV.int IntKind.i64 (fm a t (0 : Nat)).fst, AV.int IntKind.i64 (fm a t (0 : Nat)).snd.fst, AV.int IntKind.i64 (fm a t (0 : Nat)).snd.snd]) (H.mk [] [] [])), Ans.o (Orc.b true), Ans.o (Orc.b true), Ans.o (Orc.b true), Ans.o (Orc.val (72 : Nat) (AV.bool true) (H.mk [] [] []))]) (aCall (Sof [c30.to, c36.to, c35f.to, c33.to, c21.to, c37f.to]) (AV.fn (Fn.func (30 : Nat)) [] []) [AV.sl (rowsA t) t.length r] (H.mk [] [] []) = some (AV.sl (rowsA (tab t)) (tab t).length (rn (tab t)), H.mk [] [] []) ∧ aCall (Sof [c30.to, c36.to, c35f.to, c33.to, c21.to, c37f.to]) (AV.fn (Fn.func (36 : Nat)) [] []) [AV.sl (ints a) a.length (rr b)] (H.mk [] [] []) = some (AV.sl (ints (cut a)) (cut a).length (rr b.cl), H.mk [] [] []) ∧ aCall (Sof [c30.to, c36.to, c35f.to, c33.to, c21.to, c37f.to]) (AV.fn (Fn.func (35 : Nat)) [] []) [AV.sl (rowsA (tab t)) (tab t).length (rn (tab t)), AV.sl (ints (cut a)) (cut a).length (rr b.cl)] (H.mk [] [] []) = some (AV.tup [AV.int IntKind.i64 (fm (cut a) (tab t) (0 : Nat)).fst, AV.int IntKind.i64 (fm (cut a) (tab t) (0 : Nat)).snd.fst, AV.int IntKind.i64 (fm (cut a) (tab t) (0 : Nat)).snd.snd], H.mk [] [] []) ∧ aCall (Sof [c30.to, c36.to, c35f.to, c33.to, c21.to, c37f.to]) (AV.fn (Fn.func (33 : Nat)) [] []) [AV.sl (rowsA t) t.length r] (H.mk [] [] []) = some (AV.bool true, H.mk [] [] []) ∧ aCall (Sof [c30.to, c36.to, c35f.to, c33.to, c21.to, c37f.to]) (AV.fn (Fn.func (33 : Nat)) [] []) [AV.sl [AV.sl (ints a) a.length (rr b)] (1 : Nat) Room.full] (H.mk [] [] []) = some (AV.bool true, H.mk [] [] []) ∧ aIndexAddr Try.prog (48 : Nat) (AV.sl (rowsA t) t.length r) (AV.int IntKind.i64 (0 : Int)) = some (AV.cptr (rowsA (List.drop (0 : Nat) t))) ∧ aLoad Try.prog (56 : Nat) (rowsA (List.drop (0 : Nat) t)) = some (AV.sl (ints (t.getD (0 : Nat) row0).fst) (t.getD (0 : Nat) row0).fst.length (rr (t.getD (0 : Nat) row0).snd)) ∧ (↑a.length : Int) = (↑(t.getD (0 : Nat) row0).fst.length : Int) ∧ aCall (Sof [c30.to, c36.to, c35f.to, c33.to, c21.to, c37f.to]) (AV.fn (Fn.func (37 : Nat)) [] []) [AV.sl (rowsA t) t.length r, AV.sl (ints a) a.length (rr b)] (H.mk [] [] []) = some (AV.tup [AV.int IntKind.i64 (fm a t (0 : Nat)).fst, AV.int IntKind.i64 (fm a t (0 : Nat)).snd.fst, AV.int IntKind.i64 (fm a t (0 : Nat)).snd.snd], H.mk [] [] []) ∧ (fm (cut a) (tab t) (0 : Nat)).fst = (fm a t (0 : Nat)).fst ∧ (fm (cut a) (tab t) (0 : Nat)).snd.fst = (fm a t (0 : Nat)).snd.fst ∧ (fm (cut a) (tab t) (0 : Nat)).snd.snd = (fm a t (0 : Nat)).snd.snd ∧ aCall (Sof [c30.to, c36.to, c35f.to, c33.to, c21.to, c37f.to]) (AV.fn (Fn.func (21 : Nat)) [] []) [] (H.mk [] [] []) = some (AV.bool true, H.mk [] [] []) ∧ (AV.bool true, H.mk [] [] []) = (AV.bool true, H.mk [] [] [])) (by kernel_rfl) ?_
  refine And.intro (by exact acall_hit (c := c30.to) (t, r) _ rfl p30) ?_
  refine And.intro (by exact acall_hit (c := c36.to) (a, b) _ rfl p36) ?_
  refine And.intro (by exact acall_hit (c := c35f.to) (tab t, rn (tab t), cut a, rr b.cl) _ rfl p35) ?_
  refine And.intro (by first | exact acall_b (acall_hit (c := c33.to) (t, r) _ rfl p30) hT' | exact acall_b (acall_hit (c := c33.to) ([(a, b)], .full) _ rfl p33) hO') ?_
  refine And.intro (by first | exact acall_b (acall_hit (c := c33.to) (t, r) _ rfl p30) hT' | exact acall_b (acall_hit (c := c33.to) ([(a, b)], .full) _ rfl p33) hO') ?_
  refine And.intro (by first | exact ix_rows (by kernel_rfl) (by omega) (by assumption) | exact ix_rows (by kernel_rfl) (by omega) (rok_idx (by assumption) (by omega))) ?_
  refine And.intro (by exact ld_rows (by kernel_rfl) (by kernel_rfl) (by omega)) ?_
  refine And.intro (by first | assumption | omega | (simp only [small, tiny, rng, decide_eq_true_eq, decide_eq_false_iff_not, true_or, or_true, true_and, and_true, Int.reduceEq, Int.reduceNeg, eq_self, reduceIte, if_true, if_false] at *; omega) | (simp [small, tiny, rng, decide_eq_true_eq, decide_eq_false_iff_not, true_or, or_true, true_and, and_true, Int.reduceEq, Int.reduceNeg, eq_self, reduceIte, if_true, if_false] at *; done)) ?_
  refine And.intro (by exact acall_hit (c := c37f.to) (t, r, a, rr b) _ rfl p37) ?_
  refine And.intro (by first | assumption | omega | (simp only [small, tiny, rng, decide_eq_true_eq, decide_eq_false_iff_not, true_or, or_true, true_and, and_true, Int.reduceEq, Int.reduceNeg, eq_self, reduceIte, if_true, if_false] at *; omega) | (simp [small, tiny, rng, decide_eq_true_eq, decide_eq_false_iff_not, true_or, or_true, true_and, and_true, Int.reduceEq, Int.reduceNeg, eq_self, reduceIte, if_true, if_false] at *; done)) ?_
  refine And.intro (by first | assumption | omega | (simp only [small, tiny, rng, decide_eq_true_eq, decide_eq_false_iff_not, true_or, or_true, true_and, and_true, Int.reduceEq, Int.reduceNeg, eq_self, reduceIte, if_true, if_false] at *; omega) | (simp [small, tiny, rng, decide_eq_true_eq, decide_eq_false_iff_not, true_or, or_true, true_and, and_true, Int.reduceEq, Int.reduceNeg, eq_self, reduceIte, if_true, if_false] at *; done)) ?_
  refine And.intro (by first | assumption | omega | (simp only [small, tiny, rng, decide_eq_true_eq, decide_eq_false_iff_not, true_or, or_true, true_and, and_true, Int.reduceEq, Int.reduceNeg, eq_self, reduceIte, if_true, if_false] at *; omega) | (simp [small, tiny, rng, decide_eq_true_eq, decide_eq_false_iff_not, true_or, or_true, true_and, and_true, Int.reduceEq, Int.reduceNeg, eq_self, reduceIte, if_true, if_false] at *; done)) ?_
  refine And.intro (by first | exact acall_hit (c := c21.to) () _ rfl True.intro | exact pcall_hit (c := c21) () _ rfl True.intro) ?_
  first | with_reducible rfl | (refine bleaf_t ?_; first | omega | (simp only [small, tiny, rng, decide_eq_true_eq, decide_eq_false_iff_not, true_or, or_true, true_and, and_true, Int.reduceEq, Int.reduceNeg, eq_self, reduceIte, if_true, if_false] at *; omega)) | (refine bleaf_f ?_; first | omega | (simp only [small, tiny, rng, decide_eq_true_eq, decide_eq_false_iff_not, true_or, or_true, true_and, and_true, Int.reduceEq, Int.reduceNeg, eq_self, reduceIte, if_true, if_false] at *; omega)) | (refine ileaf ?_; first | omega | (simp only [small, tiny, rng, decide_eq_true_eq, decide_eq_false_iff_not, true_or, or_true, true_and, and_true, Int.reduceEq, Int.reduceNeg, eq_self, reduceIte, if_true, if_false] at *; omega)) | (exfalso; omega) | (simp only [Prod.mk.injEq, AV.agg.injEq, AV.tup.injEq, List.cons.injEq, AV.int.injEq, AV.bool.injEq, and_true, true_and]; (repeat' apply And.intro) <;> first | with_reducible rfl | (simp []; done) | (simp []; omega) | omega | (simp only [small, tiny, rng, decide_eq_true_eq, decide_eq_false_iff_not, true_or, or_true, true_and, and_true, Int.reduceEq, Int.reduceNeg, eq_self, reduceIte, if_true, if_false] at *; omega) | (simp [small, tiny, rng, decide_eq_true_eq, decide_eq_false_iff_not, true_or, or_true, true_and, and_true, Int.reduceEq, Int.reduceNeg, eq_self, reduceIte, if_true, if_false, *]; done) | (simp [small, tiny, rng, decide_eq_true_eq, decide_eq_false_iff_not, true_or, or_true, true_and, and_true, Int.reduceEq, Int.reduceNeg, eq_self, reduceIte, if_true, if_false, *]; omega)) | (exfalso; simp only [small, tiny, rng, decide_eq_true_eq, decide_eq_false_iff_not, true_or, or_true, true_and, and_true, Int.reduceEq, Int.reduceNeg, eq_self, reduceIte, if_true, if_false] at *; omega) | (simp [small, tiny, rng, decide_eq_true_eq, decide_eq_false_iff_not, true_or, or_true, true_and, and_true, Int.reduceEq, Int.reduceNeg, eq_self, reduceIte, if_true, if_false] at *; done) | (simp [small, tiny, rng, decide_eq_true_eq, decide_eq_false_iff_not, true_or, or_true, true_and, and_true, Int.reduceEq, Int.reduceNeg, eq_self, reduceIte, if_true, if_false] at *; omega)

theorem ok7 : Fok Try.prog 7 Try.f7 := ⟨mixed, by kernel_rfl, by kernel_rfl, by kernel_rfl, by kernel_rfl⟩
theorem reads_ok (t : List Row) (r : Room) (a : List Int) (b : RK) (q1 : lim t.length) (q2 : rok t r) (q3 : gr t) (q4 : lim a.length) (q5 : b.mt = true → a = []) : CallOk Try.prog 7 [rs t r, ls a (rr b)] .nil (.bool true) .nil := by
  by_cases hg : gd2 t a
  · by_cases hn : lv t ∧ ap t
    · by_cases hz : sm a a (-1)
      · exact ok7.run (pof_ok _) (sof_ok _) (r7z t r a b q1 q2 q3 q4 q5 hg hn.1 hn.2 hz)
      · exact ok7.run (pof_ok _) (sof_ok _) (r7f t r a b q1 q2 q3 q4 q5 hg hn.1 hn.2 hz)
    · exact ok7.run (pof_ok _) (sof_ok _) (r7n t r a b q1 q2 q3 q4 q5 hg hn)
  · exact ok7.run (pof_ok _) (sof_ok _) (r7b t r a b q1 q2 q3 q4 q5 hg)
end Go.Proofs.Weg
