/- Layer 5: the law of codes. -/
import Derived.Test.YtlomlnkafakloaaDoorSuV
import Derived.Test.YtlomlnkafakloaaDoorSuJ0
import Derived.Test.YtlomlnkafakloaaDoorSuN0
import Derived.KernelRfl
set_option linter.unusedSimpArgs false
set_option linter.unusedVariables false
set_option linter.unnecessarySimpa false
set_option maxHeartbeats 4000000
set_option maxRecDepth 100000
namespace Go.Proofs.Sur
open Go Go.VM

theorem rdF_none (g : List Int) : ∀ (n m : Nat), 0 < g.length → rdF g n (pwW g m) = none → 64 < g.length ^ (m + n + 1)
  | 0, m, _, h => by cases h
  | n + 1, m, hp, h => by
    simp only [rdF] at h
    split at h
    · rename_i hs
      rw [pwW_len, ← Nat.pow_succ] at hs
      exact Nat.lt_of_lt_of_le hs (Nat.pow_le_pow_right hp (by omega))
    · have := rdF_none g n (m + 1) hp h
      have e : m + 1 + n = m + (n + 1) := by omega
      rw [e] at this; exact this
theorem rd_six {g : List Int} {k : Int} (h : rdE g k = 6) : Gr g ∧ (1 ≤ k ∧ k ≤ 3) ∧ 64 < g.length ^ k.toNat := by
  by_cases hc : grB g = true ∧ 1 ≤ k ∧ k ≤ 3
  · have hg := grB_iff.1 hc.1
    cases hF : rdF g (k - 1).toNat (nrV g) with
    | none =>
      have := rdF_none g (k - 1).toNat 0 hg.1.1 hF
      have e : 0 + (k - 1).toNat + 1 = k.toNat := by omega
      rw [e] at this
      exact ⟨hg, hc.2, this⟩
    | some w => rw [(rd_some hc hF).1] at h; cases h
  · rw [(rd_bad hc).1] at h; cases h
theorem rd_two {g : List Int} {k : Int} (h : rdE g k = 2) : ¬ (grB g = true ∧ 1 ≤ k ∧ k ≤ 3) := fun hc => by
  cases hF : rdF g (k - 1).toNat (nrV g) with
  | none => rw [(rd_none hc hF).1] at h; cases h
  | some w => rw [(rd_some hc hF).1] at h; cases h
theorem cut_ic {g : List Int} {k : Int} (h : rdE g k = 0) (l : List Int) : icF (rdW g k) 0#64 (-1) (cut l) = icF (rdW g k) 0#64 (-1) l := by
  by_cases hl : l.length ≤ 80
  · rw [cut, List.take_of_length_le hl]
  · have f1 : icF (rdW g k) 0#64 (-1) l = false := Bool.eq_false_iff.2 fun hc => by
      have := cd_len h (by rw [cd_eq h]; exact hc)
      have := (co_sm h).1
      omega
    have f2 : icF (rdW g k) 0#64 (-1) (cut l) = false := Bool.eq_false_iff.2 fun hc => by
      have := cut_len h (by rw [cd_eq h]; exact hc)
      have := (co_sm h).1
      omega
    rw [f1, f2]
theorem ok4 : FokM Tryd.prog none1 4 Tryd.f4 := ⟨mixed, by kernel_rfl, by kernel_rfl, by kernel_rfl, by kernel_rfl⟩
theorem r4e (g : List Int) (q : RK) (k : Int) (l : List Int) (p : RK) (hg : pl g q) (hl : pl l p) (e : rdE (cut g) k = 2) : Body (En6 [c19.to, c27.to, c28.to, c29.to, c23.to]) none1 Tryd.f4 [ls g (rr q), I k, ls l (rr p)] .nil (.bool true, .nil) := by
  have p19 := pl_19 hg
  have p19l := pl_19 hl
  have p28 := pl_c hg
  have p29 : lim g.length ∧ rok g (rr q) := ⟨hg.1, pl_rok hg⟩
  have p27 : (lim (cut g).length ∧ rok (cut g) (rcl (rr q))) ∧ lim (cut l).length ∧ rok (cut l) (rcl (rr p)) := ⟨p28, pl_c hl⟩
  have h0 : rdE (cut g) k ≠ 0 := by omega
  have hb : cdB (cut g) k (cut l) = false := if_neg h0
  have hv : coV (cut g) k = [] := if_neg h0
  have hc : ((coV (cut g) k).length : Int) = 0 := by rw [hv]; rfl
  have hn := rd_two e
  cases hG : grB g
  · refine body_s ([Ans.o (Orc.val (13 : Nat) (AV.sl (ints (cut g)) (cut g).length (rcl (rr q))) (H.mk [] [] [])), Ans.o (Orc.val (16 : Nat) (AV.sl (ints (cut l)) (cut l).length (rcl (rr p))) (H.mk [] [] [])), Ans.o (Orc.val (17 : Nat) (AV.tup [AV.bool (cdB (cut g) k (cut l)), I (rdE (cut g) k)]) (H.mk [] [] [])), Ans.btold (18 : Nat) false, Ans.o (Orc.val (22 : Nat) (AV.sl (ints (cut g)) (cut g).length (rcl (rr q))) (H.mk [] [] [])), Ans.o (Orc.val (24 : Nat) (AV.tup [AV.sl (ints (coV (cut g) k)) (coV (cut g) k).length (rn (coV (cut g) k)), I (rdE (cut g) k)]) (H.mk [] [] [])), Ans.o (Orc.val (28 : Nat) (AV.bool false) (H.mk [] [] [])), Ans.o (Orc.b true), Ans.o (Orc.b true), Ans.o (Orc.b true), Ans.o (Orc.val (54 : Nat) (AV.bool true) (H.mk [] [] []))]) (aCall (Sof [c19.to, c27.to, c28.to, c29.to, c23.to]) (AV.fn (Fn.func (19 : Nat)) [] []) [AV.sl (ints g) g.length (rr q)] (H.mk [] [] []) = some (AV.sl (ints (cut g)) (cut g).length (rcl (rr q)), H.mk [] [] []) ∧ aCall (Sof [c19.to, c27.to, c28.to, c29.to, c23.to]) (AV.fn (Fn.func (19 : Nat)) [] []) [AV.sl (ints l) l.length (rr p)] (H.mk [] [] []) = some (AV.sl (ints (cut l)) (cut l).length (rcl (rr p)), H.mk [] [] []) ∧ aCall (Sof [c19.to, c27.to, c28.to, c29.to, c23.to]) (AV.fn (Fn.func (27 : Nat)) [] []) [AV.sl (ints (cut g)) (cut g).length (rcl (rr q)), I k, AV.sl (ints (cut l)) (cut l).length (rcl (rr p))] (H.mk [] [] []) = some (AV.tup [AV.bool (cdB (cut g) k (cut l)), I (rdE (cut g) k)], H.mk [] [] []) ∧ cdB (cut g) k (cut l) = false ∧ aCall (Sof [c19.to, c27.to, c28.to, c29.to, c23.to]) (AV.fn (Fn.func (19 : Nat)) [] []) [AV.sl (ints g) g.length (rr q)] (H.mk [] [] []) = some (AV.sl (ints (cut g)) (cut g).length (rcl (rr q)), H.mk [] [] []) ∧ aCall (Sof [c19.to, c27.to, c28.to, c29.to, c23.to]) (AV.fn (Fn.func (28 : Nat)) [] []) [AV.sl (ints (cut g)) (cut g).length (rcl (rr q)), I k] (H.mk [] [] []) = some (AV.tup [AV.sl (ints (coV (cut g) k)) (coV (cut g) k).length (rn (coV (cut g) k)), I (rdE (cut g) k)], H.mk [] [] []) ∧ aCall (Sof [c19.to, c27.to, c28.to, c29.to, c23.to]) (AV.fn (Fn.func (29 : Nat)) [] []) [AV.sl (ints g) g.length (rr q)] (H.mk [] [] []) = some (AV.bool false, H.mk [] [] []) ∧ (↑(coV (cut g) k).length : Int) = (0 : Int) ∧ rdE (cut g) k = (2 : Int) ∧ rdE (cut g) k = (2 : Int) ∧ aCall (Sof [c19.to, c27.to, c28.to, c29.to, c23.to]) (AV.fn (Fn.func (23 : Nat)) [] []) [] (H.mk [] [] []) = some (AV.bool true, H.mk [] [] []) ∧ (AV.bool true, H.mk [] [] []) = (AV.bool true, H.mk [] [] [])) (by kernel_rfl) ?_
    refine And.intro (by first | exact acall_hit (c := c19.to) (g, rr q) _ rfl p19 | exact acall_hit (c := c19.to) (l, rr p) _ rfl p19l) ?_
    refine And.intro (by first | exact acall_hit (c := c19.to) (g, rr q) _ rfl p19 | exact acall_hit (c := c19.to) (l, rr p) _ rfl p19l) ?_
    refine And.intro (by exact acall_hit (c := c27.to) (cut g, rcl (rr q), k, cut l, rcl (rr p)) _ rfl p27) ?_
    refine And.intro (by first | with_reducible assumption | omega | assumption) ?_
    refine And.intro (by first | exact acall_hit (c := c19.to) (g, rr q) _ rfl p19 | exact acall_hit (c := c19.to) (l, rr p) _ rfl p19l) ?_
    refine And.intro (by exact acall_hit (c := c28.to) (cut g, rcl (rr q), k) _ rfl p28) ?_
    refine And.intro (by exact acall_b (acall_hit (c := c29.to) (g, rr q) _ rfl p29) hG) ?_
    refine And.intro (by first | with_reducible assumption | omega | assumption) ?_
    refine And.intro (by first | with_reducible assumption | omega | assumption) ?_
    refine And.intro (by first | with_reducible assumption | omega | assumption) ?_
    refine And.intro (by exact acall_hit (c := c23.to) () _ rfl trivial) ?_
    first | with_reducible rfl | (refine bleaf_t ?_; omega) | (refine bleaf_f ?_; omega) | (refine ileaf ?_; omega) | rfl | (exfalso; omega)
  · have hG' := cut_gr.2 (grB_iff.1 hG)
    by_cases k1 : k < 1
    · refine body_s ([Ans.o (Orc.val (13 : Nat) (AV.sl (ints (cut g)) (cut g).length (rcl (rr q))) (H.mk [] [] [])), Ans.o (Orc.val (16 : Nat) (AV.sl (ints (cut l)) (cut l).length (rcl (rr p))) (H.mk [] [] [])), Ans.o (Orc.val (17 : Nat) (AV.tup [AV.bool (cdB (cut g) k (cut l)), I (rdE (cut g) k)]) (H.mk [] [] [])), Ans.btold (18 : Nat) false, Ans.o (Orc.val (22 : Nat) (AV.sl (ints (cut g)) (cut g).length (rcl (rr q))) (H.mk [] [] [])), Ans.o (Orc.val (24 : Nat) (AV.tup [AV.sl (ints (coV (cut g) k)) (coV (cut g) k).length (rn (coV (cut g) k)), I (rdE (cut g) k)]) (H.mk [] [] [])), Ans.o (Orc.val (28 : Nat) (AV.bool true) (H.mk [] [] [])), Ans.o (Orc.b true), Ans.o (Orc.b true), Ans.o (Orc.b true), Ans.o (Orc.b true), Ans.o (Orc.val (54 : Nat) (AV.bool true) (H.mk [] [] []))]) (aCall (Sof [c19.to, c27.to, c28.to, c29.to, c23.to]) (AV.fn (Fn.func (19 : Nat)) [] []) [AV.sl (ints g) g.length (rr q)] (H.mk [] [] []) = some (AV.sl (ints (cut g)) (cut g).length (rcl (rr q)), H.mk [] [] []) ∧ aCall (Sof [c19.to, c27.to, c28.to, c29.to, c23.to]) (AV.fn (Fn.func (19 : Nat)) [] []) [AV.sl (ints l) l.length (rr p)] (H.mk [] [] []) = some (AV.sl (ints (cut l)) (cut l).length (rcl (rr p)), H.mk [] [] []) ∧ aCall (Sof [c19.to, c27.to, c28.to, c29.to, c23.to]) (AV.fn (Fn.func (27 : Nat)) [] []) [AV.sl (ints (cut g)) (cut g).length (rcl (rr q)), I k, AV.sl (ints (cut l)) (cut l).length (rcl (rr p))] (H.mk [] [] []) = some (AV.tup [AV.bool (cdB (cut g) k (cut l)), I (rdE (cut g) k)], H.mk [] [] []) ∧ cdB (cut g) k (cut l) = false ∧ aCall (Sof [c19.to, c27.to, c28.to, c29.to, c23.to]) (AV.fn (Fn.func (19 : Nat)) [] []) [AV.sl (ints g) g.length (rr q)] (H.mk [] [] []) = some (AV.sl (ints (cut g)) (cut g).length (rcl (rr q)), H.mk [] [] []) ∧ aCall (Sof [c19.to, c27.to, c28.to, c29.to, c23.to]) (AV.fn (Fn.func (28 : Nat)) [] []) [AV.sl (ints (cut g)) (cut g).length (rcl (rr q)), I k] (H.mk [] [] []) = some (AV.tup [AV.sl (ints (coV (cut g) k)) (coV (cut g) k).length (rn (coV (cut g) k)), I (rdE (cut g) k)], H.mk [] [] []) ∧ aCall (Sof [c19.to, c27.to, c28.to, c29.to, c23.to]) (AV.fn (Fn.func (29 : Nat)) [] []) [AV.sl (ints g) g.length (rr q)] (H.mk [] [] []) = some (AV.bool true, H.mk [] [] []) ∧ k < (1 : Int) ∧ (↑(coV (cut g) k).length : Int) = (0 : Int) ∧ rdE (cut g) k = (2 : Int) ∧ rdE (cut g) k = (2 : Int) ∧ aCall (Sof [c19.to, c27.to, c28.to, c29.to, c23.to]) (AV.fn (Fn.func (23 : Nat)) [] []) [] (H.mk [] [] []) = some (AV.bool true, H.mk [] [] []) ∧ (AV.bool true, H.mk [] [] []) = (AV.bool true, H.mk [] [] [])) (by kernel_rfl) ?_
      refine And.intro (by first | exact acall_hit (c := c19.to) (g, rr q) _ rfl p19 | exact acall_hit (c := c19.to) (l, rr p) _ rfl p19l) ?_
      refine And.intro (by first | exact acall_hit (c := c19.to) (g, rr q) _ rfl p19 | exact acall_hit (c := c19.to) (l, rr p) _ rfl p19l) ?_
      refine And.intro (by exact acall_hit (c := c27.to) (cut g, rcl (rr q), k, cut l, rcl (rr p)) _ rfl p27) ?_
      refine And.intro (by first | with_reducible assumption | omega | assumption) ?_
      refine And.intro (by first | exact acall_hit (c := c19.to) (g, rr q) _ rfl p19 | exact acall_hit (c := c19.to) (l, rr p) _ rfl p19l) ?_
      refine And.intro (by exact acall_hit (c := c28.to) (cut g, rcl (rr q), k) _ rfl p28) ?_
      refine And.intro (by exact acall_b (acall_hit (c := c29.to) (g, rr q) _ rfl p29) hG) ?_
      refine And.intro (by first | with_reducible assumption | omega | assumption) ?_
      refine And.intro (by first | with_reducible assumption | omega | assumption) ?_
      refine And.intro (by first | with_reducible assumption | omega | assumption) ?_
      refine And.intro (by first | with_reducible assumption | omega | assumption) ?_
      refine And.intro (by exact acall_hit (c := c23.to) () _ rfl trivial) ?_
      first | with_reducible rfl | (refine bleaf_t ?_; omega) | (refine bleaf_f ?_; omega) | (refine ileaf ?_; omega) | rfl | (exfalso; omega)
    · have k1 : 1 ≤ k := by omega
      have k3 : 3 < k := by
        refine Classical.byContradiction fun hc => hn ⟨grB_t hG', k1, by omega⟩
      refine body_s ([Ans.o (Orc.val (13 : Nat) (AV.sl (ints (cut g)) (cut g).length (rcl (rr q))) (H.mk [] [] [])), Ans.o (Orc.val (16 : Nat) (AV.sl (ints (cut l)) (cut l).length (rcl (rr p))) (H.mk [] [] [])), Ans.o (Orc.val (17 : Nat) (AV.tup [AV.bool (cdB (cut g) k (cut l)), I (rdE (cut g) k)]) (H.mk [] [] [])), Ans.btold (18 : Nat) false, Ans.o (Orc.val (22 : Nat) (AV.sl (ints (cut g)) (cut g).length (rcl (rr q))) (H.mk [] [] [])), Ans.o (Orc.val (24 : Nat) (AV.tup [AV.sl (ints (coV (cut g) k)) (coV (cut g) k).length (rn (coV (cut g) k)), I (rdE (cut g) k)]) (H.mk [] [] [])), Ans.o (Orc.val (28 : Nat) (AV.bool true) (H.mk [] [] [])), Ans.o (Orc.b false), Ans.o (Orc.b true), Ans.o (Orc.b true), Ans.o (Orc.b true), Ans.o (Orc.b true), Ans.o (Orc.val (54 : Nat) (AV.bool true) (H.mk [] [] []))]) (aCall (Sof [c19.to, c27.to, c28.to, c29.to, c23.to]) (AV.fn (Fn.func (19 : Nat)) [] []) [AV.sl (ints g) g.length (rr q)] (H.mk [] [] []) = some (AV.sl (ints (cut g)) (cut g).length (rcl (rr q)), H.mk [] [] []) ∧ aCall (Sof [c19.to, c27.to, c28.to, c29.to, c23.to]) (AV.fn (Fn.func (19 : Nat)) [] []) [AV.sl (ints l) l.length (rr p)] (H.mk [] [] []) = some (AV.sl (ints (cut l)) (cut l).length (rcl (rr p)), H.mk [] [] []) ∧ aCall (Sof [c19.to, c27.to, c28.to, c29.to, c23.to]) (AV.fn (Fn.func (27 : Nat)) [] []) [AV.sl (ints (cut g)) (cut g).length (rcl (rr q)), I k, AV.sl (ints (cut l)) (cut l).length (rcl (rr p))] (H.mk [] [] []) = some (AV.tup [AV.bool (cdB (cut g) k (cut l)), I (rdE (cut g) k)], H.mk [] [] []) ∧ cdB (cut g) k (cut l) = false ∧ aCall (Sof [c19.to, c27.to, c28.to, c29.to, c23.to]) (AV.fn (Fn.func (19 : Nat)) [] []) [AV.sl (ints g) g.length (rr q)] (H.mk [] [] []) = some (AV.sl (ints (cut g)) (cut g).length (rcl (rr q)), H.mk [] [] []) ∧ aCall (Sof [c19.to, c27.to, c28.to, c29.to, c23.to]) (AV.fn (Fn.func (28 : Nat)) [] []) [AV.sl (ints (cut g)) (cut g).length (rcl (rr q)), I k] (H.mk [] [] []) = some (AV.tup [AV.sl (ints (coV (cut g) k)) (coV (cut g) k).length (rn (coV (cut g) k)), I (rdE (cut g) k)], H.mk [] [] []) ∧ aCall (Sof [c19.to, c27.to, c28.to, c29.to, c23.to]) (AV.fn (Fn.func (29 : Nat)) [] []) [AV.sl (ints g) g.length (rr q)] (H.mk [] [] []) = some (AV.bool true, H.mk [] [] []) ∧ (1 : Int) ≤ k ∧ (3 : Int) < k ∧ (↑(coV (cut g) k).length : Int) = (0 : Int) ∧ rdE (cut g) k = (2 : Int) ∧ rdE (cut g) k = (2 : Int) ∧ aCall (Sof [c19.to, c27.to, c28.to, c29.to, c23.to]) (AV.fn (Fn.func (23 : Nat)) [] []) [] (H.mk [] [] []) = some (AV.bool true, H.mk [] [] []) ∧ (AV.bool true, H.mk [] [] []) = (AV.bool true, H.mk [] [] [])) (by kernel_rfl) ?_
      refine And.intro (by first | exact acall_hit (c := c19.to) (g, rr q) _ rfl p19 | exact acall_hit (c := c19.to) (l, rr p) _ rfl p19l) ?_
      refine And.intro (by first | exact acall_hit (c := c19.to) (g, rr q) _ rfl p19 | exact acall_hit (c := c19.to) (l, rr p) _ rfl p19l) ?_
      refine And.intro (by exact acall_hit (c := c27.to) (cut g, rcl (rr q), k, cut l, rcl (rr p)) _ rfl p27) ?_
      refine And.intro (by first | with_reducible assumption | omega | assumption) ?_
      refine And.intro (by first | exact acall_hit (c := c19.to) (g, rr q) _ rfl p19 | exact acall_hit (c := c19.to) (l, rr p) _ rfl p19l) ?_
      refine And.intro (by exact acall_hit (c := c28.to) (cut g, rcl (rr q), k) _ rfl p28) ?_
      refine And.intro (by exact acall_b (acall_hit (c := c29.to) (g, rr q) _ rfl p29) hG) ?_
      refine And.intro (by first | with_reducible assumption | omega | assumption) ?_
      refine And.intro (by first | with_reducible assumption | omega | assumption) ?_
      refine And.intro (by first | with_reducible assumption | omega | assumption) ?_
      refine And.intro (by first | with_reducible assumption | omega | assumption) ?_
      refine And.intro (by first | with_reducible assumption | omega | assumption) ?_
      refine And.intro (by exact acall_hit (c := c23.to) () _ rfl trivial) ?_
      first | with_reducible rfl | (refine bleaf_t ?_; omega) | (refine bleaf_f ?_; omega) | (refine ileaf ?_; omega) | rfl | (exfalso; omega)
theorem r4s (g : List Int) (q : RK) (k : Int) (l : List Int) (p : RK) (hg : pl g q) (hl : pl l p) (e : rdE (cut g) k = 6) : Body (En6 [c19.to, c27.to, c28.to, c29.to, c30.to, c23.to]) none1 Tryd.f4 [ls g (rr q), I k, ls l (rr p)] .nil (.bool true, .nil) := by
  have p19 := pl_19 hg
  have p19l := pl_19 hl
  have p28 := pl_c hg
  have p29 : lim g.length ∧ rok g (rr q) := ⟨hg.1, pl_rok hg⟩
  have p27 : (lim (cut g).length ∧ rok (cut g) (rcl (rr q))) ∧ lim (cut l).length ∧ rok (cut l) (rcl (rr p)) := ⟨p28, pl_c hl⟩
  have h0 : rdE (cut g) k ≠ 0 := by omega
  have hb : cdB (cut g) k (cut l) = false := if_neg h0
  have hv : coV (cut g) k = [] := if_neg h0
  have hc : ((coV (cut g) k).length : Int) = 0 := by rw [hv]; rfl
  obtain ⟨h1, ⟨k1, k3⟩, h2⟩ := rd_six e
  have eg := cut_g h1.1
  have hG : grB g = true := grB_t (cut_gr.1 h1)
  have p30 : g.length ≤ 6 ∧ 0 ≤ k ∧ k ≤ 3 := ⟨by rw [← eg]; exact h1.1.2, by omega, by omega⟩
  have hw : (64 : Int) < ((g.length ^ k.toNat : Nat) : Int) := by rw [eg] at h2; omega
  refine body_s ([Ans.o (Orc.val (13 : Nat) (AV.sl (ints (cut g)) (cut g).length (rcl (rr q))) (H.mk [] [] [])), Ans.o (Orc.val (16 : Nat) (AV.sl (ints (cut l)) (cut l).length (rcl (rr p))) (H.mk [] [] [])), Ans.o (Orc.val (17 : Nat) (AV.tup [AV.bool (cdB (cut g) k (cut l)), I (rdE (cut g) k)]) (H.mk [] [] [])), Ans.btold (18 : Nat) false, Ans.o (Orc.val (22 : Nat) (AV.sl (ints (cut g)) (cut g).length (rcl (rr q))) (H.mk [] [] [])), Ans.o (Orc.val (24 : Nat) (AV.tup [AV.sl (ints (coV (cut g) k)) (coV (cut g) k).length (rn (coV (cut g) k)), I (rdE (cut g) k)]) (H.mk [] [] [])), Ans.o (Orc.val (28 : Nat) (AV.bool true) (H.mk [] [] [])), Ans.o (Orc.b false), Ans.o (Orc.b false), Ans.o (Orc.val (58 : Nat) (I (↑(g.length ^ k.toNat) : Int)) (H.mk [] [] [])), Ans.o (Orc.b true), Ans.o (Orc.b true), Ans.o (Orc.b true), Ans.o (Orc.b true), Ans.o (Orc.val (76 : Nat) (AV.bool true) (H.mk [] [] []))]) (aCall (Sof [c19.to, c27.to, c28.to, c29.to, c30.to, c23.to]) (AV.fn (Fn.func (19 : Nat)) [] []) [AV.sl (ints g) g.length (rr q)] (H.mk [] [] []) = some (AV.sl (ints (cut g)) (cut g).length (rcl (rr q)), H.mk [] [] []) ∧ aCall (Sof [c19.to, c27.to, c28.to, c29.to, c30.to, c23.to]) (AV.fn (Fn.func (19 : Nat)) [] []) [AV.sl (ints l) l.length (rr p)] (H.mk [] [] []) = some (AV.sl (ints (cut l)) (cut l).length (rcl (rr p)), H.mk [] [] []) ∧ aCall (Sof [c19.to, c27.to, c28.to, c29.to, c30.to, c23.to]) (AV.fn (Fn.func (27 : Nat)) [] []) [AV.sl (ints (cut g)) (cut g).length (rcl (rr q)), I k, AV.sl (ints (cut l)) (cut l).length (rcl (rr p))] (H.mk [] [] []) = some (AV.tup [AV.bool (cdB (cut g) k (cut l)), I (rdE (cut g) k)], H.mk [] [] []) ∧ cdB (cut g) k (cut l) = false ∧ aCall (Sof [c19.to, c27.to, c28.to, c29.to, c30.to, c23.to]) (AV.fn (Fn.func (19 : Nat)) [] []) [AV.sl (ints g) g.length (rr q)] (H.mk [] [] []) = some (AV.sl (ints (cut g)) (cut g).length (rcl (rr q)), H.mk [] [] []) ∧ aCall (Sof [c19.to, c27.to, c28.to, c29.to, c30.to, c23.to]) (AV.fn (Fn.func (28 : Nat)) [] []) [AV.sl (ints (cut g)) (cut g).length (rcl (rr q)), I k] (H.mk [] [] []) = some (AV.tup [AV.sl (ints (coV (cut g) k)) (coV (cut g) k).length (rn (coV (cut g) k)), I (rdE (cut g) k)], H.mk [] [] []) ∧ aCall (Sof [c19.to, c27.to, c28.to, c29.to, c30.to, c23.to]) (AV.fn (Fn.func (29 : Nat)) [] []) [AV.sl (ints g) g.length (rr q)] (H.mk [] [] []) = some (AV.bool true, H.mk [] [] []) ∧ (1 : Int) ≤ k ∧ k ≤ (3 : Int) ∧ aCall (Sof [c19.to, c27.to, c28.to, c29.to, c30.to, c23.to]) (AV.fn (Fn.func (30 : Nat)) [] []) [AV.sl (ints g) g.length (rr q), I k] (H.mk [] [] []) = some (I (↑(g.length ^ k.toNat) : Int), H.mk [] [] []) ∧ (64 : Int) < (↑(g.length ^ k.toNat) : Int) ∧ (↑(coV (cut g) k).length : Int) = (0 : Int) ∧ rdE (cut g) k = (6 : Int) ∧ rdE (cut g) k = (6 : Int) ∧ aCall (Sof [c19.to, c27.to, c28.to, c29.to, c30.to, c23.to]) (AV.fn (Fn.func (23 : Nat)) [] []) [] (H.mk [] [] []) = some (AV.bool true, H.mk [] [] []) ∧ (AV.bool true, H.mk [] [] []) = (AV.bool true, H.mk [] [] [])) (by kernel_rfl) ?_
  refine And.intro (by first | exact acall_hit (c := c19.to) (g, rr q) _ rfl p19 | exact acall_hit (c := c19.to) (l, rr p) _ rfl p19l) ?_
  refine And.intro (by first | exact acall_hit (c := c19.to) (g, rr q) _ rfl p19 | exact acall_hit (c := c19.to) (l, rr p) _ rfl p19l) ?_
  refine And.intro (by exact acall_hit (c := c27.to) (cut g, rcl (rr q), k, cut l, rcl (rr p)) _ rfl p27) ?_
  refine And.intro (by first | with_reducible assumption | omega | assumption) ?_
  refine And.intro (by first | exact acall_hit (c := c19.to) (g, rr q) _ rfl p19 | exact acall_hit (c := c19.to) (l, rr p) _ rfl p19l) ?_
  refine And.intro (by exact acall_hit (c := c28.to) (cut g, rcl (rr q), k) _ rfl p28) ?_
  refine And.intro (by exact acall_b (acall_hit (c := c29.to) (g, rr q) _ rfl p29) hG) ?_
  refine And.intro (by first | with_reducible assumption | omega | assumption) ?_
  refine And.intro (by first | with_reducible assumption | omega | assumption) ?_
  refine And.intro (by exact acall_hit (c := c30.to) (g, rr q, k) _ rfl p30) ?_
  refine And.intro (by first | with_reducible assumption | omega | assumption) ?_
  refine And.intro (by first | with_reducible assumption | omega | assumption) ?_
  refine And.intro (by first | with_reducible assumption | omega | assumption) ?_
  refine And.intro (by first | with_reducible assumption | omega | assumption) ?_
  refine And.intro (by exact acall_hit (c := c23.to) () _ rfl trivial) ?_
  first | with_reducible rfl | (refine bleaf_t ?_; omega) | (refine bleaf_f ?_; omega) | (refine ileaf ?_; omega) | rfl | (exfalso; omega)
theorem r4g (g : List Int) (q : RK) (k : Int) (l : List Int) (p : RK) (hg : pl g q) (hl : pl l p) (e : rdE (cut g) k = 0) (b : Bool) (hb : cdB (cut g) k (cut l) = b) : Body (En6 [c19.to, c27.to, c28.to, c29.to, c30.to, c31.to, c32.to, c24.to, c23.to]) none1 Tryd.f4 [ls g (rr q), I k, ls l (rr p)] .nil (.bool true, .nil) := by
  have p19 := pl_19 hg
  have p19l := pl_19 hl
  have p28 := pl_c hg
  have p29 : lim g.length ∧ rok g (rr q) := ⟨hg.1, pl_rok hg⟩
  have p27 : (lim (cut g).length ∧ rok (cut g) (rcl (rr q))) ∧ lim (cut l).length ∧ rok (cut l) (rcl (rr p)) := ⟨p28, pl_c hl⟩
  obtain ⟨h1, ⟨k1, k3⟩, _, _⟩ := rd_ok e
  have eg := cut_g h1.1
  have hG : grB g = true := grB_t (cut_gr.1 h1)
  have e' : rdE g k = 0 := by rw [← eg]; exact e
  have p30 : g.length ≤ 6 ∧ 0 ≤ k ∧ k ≤ 3 := ⟨by rw [← eg]; exact h1.1.2, by omega, by omega⟩
  have hw : ((g.length ^ k.toNat : Nat) : Int) ≤ 64 := by have := (rd_pw e').2; omega
  have p31 : (rdE g k = 0 ∧ rok g (rr q)) ∧ lim l.length ∧ rok l (rr p) := ⟨⟨e', pl_rok hg⟩, hl.1, pl_rok hl⟩
  have p32 : rdE g k = 0 ∧ rok g (rr q) := p31.1
  have hb2 : icF (rdW g k) 0#64 (-1) l = b := by
    rw [← cut_ic e', ← cd_eq e']; rw [eg] at hb; exact hb
  have hv : coV (cut g) k = frV (rdW g k) := by rw [co_eq e, eg]
  have p24 : coV (cut g) k = frV (rdW g k) ∧ lim (coV (cut g) k).length ∧ rok (coV (cut g) k) (rn (coV (cut g) k)) ∧ rok (frV (rdW g k)) (rn (frV (rdW g k))) := ⟨hv, coV_lim _ _, rn_rok _, rn_rok _⟩
  cases b
  · refine body_s ([Ans.o (Orc.val (13 : Nat) (AV.sl (ints (cut g)) (cut g).length (rcl (rr q))) (H.mk [] [] [])), Ans.o (Orc.val (16 : Nat) (AV.sl (ints (cut l)) (cut l).length (rcl (rr p))) (H.mk [] [] [])), Ans.o (Orc.val (17 : Nat) (AV.tup [AV.bool (cdB (cut g) k (cut l)), I (rdE (cut g) k)]) (H.mk [] [] [])), Ans.btold (18 : Nat) false, Ans.o (Orc.val (22 : Nat) (AV.sl (ints (cut g)) (cut g).length (rcl (rr q))) (H.mk [] [] [])), Ans.o (Orc.val (24 : Nat) (AV.tup [AV.sl (ints (coV (cut g) k)) (coV (cut g) k).length (rn (coV (cut g) k)), I (rdE (cut g) k)]) (H.mk [] [] [])), Ans.o (Orc.val (28 : Nat) (AV.bool true) (H.mk [] [] [])), Ans.o (Orc.b false), Ans.o (Orc.b false), Ans.o (Orc.val (58 : Nat) (I (↑(g.length ^ k.toNat) : Int)) (H.mk [] [] [])), Ans.o (Orc.b false), Ans.o (Orc.val (82 : Nat) (AV.bool false) (H.mk [] [] [])), Ans.o (Orc.b true), Ans.o (Orc.val (92 : Nat) (AV.sl (ints (frV (rdW g k))) (frV (rdW g k)).length (rn (frV (rdW g k)))) (H.mk [] [] [])), Ans.o (Orc.val (93 : Nat) (AV.bool true) (H.mk [] [] [])), Ans.o (Orc.b true), Ans.o (Orc.val (100 : Nat) (AV.bool true) (H.mk [] [] []))]) (aCall (Sof [c19.to, c27.to, c28.to, c29.to, c30.to, c31.to, c32.to, c24.to, c23.to]) (AV.fn (Fn.func (19 : Nat)) [] []) [AV.sl (ints g) g.length (rr q)] (H.mk [] [] []) = some (AV.sl (ints (cut g)) (cut g).length (rcl (rr q)), H.mk [] [] []) ∧ aCall (Sof [c19.to, c27.to, c28.to, c29.to, c30.to, c31.to, c32.to, c24.to, c23.to]) (AV.fn (Fn.func (19 : Nat)) [] []) [AV.sl (ints l) l.length (rr p)] (H.mk [] [] []) = some (AV.sl (ints (cut l)) (cut l).length (rcl (rr p)), H.mk [] [] []) ∧ aCall (Sof [c19.to, c27.to, c28.to, c29.to, c30.to, c31.to, c32.to, c24.to, c23.to]) (AV.fn (Fn.func (27 : Nat)) [] []) [AV.sl (ints (cut g)) (cut g).length (rcl (rr q)), I k, AV.sl (ints (cut l)) (cut l).length (rcl (rr p))] (H.mk [] [] []) = some (AV.tup [AV.bool (cdB (cut g) k (cut l)), I (rdE (cut g) k)], H.mk [] [] []) ∧ cdB (cut g) k (cut l) = false ∧ aCall (Sof [c19.to, c27.to, c28.to, c29.to, c30.to, c31.to, c32.to, c24.to, c23.to]) (AV.fn (Fn.func (19 : Nat)) [] []) [AV.sl (ints g) g.length (rr q)] (H.mk [] [] []) = some (AV.sl (ints (cut g)) (cut g).length (rcl (rr q)), H.mk [] [] []) ∧ aCall (Sof [c19.to, c27.to, c28.to, c29.to, c30.to, c31.to, c32.to, c24.to, c23.to]) (AV.fn (Fn.func (28 : Nat)) [] []) [AV.sl (ints (cut g)) (cut g).length (rcl (rr q)), I k] (H.mk [] [] []) = some (AV.tup [AV.sl (ints (coV (cut g) k)) (coV (cut g) k).length (rn (coV (cut g) k)), I (rdE (cut g) k)], H.mk [] [] []) ∧ aCall (Sof [c19.to, c27.to, c28.to, c29.to, c30.to, c31.to, c32.to, c24.to, c23.to]) (AV.fn (Fn.func (29 : Nat)) [] []) [AV.sl (ints g) g.length (rr q)] (H.mk [] [] []) = some (AV.bool true, H.mk [] [] []) ∧ (1 : Int) ≤ k ∧ k ≤ (3 : Int) ∧ aCall (Sof [c19.to, c27.to, c28.to, c29.to, c30.to, c31.to, c32.to, c24.to, c23.to]) (AV.fn (Fn.func (30 : Nat)) [] []) [AV.sl (ints g) g.length (rr q), I k] (H.mk [] [] []) = some (I (↑(g.length ^ k.toNat) : Int), H.mk [] [] []) ∧ (↑(g.length ^ k.toNat) : Int) ≤ (64 : Int) ∧ aCall (Sof [c19.to, c27.to, c28.to, c29.to, c30.to, c31.to, c32.to, c24.to, c23.to]) (AV.fn (Fn.func (31 : Nat)) [] []) [AV.sl (ints g) g.length (rr q), I k, AV.sl (ints l) l.length (rr p)] (H.mk [] [] []) = some (AV.bool false, H.mk [] [] []) ∧ rdE (cut g) k = (0 : Int) ∧ aCall (Sof [c19.to, c27.to, c28.to, c29.to, c30.to, c31.to, c32.to, c24.to, c23.to]) (AV.fn (Fn.func (32 : Nat)) [] []) [AV.sl (ints g) g.length (rr q), I k] (H.mk [] [] []) = some (AV.sl (ints (frV (rdW g k))) (frV (rdW g k)).length (rn (frV (rdW g k))), H.mk [] [] []) ∧ aCall (Sof [c19.to, c27.to, c28.to, c29.to, c30.to, c31.to, c32.to, c24.to, c23.to]) (AV.fn (Fn.func (24 : Nat)) [] []) [AV.sl (ints (coV (cut g) k)) (coV (cut g) k).length (rn (coV (cut g) k)), AV.sl (ints (frV (rdW g k))) (frV (rdW g k)).length (rn (frV (rdW g k)))] (H.mk [] [] []) = some (AV.bool true, H.mk [] [] []) ∧ rdE (cut g) k = (0 : Int) ∧ aCall (Sof [c19.to, c27.to, c28.to, c29.to, c30.to, c31.to, c32.to, c24.to, c23.to]) (AV.fn (Fn.func (23 : Nat)) [] []) [] (H.mk [] [] []) = some (AV.bool true, H.mk [] [] []) ∧ (AV.bool true, H.mk [] [] []) = (AV.bool true, H.mk [] [] [])) (by kernel_rfl) ?_
    refine And.intro (by first | exact acall_hit (c := c19.to) (g, rr q) _ rfl p19 | exact acall_hit (c := c19.to) (l, rr p) _ rfl p19l) ?_
    refine And.intro (by first | exact acall_hit (c := c19.to) (g, rr q) _ rfl p19 | exact acall_hit (c := c19.to) (l, rr p) _ rfl p19l) ?_
    refine And.intro (by exact acall_hit (c := c27.to) (cut g, rcl (rr q), k, cut l, rcl (rr p)) _ rfl p27) ?_
    refine And.intro (by first | with_reducible assumption | omega | assumption) ?_
    refine And.intro (by first | exact acall_hit (c := c19.to) (g, rr q) _ rfl p19 | exact acall_hit (c := c19.to) (l, rr p) _ rfl p19l) ?_
    refine And.intro (by exact acall_hit (c := c28.to) (cut g, rcl (rr q), k) _ rfl p28) ?_
    refine And.intro (by exact acall_b (acall_hit (c := c29.to) (g, rr q) _ rfl p29) hG) ?_
    refine And.intro (by first | with_reducible assumption | omega | assumption) ?_
    refine And.intro (by first | with_reducible assumption | omega | assumption) ?_
    refine And.intro (by exact acall_hit (c := c30.to) (g, rr q, k) _ rfl p30) ?_
    refine And.intro (by first | with_reducible assumption | omega | assumption) ?_
    refine And.intro (by exact acall_b (acall_hit (c := c31.to) (g, rr q, k, l, rr p) _ rfl p31) hb2) ?_
    refine And.intro (by first | with_reducible assumption | omega | assumption) ?_
    refine And.intro (by exact acall_hit (c := c32.to) (g, rr q, k) _ rfl p32) ?_
    refine And.intro (by exact acall_hit (c := c24.to) (coV (cut g) k, rn (coV (cut g) k), frV (rdW g k), rn (frV (rdW g k))) _ rfl p24) ?_
    refine And.intro (by first | with_reducible assumption | omega | assumption) ?_
    refine And.intro (by exact acall_hit (c := c23.to) () _ rfl trivial) ?_
    first | with_reducible rfl | (refine bleaf_t ?_; omega) | (refine bleaf_f ?_; omega) | (refine ileaf ?_; omega) | rfl | (exfalso; omega)
  · refine body_s ([Ans.o (Orc.val (13 : Nat) (AV.sl (ints (cut g)) (cut g).length (rcl (rr q))) (H.mk [] [] [])), Ans.o (Orc.val (16 : Nat) (AV.sl (ints (cut l)) (cut l).length (rcl (rr p))) (H.mk [] [] [])), Ans.o (Orc.val (17 : Nat) (AV.tup [AV.bool (cdB (cut g) k (cut l)), I (rdE (cut g) k)]) (H.mk [] [] [])), Ans.btold (18 : Nat) true, Ans.o (Orc.val (22 : Nat) (AV.sl (ints (cut g)) (cut g).length (rcl (rr q))) (H.mk [] [] [])), Ans.o (Orc.val (24 : Nat) (AV.tup [AV.sl (ints (coV (cut g) k)) (coV (cut g) k).length (rn (coV (cut g) k)), I (rdE (cut g) k)]) (H.mk [] [] [])), Ans.o (Orc.val (28 : Nat) (AV.bool true) (H.mk [] [] [])), Ans.o (Orc.b false), Ans.o (Orc.b false), Ans.o (Orc.val (58 : Nat) (I (↑(g.length ^ k.toNat) : Int)) (H.mk [] [] [])), Ans.o (Orc.b false), Ans.o (Orc.val (82 : Nat) (AV.bool true) (H.mk [] [] [])), Ans.o (Orc.b true), Ans.o (Orc.val (92 : Nat) (AV.sl (ints (frV (rdW g k))) (frV (rdW g k)).length (rn (frV (rdW g k)))) (H.mk [] [] [])), Ans.o (Orc.val (93 : Nat) (AV.bool true) (H.mk [] [] [])), Ans.o (Orc.b true), Ans.o (Orc.val (100 : Nat) (AV.bool true) (H.mk [] [] []))]) (aCall (Sof [c19.to, c27.to, c28.to, c29.to, c30.to, c31.to, c32.to, c24.to, c23.to]) (AV.fn (Fn.func (19 : Nat)) [] []) [AV.sl (ints g) g.length (rr q)] (H.mk [] [] []) = some (AV.sl (ints (cut g)) (cut g).length (rcl (rr q)), H.mk [] [] []) ∧ aCall (Sof [c19.to, c27.to, c28.to, c29.to, c30.to, c31.to, c32.to, c24.to, c23.to]) (AV.fn (Fn.func (19 : Nat)) [] []) [AV.sl (ints l) l.length (rr p)] (H.mk [] [] []) = some (AV.sl (ints (cut l)) (cut l).length (rcl (rr p)), H.mk [] [] []) ∧ aCall (Sof [c19.to, c27.to, c28.to, c29.to, c30.to, c31.to, c32.to, c24.to, c23.to]) (AV.fn (Fn.func (27 : Nat)) [] []) [AV.sl (ints (cut g)) (cut g).length (rcl (rr q)), I k, AV.sl (ints (cut l)) (cut l).length (rcl (rr p))] (H.mk [] [] []) = some (AV.tup [AV.bool (cdB (cut g) k (cut l)), I (rdE (cut g) k)], H.mk [] [] []) ∧ cdB (cut g) k (cut l) = true ∧ aCall (Sof [c19.to, c27.to, c28.to, c29.to, c30.to, c31.to, c32.to, c24.to, c23.to]) (AV.fn (Fn.func (19 : Nat)) [] []) [AV.sl (ints g) g.length (rr q)] (H.mk [] [] []) = some (AV.sl (ints (cut g)) (cut g).length (rcl (rr q)), H.mk [] [] []) ∧ aCall (Sof [c19.to, c27.to, c28.to, c29.to, c30.to, c31.to, c32.to, c24.to, c23.to]) (AV.fn (Fn.func (28 : Nat)) [] []) [AV.sl (ints (cut g)) (cut g).length (rcl (rr q)), I k] (H.mk [] [] []) = some (AV.tup [AV.sl (ints (coV (cut g) k)) (coV (cut g) k).length (rn (coV (cut g) k)), I (rdE (cut g) k)], H.mk [] [] []) ∧ aCall (Sof [c19.to, c27.to, c28.to, c29.to, c30.to, c31.to, c32.to, c24.to, c23.to]) (AV.fn (Fn.func (29 : Nat)) [] []) [AV.sl (ints g) g.length (rr q)] (H.mk [] [] []) = some (AV.bool true, H.mk [] [] []) ∧ (1 : Int) ≤ k ∧ k ≤ (3 : Int) ∧ aCall (Sof [c19.to, c27.to, c28.to, c29.to, c30.to, c31.to, c32.to, c24.to, c23.to]) (AV.fn (Fn.func (30 : Nat)) [] []) [AV.sl (ints g) g.length (rr q), I k] (H.mk [] [] []) = some (I (↑(g.length ^ k.toNat) : Int), H.mk [] [] []) ∧ (↑(g.length ^ k.toNat) : Int) ≤ (64 : Int) ∧ aCall (Sof [c19.to, c27.to, c28.to, c29.to, c30.to, c31.to, c32.to, c24.to, c23.to]) (AV.fn (Fn.func (31 : Nat)) [] []) [AV.sl (ints g) g.length (rr q), I k, AV.sl (ints l) l.length (rr p)] (H.mk [] [] []) = some (AV.bool true, H.mk [] [] []) ∧ rdE (cut g) k = (0 : Int) ∧ aCall (Sof [c19.to, c27.to, c28.to, c29.to, c30.to, c31.to, c32.to, c24.to, c23.to]) (AV.fn (Fn.func (32 : Nat)) [] []) [AV.sl (ints g) g.length (rr q), I k] (H.mk [] [] []) = some (AV.sl (ints (frV (rdW g k))) (frV (rdW g k)).length (rn (frV (rdW g k))), H.mk [] [] []) ∧ aCall (Sof [c19.to, c27.to, c28.to, c29.to, c30.to, c31.to, c32.to, c24.to, c23.to]) (AV.fn (Fn.func (24 : Nat)) [] []) [AV.sl (ints (coV (cut g) k)) (coV (cut g) k).length (rn (coV (cut g) k)), AV.sl (ints (frV (rdW g k))) (frV (rdW g k)).length (rn (frV (rdW g k)))] (H.mk [] [] []) = some (AV.bool true, H.mk [] [] []) ∧ rdE (cut g) k = (0 : Int) ∧ aCall (Sof [c19.to, c27.to, c28.to, c29.to, c30.to, c31.to, c32.to, c24.to, c23.to]) (AV.fn (Fn.func (23 : Nat)) [] []) [] (H.mk [] [] []) = some (AV.bool true, H.mk [] [] []) ∧ (AV.bool true, H.mk [] [] []) = (AV.bool true, H.mk [] [] [])) (by kernel_rfl) ?_
    refine And.intro (by first | exact acall_hit (c := c19.to) (g, rr q) _ rfl p19 | exact acall_hit (c := c19.to) (l, rr p) _ rfl p19l) ?_
    refine And.intro (by first | exact acall_hit (c := c19.to) (g, rr q) _ rfl p19 | exact acall_hit (c := c19.to) (l, rr p) _ rfl p19l) ?_
    refine And.intro (by exact acall_hit (c := c27.to) (cut g, rcl (rr q), k, cut l, rcl (rr p)) _ rfl p27) ?_
    refine And.intro (by first | with_reducible assumption | omega | assumption) ?_
    refine And.intro (by first | exact acall_hit (c := c19.to) (g, rr q) _ rfl p19 | exact acall_hit (c := c19.to) (l, rr p) _ rfl p19l) ?_
    refine And.intro (by exact acall_hit (c := c28.to) (cut g, rcl (rr q), k) _ rfl p28) ?_
    refine And.intro (by exact acall_b (acall_hit (c := c29.to) (g, rr q) _ rfl p29) hG) ?_
    refine And.intro (by first | with_reducible assumption | omega | assumption) ?_
    refine And.intro (by first | with_reducible assumption | omega | assumption) ?_
    refine And.intro (by exact acall_hit (c := c30.to) (g, rr q, k) _ rfl p30) ?_
    refine And.intro (by first | with_reducible assumption | omega | assumption) ?_
    refine And.intro (by exact acall_b (acall_hit (c := c31.to) (g, rr q, k, l, rr p) _ rfl p31) hb2) ?_
    refine And.intro (by first | with_reducible assumption | omega | assumption) ?_
    refine And.intro (by exact acall_hit (c := c32.to) (g, rr q, k) _ rfl p32) ?_
    refine And.intro (by exact acall_hit (c := c24.to) (coV (cut g) k, rn (coV (cut g) k), frV (rdW g k), rn (frV (rdW g k))) _ rfl p24) ?_
    refine And.intro (by first | with_reducible assumption | omega | assumption) ?_
    refine And.intro (by exact acall_hit (c := c23.to) () _ rfl trivial) ?_
    first | with_reducible rfl | (refine bleaf_t ?_; omega) | (refine bleaf_f ?_; omega) | (refine ileaf ?_; omega) | rfl | (exfalso; omega)
theorem codes_ok (g : List Int) (q : RK) (k : Int) (l : List Int) (p : RK) (h1 : lim g.length) (h2 : q.mt = true → g = []) (h3 : lim l.length) (h4 : p.mt = true → l = []) : CallOk Tryd.prog 4 [ls g (rr q), I k, ls l (rr p)] .nil (.bool true) .nil := by
  rcases rdE_cases (cut g) k with e | e | e
  · exact (r4g g q k l p ⟨h1, h2⟩ ⟨h3, h4⟩ e _ rfl).run ok4 (.pure _ (.pure _ (.pure _ (.pure _ (.pure _ (.pure _ (.pure _ (.pure _ (.pure _ .nil))))))))) rfl
  · exact (r4e g q k l p ⟨h1, h2⟩ ⟨h3, h4⟩ e).run ok4 (.pure _ (.pure _ (.pure _ (.pure _ (.pure _ .nil))))) rfl
  · exact (r4s g q k l p ⟨h1, h2⟩ ⟨h3, h4⟩ e).run ok4 (.pure _ (.pure _ (.pure _ (.pure _ (.pure _ (.pure _ .nil)))))) rfl
end Go.Proofs.Sur
