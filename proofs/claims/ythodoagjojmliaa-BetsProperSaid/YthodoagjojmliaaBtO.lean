/- Layer 9: scores and averages, by the program and by the reference. -/
import Derived.Test.YthodoagjojmliaaBtL
import Derived.KernelRfl
set_option linter.unusedSimpArgs false
set_option linter.unusedVariables false
set_option linter.unnecessarySimpa false
set_option maxHeartbeats 4000000
set_option maxRecDepth 100000
namespace Go.Proofs.Bts
open Go Go.VM

theorem sm_sI {l : List Pr} (h : jOK l) : ∀ {j : Nat}, j ≤ l.length → ((sm (fun i => dn l l.length / (l.getD i pair0).2.toNat * (l.getD i pair0).1.toNat) j : Nat) : Int) = sI (ia (nums l)) j
  | 0, _ => rfl
  | j + 1, hj => by
    have h1 := sm_sI h (j := j) (by omega)
    have e2 : ia (nums l) j = nm l j := nmL_get l (by omega)
    obtain ⟨q1, q2, q3⟩ := h.1 j (by omega)
    rw [sm, sI, Int.natCast_add, h1, e2, Int.natCast_mul, nm]
    congr 1
    obtain ⟨d, hd⟩ : ∃ d : Nat, (l.getD j pair0).2 = d := ⟨(l.getD j pair0).2.toNat, by omega⟩
    obtain ⟨n, hn⟩ : ∃ n : Nat, (l.getD j pair0).1 = n := ⟨(l.getD j pair0).1.toNat, by omega⟩
    rw [hd, hn, ← Int.ofNat_tdiv]
    rfl
theorem fcB_b {l : List Pr} (h : fcB l = true) : (rdO l ∧ jOK l) ∧ dn l l.length ≤ 30000 := by
  by_cases hr : rdO l ∧ jOK l
  · refine ⟨hr, ?_⟩
    rw [fcB_t hr, decide_eq_true_eq] at h
    have := lc_fore (d := fun i => (l.getD i pair0).2.toNat) (N := fun i => (l.getD i pair0).1.toNat) (n := l.length) hr.1.1.2
      (fun i hi => by have := (hr.2.1 i hi).1; omega) (fun i hi => by have := hr.1.2 i hi; omega)
      (fun i hi => by
        have := (hr.2.1 i hi).2.2
        exact Int.natCast_inj.1 this)
      (by
        have e := sm_sI hr.2 (Nat.le_refl l.length)
        rw [h] at e
        exact Int.natCast_inj.1 e)
    have e : dn l l.length ≤ 27885 := this
    omega
  · rw [fcB_f hr] at h; cases h
theorem fcB_d {l : List Pr} (h : fcB l = true) : rdA l = nums l ∧ rdD l = (dn l l.length : Nat) := ⟨if_pos (fcB_b h).1, if_pos (fcB_b h).1⟩
abbrev b03 (a : List Int) (D : Int) : Prop := bnI a 30000 ∧ 1 ≤ D ∧ D ≤ 30000
theorem fcB_r {l : List Pr} (h : fcB l = true) : b03 (rdA l) (rdD l) ∧ (rdA l).length = l.length ∧ l.length ≤ 5 ∧ 2 ≤ l.length := by
  obtain ⟨⟨h1, h2⟩, h3⟩ := fcB_b h
  rw [(fcB_d h).1, (fcB_d h).2]
  have := dn_pos h2.1 (j := l.length) (Nat.le_refl _)
  exact ⟨⟨bn_3 h2 h3, by omega, by omega⟩, nmL_len _ _, h1.1.2, h1.1.1⟩
/-- one in a world, nothing else -/
def uv (n k : Nat) : List Int := (List.replicate n i0).set k 1
theorem pA_03 {a b : List Int} {r q : Room} {D E : Int} (h1 : b03 a D) (h2 : b03 b E) (h5 : a.length ≤ 5) (hl : b.length = a.length) (hr : rok a r) (hq : rok b q) : pA a r D b q E :=
  ⟨⟨⟨⟨⟨by omega, hr⟩, hl, hq⟩, h1.1, h2.1⟩, h5⟩, h1.2, h2.2⟩
open Classical in
/-- the score -/
noncomputable def scP (l : List Pr) (w : Int) : Pr := if fcB l = true ∧ 0 ≤ w ∧ w < l.length then lw (avN (rdA l) (rdD l) (uv l.length w.toNat) 1) (avD (rdD l) 1) else (0, 0)
abbrev frA (p : Pr) : AV := .agg [I p.1, I p.2]
open Classical in
/-- the average -/
noncomputable def mnP (l m : List Pr) : Pr := if (fcB l = true ∧ fcB m = true) ∧ l.length = m.length then lw (avN (rdA l) (rdD l) (rdA m) (rdD m)) (avD (rdD l) (rdD m)) else (0, 0)
open Classical in
noncomputable def mnE (l m : List Pr) : Int := if (fcB l = true ∧ fcB m = true) ∧ l.length = m.length then 0 else 2
theorem mn_t {l m : List Pr} (h : fcB l = true) (h' : fcB m = true) (hk : l.length = m.length) : mnP l m = lw (avN (rdA l) (rdD l) (rdA m) (rdD m)) (avD (rdD l) (rdD m)) ∧ mnE l m = 0 := by
  have hc : (fcB l = true ∧ fcB m = true) ∧ l.length = m.length := ⟨⟨h, h'⟩, hk⟩
  unfold mnP mnE
  rw [if_pos hc, if_pos hc]; exact ⟨rfl, rfl⟩
theorem mn_f {l m : List Pr} (h : ¬ ((fcB l = true ∧ fcB m = true) ∧ l.length = m.length)) : mnP l m = (0, 0) ∧ mnE l m = 2 := ⟨if_neg h, if_neg h⟩
theorem ok48 : FokM Try.prog none1 48 Try.f48 := ⟨mixed, by kernel_rfl, by kernel_rfl, by kernel_rfl, by kernel_rfl⟩
theorem r48 (l : List Pr) (r : Room) (m : List Pr) (q : Room) (hp : pM l r.wk) (hq : pM m q.wk) : Body (En6 [c100.to, c101.to]) none1 Try.f48 [pz l r.wk, pz m q.wk] .nil (.tup [frA (mnP l m), I (mnE l m)], .nil) := by
  by_cases h1 : l.length = m.length
  · have h1' : (l.length : Int) = m.length := by omega
    have p101 : fcB l = true → fcB m = true → pA (rdA l) (rm 0 (rdA l)) (rdD l) (rdA m) (rm 0 (rdA m)) (rdD m) := fun h h' => by
      obtain ⟨q1, q2, q3, q4⟩ := fcB_r h
      obtain ⟨s1, s2, s3, s4⟩ := fcB_r h'
      exact pA_03 q1 s1 (by omega) (by omega) (by have := rn_rok (rdA l); simpa [rn] using this) (by have := rn_rok (rdA m); simpa [rn] using this)
    refine body_s ([Ans.o (Orc.val 12 (AV.tup [AV.agg [AV.sl (ints (rdA l)) (rdA l).length (rn (rdA l)), I (rdD l)], AV.bool (fcB l)]) (H.mk [[I 0, I 0]] [] [])), Ans.bfork (14 : Nat) [Ans.o (Orc.val 17 (AV.tup [AV.agg [AV.sl (ints (rdA m)) (rdA m).length (rn (rdA m)), I (rdD m)], AV.bool (fcB m)]) (H.mk [[I 0, I 0], [AV.sl (ints (rdA l)) (rdA l).length (rn (rdA l)), I (rdD l)]] [] [])), Ans.bfork (19 : Nat) [Ans.o (Orc.b false), Ans.o (Orc.val 36 (AV.agg [I (lwN (avN (rdA l) (rdD l) (rdA m) (rdD m)) (avD (rdD l) (rdD m))), I (lwD (avN (rdA l) (rdD l) (rdA m) (rdD m)) (avD (rdD l) (rdD m)))]) (H.mk [[I 0, I 0], [AV.sl (ints (rdA l)) (rdA l).length (rn (rdA l)), I (rdD l)], [AV.sl (ints (rdA m)) (rdA m).length (rn (rdA m)), I (rdD m)]] [] []))] []] [Ans.o (Orc.val 17 (AV.tup [AV.agg [AV.sl (ints (rdA m)) (rdA m).length (rn (rdA m)), I (rdD m)], AV.bool (fcB m)]) (H.mk [[I 0, I 0], [AV.sl (ints (rdA l)) (rdA l).length (rn (rdA l)), I (rdD l)]] [] [])), Ans.bfork (19 : Nat) [] []]]) (aCall (Sof [c100.to, c101.to]) (AV.fn (Fn.func (100 : Nat)) [] []) [AV.sl (pairsA l) l.length r.wk] (H.mk [[I 0, I 0]] [] []) = some (AV.tup [AV.agg [AV.sl (ints (rdA l)) (rdA l).length (rn (rdA l)), I (rdD l)], AV.bool (fcB l)], H.mk [[I 0, I 0]] [] []) ∧ (fcB l = true → aCall (Sof [c100.to, c101.to]) (AV.fn (Fn.func (100 : Nat)) [] []) [AV.sl (pairsA m) m.length q.wk] (H.mk [[I 0, I 0], [AV.sl (ints (rdA l)) (rdA l).length (rn (rdA l)), I (rdD l)]] [] []) = some (AV.tup [AV.agg [AV.sl (ints (rdA m)) (rdA m).length (rn (rdA m)), I (rdD m)], AV.bool (fcB m)], H.mk [[I 0, I 0], [AV.sl (ints (rdA l)) (rdA l).length (rn (rdA l)), I (rdD l)]] [] []) ∧ (fcB m = true → (↑l.length : Int) = (↑m.length : Int) ∧ aCall (Sof [c100.to, c101.to]) (AV.fn (Fn.func (101 : Nat)) [] []) [AV.agg [AV.sl (ints (rdA l)) (rdA l).length (rn (rdA l)), I (rdD l)], AV.agg [AV.sl (ints (rdA m)) (rdA m).length (rn (rdA m)), I (rdD m)]] (H.mk [[I 0, I 0], [AV.sl (ints (rdA l)) (rdA l).length (rn (rdA l)), I (rdD l)], [AV.sl (ints (rdA m)) (rdA m).length (rn (rdA m)), I (rdD m)]] [] []) = some (AV.agg [I (lwN (avN (rdA l) (rdD l) (rdA m) (rdD m)) (avD (rdD l) (rdD m))), I (lwD (avN (rdA l) (rdD l) (rdA m) (rdD m)) (avD (rdD l) (rdD m)))], H.mk [[I 0, I 0], [AV.sl (ints (rdA l)) (rdA l).length (rn (rdA l)), I (rdD l)], [AV.sl (ints (rdA m)) (rdA m).length (rn (rdA m)), I (rdD m)]] [] []) ∧ (AV.tup [AV.agg [I (lwN (avN (rdA l) (rdD l) (rdA m) (rdD m)) (avD (rdD l) (rdD m))), I (lwD (avN (rdA l) (rdD l) (rdA m) (rdD m)) (avD (rdD l) (rdD m)))], I 0], H.mk [] [] []) = (AV.tup [AV.agg [I (mnP l m).fst, I (mnP l m).snd], I (mnE l m)], H.mk [] [] [])) ∧ (fcB m = false → (AV.tup [AV.agg [I 0, I 0], I 2], H.mk [] [] []) = (AV.tup [AV.agg [I (mnP l m).fst, I (mnP l m).snd], I (mnE l m)], H.mk [] [] []))) ∧ (fcB l = false → aCall (Sof [c100.to, c101.to]) (AV.fn (Fn.func (100 : Nat)) [] []) [AV.sl (pairsA m) m.length q.wk] (H.mk [[I 0, I 0], [AV.sl (ints (rdA l)) (rdA l).length (rn (rdA l)), I (rdD l)]] [] []) = some (AV.tup [AV.agg [AV.sl (ints (rdA m)) (rdA m).length (rn (rdA m)), I (rdD m)], AV.bool (fcB m)], H.mk [[I 0, I 0], [AV.sl (ints (rdA l)) (rdA l).length (rn (rdA l)), I (rdD l)]] [] []) ∧ (fcB m = true → (AV.tup [AV.agg [I 0, I 0], I 2], H.mk [] [] []) = (AV.tup [AV.agg [I (mnP l m).fst, I (mnP l m).snd], I (mnE l m)], H.mk [] [] [])) ∧ (fcB m = false → (AV.tup [AV.agg [I 0, I 0], I 2], H.mk [] [] []) = (AV.tup [AV.agg [I (mnP l m).fst, I (mnP l m).snd], I (mnE l m)], H.mk [] [] [])))) (by kernel_rfl) ?_
    refine ⟨by first | exact acall_hit (c := c100.to) (l, r.wk) _ rfl hp | exact acall_hit (c := c100.to) (m, q.wk) _ rfl hq, ?_⟩
    refine And.intro ?_ ?_
    · skip
      intro w0
      refine ⟨by first | exact acall_hit (c := c100.to) (l, r.wk) _ rfl hp | exact acall_hit (c := c100.to) (m, q.wk) _ rfl hq, ?_⟩
      refine And.intro ?_ ?_
      · skip
        intro w1
        refine ⟨by first | with_reducible assumption | omega | assumption, ?_⟩
        refine ⟨acall_hit (c := c101.to) (rdA l, rm 0 (rdA l), rdD l, rdA m, rm 0 (rdA m), rdD m) _ rfl (p101 (by assumption) (by assumption)), ?_⟩
        first | (rw [(mn_t (by assumption) (by assumption) h1).1, (mn_t (by assumption) (by assumption) h1).2]; rfl) | (rw [(mn_t (by assumption) (by assumption) h1).1, (mn_t (by assumption) (by assumption) h1).2]) | (rw [(mn_f (l := l) (m := m) (fun q => by simp_all)).1, (mn_f (l := l) (m := m) (fun q => by simp_all)).2])
      · skip
        intro w1
        first | (rw [(mn_t (by assumption) (by assumption) h1).1, (mn_t (by assumption) (by assumption) h1).2]; rfl) | (rw [(mn_t (by assumption) (by assumption) h1).1, (mn_t (by assumption) (by assumption) h1).2]) | (rw [(mn_f (l := l) (m := m) (fun q => by simp_all)).1, (mn_f (l := l) (m := m) (fun q => by simp_all)).2])
    · skip
      intro w0
      refine ⟨by first | exact acall_hit (c := c100.to) (l, r.wk) _ rfl hp | exact acall_hit (c := c100.to) (m, q.wk) _ rfl hq, ?_⟩
      refine And.intro ?_ ?_
      · skip
        intro w1
        first | (rw [(mn_t (by assumption) (by assumption) h1).1, (mn_t (by assumption) (by assumption) h1).2]; rfl) | (rw [(mn_t (by assumption) (by assumption) h1).1, (mn_t (by assumption) (by assumption) h1).2]) | (rw [(mn_f (l := l) (m := m) (fun q => by simp_all)).1, (mn_f (l := l) (m := m) (fun q => by simp_all)).2])
      · skip
        intro w1
        first | (rw [(mn_t (by assumption) (by assumption) h1).1, (mn_t (by assumption) (by assumption) h1).2]; rfl) | (rw [(mn_t (by assumption) (by assumption) h1).1, (mn_t (by assumption) (by assumption) h1).2]) | (rw [(mn_f (l := l) (m := m) (fun q => by simp_all)).1, (mn_f (l := l) (m := m) (fun q => by simp_all)).2])
  · have h1' : (l.length : Int) ≠ m.length := by omega
    rw [(mn_f (l := l) (m := m) (fun q => h1 q.2)).1, (mn_f (l := l) (m := m) (fun q => h1 q.2)).2]
    refine body_s ([Ans.o (Orc.val 12 (AV.tup [AV.agg [AV.sl (ints (rdA l)) (rdA l).length (rn (rdA l)), I (rdD l)], AV.bool (fcB l)]) (H.mk [[I 0, I 0]] [] [])), Ans.bfork (14 : Nat) [Ans.o (Orc.val 17 (AV.tup [AV.agg [AV.sl (ints (rdA m)) (rdA m).length (rn (rdA m)), I (rdD m)], AV.bool (fcB m)]) (H.mk [[I 0, I 0], [AV.sl (ints (rdA l)) (rdA l).length (rn (rdA l)), I (rdD l)]] [] [])), Ans.bfork (19 : Nat) [Ans.o (Orc.b true)] []] [Ans.o (Orc.val 17 (AV.tup [AV.agg [AV.sl (ints (rdA m)) (rdA m).length (rn (rdA m)), I (rdD m)], AV.bool (fcB m)]) (H.mk [[I 0, I 0], [AV.sl (ints (rdA l)) (rdA l).length (rn (rdA l)), I (rdD l)]] [] [])), Ans.bfork (19 : Nat) [] []]]) (aCall (Sof [c100.to, c101.to]) (AV.fn (Fn.func (100 : Nat)) [] []) [AV.sl (pairsA l) l.length r.wk] (H.mk [[I 0, I 0]] [] []) = some (AV.tup [AV.agg [AV.sl (ints (rdA l)) (rdA l).length (rn (rdA l)), I (rdD l)], AV.bool (fcB l)], H.mk [[I 0, I 0]] [] []) ∧ (fcB l = true → aCall (Sof [c100.to, c101.to]) (AV.fn (Fn.func (100 : Nat)) [] []) [AV.sl (pairsA m) m.length q.wk] (H.mk [[I 0, I 0], [AV.sl (ints (rdA l)) (rdA l).length (rn (rdA l)), I (rdD l)]] [] []) = some (AV.tup [AV.agg [AV.sl (ints (rdA m)) (rdA m).length (rn (rdA m)), I (rdD m)], AV.bool (fcB m)], H.mk [[I 0, I 0], [AV.sl (ints (rdA l)) (rdA l).length (rn (rdA l)), I (rdD l)]] [] []) ∧ (fcB m = true → (↑l.length : Int) ≠ (↑m.length : Int) ∧ (AV.tup [AV.agg [I 0, I 0], I 2], H.mk [] [] []) = (AV.tup [AV.agg [I 0, I 0], I 2], H.mk [] [] [])) ∧ (fcB m = false → (AV.tup [AV.agg [I 0, I 0], I 2], H.mk [] [] []) = (AV.tup [AV.agg [I 0, I 0], I 2], H.mk [] [] []))) ∧ (fcB l = false → aCall (Sof [c100.to, c101.to]) (AV.fn (Fn.func (100 : Nat)) [] []) [AV.sl (pairsA m) m.length q.wk] (H.mk [[I 0, I 0], [AV.sl (ints (rdA l)) (rdA l).length (rn (rdA l)), I (rdD l)]] [] []) = some (AV.tup [AV.agg [AV.sl (ints (rdA m)) (rdA m).length (rn (rdA m)), I (rdD m)], AV.bool (fcB m)], H.mk [[I 0, I 0], [AV.sl (ints (rdA l)) (rdA l).length (rn (rdA l)), I (rdD l)]] [] []) ∧ (fcB m = true → (AV.tup [AV.agg [I 0, I 0], I 2], H.mk [] [] []) = (AV.tup [AV.agg [I 0, I 0], I 2], H.mk [] [] [])) ∧ (fcB m = false → (AV.tup [AV.agg [I 0, I 0], I 2], H.mk [] [] []) = (AV.tup [AV.agg [I 0, I 0], I 2], H.mk [] [] [])))) (by kernel_rfl) ?_
    refine ⟨by first | exact acall_hit (c := c100.to) (l, r.wk) _ rfl hp | exact acall_hit (c := c100.to) (m, q.wk) _ rfl hq, ?_⟩
    refine And.intro ?_ ?_
    · skip
      intro w0
      refine ⟨by first | exact acall_hit (c := c100.to) (l, r.wk) _ rfl hp | exact acall_hit (c := c100.to) (m, q.wk) _ rfl hq, ?_⟩
      refine And.intro ?_ ?_
      · skip
        intro w1
        refine ⟨by first | with_reducible assumption | omega | assumption, ?_⟩
        rfl
      · skip
        intro w1
        rfl
    · skip
      intro w0
      refine ⟨by first | exact acall_hit (c := c100.to) (l, r.wk) _ rfl hp | exact acall_hit (c := c100.to) (m, q.wk) _ rfl hq, ?_⟩
      refine And.intro ?_ ?_
      · skip
        intro w1
        rfl
      · skip
        intro w1
        rfl
noncomputable def c48 : PCtr Try.prog := sctr ok48 (X := (List Pr × Room) × List Pr × Room) (fun x => [pz x.1.1 x.1.2, pz x.2.1 x.2.2]) (fun x => pM x.1.1 x.1.2 ∧ pM x.2.1 x.2.2) (fun x => .tup [frA (mnP x.1.1 x.2.1), I (mnE x.1.1 x.2.1)])
  (by
    rintro ⟨⟨l, r⟩, m, s⟩ ⟨⟨l', r'⟩, m', s'⟩ e _ _
    simp only [List.cons.injEq, and_true] at e
    simp only [pz_det e.1, pz_det e.2]) (fun x => by simp [AV.bnds, AV.bnd, AV.wk, rm_wk_bnd]) (fun x => rfl)
  (fun x hx => ⟨_, _, _, .pure c100 (.pure c101 .nil), r48 x.1.1 x.1.2 x.2.1 x.2.2 ⟨hx.1.1, by simpa using hx.1.2.1, hx.1.2.2⟩ ⟨hx.2.1, by simpa using hx.2.2.1, hx.2.2.2⟩⟩)
end Go.Proofs.Bts

