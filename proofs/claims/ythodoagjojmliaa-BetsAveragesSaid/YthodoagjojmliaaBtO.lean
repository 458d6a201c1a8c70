/- Layer 9: scores and averages, by the program and by the reference. -/
import Derived.Test.YthodoagjojmliaaBtL
import Derived.KernelRfl
set_option linter.unusedSimpArgs false
set_option linter.unusedVariables false
set_option linter.unnecessarySimpa false
set_option maxHeartbeats 4000000
set_option maxRecDepth 100000
namespace Go.Proofs.Bts
open Go Go.VM

theorem sm_sI {l : List Pr} (h : jOK l) : ∀ {j : Nat}, j ≤ l.length → ((sm (fun i => dn l l.length / (l.getD i pair0).2.toNat * (l.getD i pair0).1.toNat) j : Nat) : Int) = sI (ia (nums l)) j
  | 0, _ => rfl
  | j + 1, hj => by
    have h1 := sm_sI h (j := j) (by omega)
    have e2 : ia (nums l) j = nm l j := nmL_get l (by omega)
    obtain ⟨q1, q2, q3⟩ := h.1 j (by omega)
    rw [sm, sI, Int.natCast_add, h1, e2, Int.natCast_mul, nm]
    congr 1
    obtain ⟨d, hd⟩ : ∃ d : Nat, (l.getD j pair0).2 = d := ⟨(l.getD j pair0).2.toNat, by omega⟩
    obtain ⟨n, hn⟩ : ∃ n : Nat, (l.getD j pair0).1 = n := ⟨(l.getD j pair0).1.toNat, by omega⟩
    rw [hd, hn, ← Int.ofNat_tdiv]
    rfl
theorem fcB_b {l : List Pr} (h : fcB l = true) : (rdO l ∧ jOK l) ∧ dn l l.length ≤ 30000 := by
  by_cases hr : rdO l ∧ jOK l
  · refine ⟨hr, ?_⟩
    rw [fcB_t hr, decide_eq_true_eq] at h
    have := lc_fore (d := fun i => (l.getD i pair0).2.toNat) (N := fun i => (l.getD i pair0).1.toNat) (n := l.length) hr.1.1.2
      (fun i hi => by have := (hr.2.1 i hi).1; omega) (fun i hi => by have := hr.1.2 i hi; omega)
      (fun i hi => by
        have := (hr.2.1 i hi).2.2
        exact Int.natCast_inj.1 this)
      (by
        have e := sm_sI hr.2 (Nat.le_refl l.length)
        rw [h] at e
        exact Int.natCast_inj.1 e)
    have e : dn l l.length ≤ 27885 := this
    omega
  · rw [fcB_f hr] at h; cases h
theorem fcB_d {l : List Pr} (h : fcB l = true) : rdA l = nums l ∧ rdD l = (dn l l.length : Nat) := ⟨if_pos (fcB_b h).1, if_pos (fcB_b h).1⟩
abbrev b03 (a : List Int) (D : Int) : Prop := bnI a 30000 ∧ 1 ≤ D ∧ D ≤ 30000
theorem fcB_r {l : List Pr} (h : fcB l = true) : b03 (rdA l) (rdD l) ∧ (rdA l).length = l.length ∧ l.length ≤ 5 ∧ 2 ≤ l.length := by
  obtain ⟨⟨h1, h2⟩, h3⟩ := fcB_b h
  rw [(fcB_d h).1, (fcB_d h).2]
  have := dn_pos h2.1 (j := l.length) (Nat.le_refl _)
  exact ⟨⟨bn_3 h2 h3, by omega, by omega⟩, nmL_len _ _, h1.1.2, h1.1.1⟩
/-- one in a world, nothing else -/
def uv (n k : Nat) : List Int := (List.replicate n i0).set k 1
theorem uv_len (n k : Nat) : (uv n k).length = n := by simp [uv]
theorem uv_get {n k i : Nat} (h : i < n) : ia (uv n k) i = if k = i then 1 else 0 := by
  simp only [uv, ia, List.getD_eq_getElem?_getD, List.getElem?_set, List.length_replicate, List.getElem?_replicate]
  by_cases e : k = i
  · subst e; simp [h]
  · simp [e, h]
theorem uv_b (n k : Nat) : b03 (uv n k) 1 := ⟨fun i hi => by
  rw [uv_len] at hi
  rw [uv_get hi]; split <;> omega, by decide, by decide⟩
theorem pA_03 {a b : List Int} {r q : Room} {D E : Int} (h1 : b03 a D) (h2 : b03 b E) (h5 : a.length ≤ 5) (hl : b.length = a.length) (hr : rok a r) (hq : rok b q) : pA a r D b q E :=
  ⟨⟨⟨⟨⟨by omega, hr⟩, hl, hq⟩, h1.1, h2.1⟩, h5⟩, h1.2, h2.2⟩
/-- the average, where the other forecast may still be written -/
noncomputable def c101v : Ctr Try.prog where
  f := 101
  X := (List Int × Rm × Int) × List Int × Nat × Nat × Int
  args x := [fz x.1.1 x.1.2.1.wk x.1.2.2, .agg [.msl x.2.2.1 0 x.2.2.2.1 x.2.2.2.1 1, I x.2.2.2.2]]
  pre x h := h.blk[x.2.2.1]? = some (ints x.2.1) ∧ x.2.1.length = x.2.2.2.1 ∧ pA x.1.1 x.1.2.1 x.1.2.2 x.2.1 .no x.2.2.2.2
  res x h := (avV x.1.1 x.1.2.2 x.2.1 x.2.2.2.2, h)
  det := by
    rintro ⟨⟨a, r, D⟩, c, b, n, E⟩ ⟨⟨a', r', D'⟩, c', b', n', E'⟩ h e p q
    simp only [List.cons.injEq, and_true, AV.agg.injEq, AV.msl.injEq, AV.int.injEq, true_and] at e
    obtain ⟨e1, ⟨rfl, rfl, _⟩, rfl⟩ := e
    obtain ⟨rfl, rfl⟩ := fz_det (show fz a r.wk D = fz a' r'.wk D' by simpa using e1)
    have h1 := p.1.symm.trans q.1
    simp only [Option.some.injEq] at h1
    have h2 := ints_inj h1
    have h2 : c = c' := h2
    rw [h2]
  ok := by
    rintro ⟨⟨a, r, D⟩, c, b, n, E⟩ h ⟨hb, hn, hp⟩
    try simp only at hb hn hp
    subst hn
    have hc := c101.ok (a, r, D, c, .no, E) hp
    refine ⟨hc.1, ?_⟩
    have hv : View h (.msl b 0 c.length c.length 1) (.sl (ints c) c.length .no) := by
      have := View.msl (h := h) b 0 c.length c.length 1 (ints c) hb (by simp)
      have e : ((ints c).drop 0).take (c.length * 1) = ints c := by rw [List.drop_zero, Nat.mul_one, List.take_of_length_le (by simp)]
      rw [e] at this
      exact this
    exact (hc.2 .nil).view rfl (.cons (.same _ (by simp [AV.bnd, AV.bnds, rm_wk_bnd])) (.cons (.agg _ _ (.cons hv (.cons (.same _ rfl) .nil))) .nil))
theorem c101v_reads : c101v.Reads := ⟨fun _ _ _ => rfl, fun x h zs hp => by
  refine ⟨⟨?_, hp.2⟩, rfl⟩
  have hlt := (List.getElem?_eq_some_iff.1 hp.1).1
  show (h.blk ++ zs)[x.2.2.1]? = _
  rw [List.getElem?_append_left hlt]; exact hp.1⟩
open Classical in
/-- the score -/
noncomputable def scP (l : List Pr) (w : Int) : Pr := if fcB l = true ∧ 0 ≤ w ∧ w < l.length then lw (avN (rdA l) (rdD l) (uv l.length w.toNat) 1) (avD (rdD l) 1) else (0, 0)
open Classical in
noncomputable def scE (l : List Pr) (w : Int) : Int := if fcB l = true ∧ 0 ≤ w ∧ w < l.length then 0 else 2
abbrev frA (p : Pr) : AV := .agg [I p.1, I p.2]
theorem sc_t {l : List Pr} {k : Nat} (h : fcB l = true) (hk : k < l.length) : scP l (k : Nat) = lw (avN (rdA l) (rdD l) (uv l.length k) 1) (avD (rdD l) 1) ∧ scE l (k : Nat) = 0 := by
  have hc : fcB l = true ∧ 0 ≤ (k : Int) ∧ (k : Int) < l.length := ⟨h, by omega, by omega⟩
  unfold scP scE
  rw [if_pos hc, if_pos hc]; exact ⟨rfl, rfl⟩
theorem sc_f {l : List Pr} {w : Int} (h : ¬ (fcB l = true ∧ 0 ≤ w ∧ w < l.length)) : scP l w = (0, 0) ∧ scE l w = 2 := ⟨if_neg h, if_neg h⟩
theorem ok47 : FokM Try.prog none1 47 Try.f47 := ⟨mixed, by kernel_rfl, by kernel_rfl, by kernel_rfl, by kernel_rfl⟩
theorem r47 (l : List Pr) (r : Room) (w : Int) (hp : pM l r.wk) : Body (En6 [c100.to, c101v]) none1 Try.f47 [pz l r.wk, I w] .nil (.tup [frA (scP l w), I (scE l w)], .nil) := by
  have hl5 : l.length ≤ 1000 := hp.1
  by_cases h1 : w < 0
  · rw [(sc_f (l := l) (w := w) (fun q => by omega)).1, (sc_f (l := l) (w := w) (fun q => by omega)).2]
    refine body_s ([Ans.o (Orc.val 11 (AV.tup [AV.agg [AV.sl (ints (rdA l)) (rdA l).length (rn (rdA l)), I (rdD l)], AV.bool (fcB l)]) (H.mk [[I 0, I 0]] [] [])), Ans.bfork (13 : Nat) [Ans.o (Orc.b true)] []]) (aCall (Sof [c100.to, c101v]) (AV.fn (Fn.func (100 : Nat)) [] []) [AV.sl (pairsA l) l.length r.wk] (H.mk [[I 0, I 0]] [] []) = some (AV.tup [AV.agg [AV.sl (ints (rdA l)) (rdA l).length (rn (rdA l)), I (rdD l)], AV.bool (fcB l)], H.mk [[I 0, I 0]] [] []) ∧ (fcB l = true → w < (0 : Int) ∧ (AV.tup [AV.agg [I 0, I 0], I 2], H.mk [] [] []) = (AV.tup [AV.agg [I 0, I 0], I 2], H.mk [] [] [])) ∧ (fcB l = false → (AV.tup [AV.agg [I 0, I 0], I 2], H.mk [] [] []) = (AV.tup [AV.agg [I 0, I 0], I 2], H.mk [] [] []))) (by kernel_rfl) ?_
    refine ⟨acall_hit (c := c100.to) (l, r.wk) _ rfl hp, ?_⟩
    refine And.intro ?_ ?_
    · skip
      intro w0
      refine ⟨by first | with_reducible assumption | omega | assumption, ?_⟩
      rfl
    · skip
      intro w0
      rfl
  obtain ⟨k, rfl⟩ : ∃ k : Nat, w = k := ⟨w.toNat, by omega⟩
  have h1 : (0 : Int) ≤ k := by omega
  by_cases h2 : (k : Int) < l.length
  · have hk : k < l.length := by omega
    have hkr : k < (List.replicate l.length i0).length := by simpa using hk
    have p101 : fcB l = true → pA (rdA l) (rm 0 (rdA l)) (rdD l) (uv l.length k) .no 1 := fun h => by
      obtain ⟨q1, q2, q3, q4⟩ := fcB_r h
      exact pA_03 q1 (uv_b _ _) (by omega) (by rw [uv_len, q2]) (by have := rn_rok (rdA l); simpa [rn] using this) (fun _ => no_ne)
    refine body_s ([Ans.o (Orc.val 11 (AV.tup [AV.agg [AV.sl (ints (rdA l)) (rdA l).length (rn (rdA l)), I (rdD l)], AV.bool (fcB l)]) (H.mk [[I 0, I 0]] [] [])), Ans.bfork (13 : Nat) [Ans.o Orc.dflt, Ans.o (Orc.b false), Ans.o (Orc.val 29 (AV.msl 2 0 l.length l.length (1 : Nat)) (H.mk [[I 0, I 0], [AV.sl (ints (rdA l)) (rdA l).length (rn (rdA l)), I (rdD l)], ints (List.replicate l.length i0)] [] [])), Ans.o (Orc.val 34 (AV.ptr 2 k) H.nil), Ans.o (Orc.val 9999 (AV.tup []) (H.mk [[I 0, I 0], [AV.sl (ints (rdA l)) (rdA l).length (rn (rdA l)), I (rdD l)], ints ((List.replicate l.length i0).set k (1 : Int)), [AV.msl 2 0 l.length l.length (1 : Nat), I 1]] [] [])), Ans.o (Orc.val 37 (AV.agg [I (lwN (avN (rdA l) (rdD l) ((List.replicate l.length i0).set k (1 : Int)) (1 : Int)) (avD (rdD l) (1 : Int))), I (lwD (avN (rdA l) (rdD l) ((List.replicate l.length i0).set k (1 : Int)) (1 : Int)) (avD (rdD l) (1 : Int)))]) (H.mk [[I 0, I 0], [AV.sl (ints (rdA l)) (rdA l).length (rn (rdA l)), I (rdD l)], ints ((List.replicate l.length i0).set k (1 : Int)), [AV.msl 2 0 l.length l.length (1 : Nat), I 1]] [] []))] []]) (aCall (Sof [c100.to, c101v]) (AV.fn (Fn.func (100 : Nat)) [] []) [AV.sl (pairsA l) l.length r.wk] (H.mk [[I 0, I 0]] [] []) = some (AV.tup [AV.agg [AV.sl (ints (rdA l)) (rdA l).length (rn (rdA l)), I (rdD l)], AV.bool (fcB l)], H.mk [[I 0, I 0]] [] []) ∧ (fcB l = true → (↑k : Int) < (↑l.length : Int) ∧ aMake Try.prog (36 : Nat) (↑l.length : Int) (↑l.length : Int) (H.mk [[I 0, I 0], [AV.sl (ints (rdA l)) (rdA l).length (rn (rdA l)), I (rdD l)]] [] []) = some (AV.msl 2 0 l.length l.length (1 : Nat), H.mk [[I 0, I 0], [AV.sl (ints (rdA l)) (rdA l).length (rn (rdA l)), I (rdD l)], ints (List.replicate l.length i0)] [] []) ∧ aIndexAddr Try.prog (36 : Nat) (AV.msl 2 0 l.length l.length (1 : Nat)) (I (↑k : Int)) = some (AV.ptr 2 k) ∧ aStore Try.prog H.nil.base (3 : Nat) (AV.ptr 2 k) (I 1) (H.mk [[I 0, I 0], [AV.sl (ints (rdA l)) (rdA l).length (rn (rdA l)), I (rdD l)], ints (List.replicate l.length i0), [AV.msl 2 0 l.length l.length (1 : Nat), I 1]] [] []) = some (H.mk [[I 0, I 0], [AV.sl (ints (rdA l)) (rdA l).length (rn (rdA l)), I (rdD l)], ints ((List.replicate l.length i0).set k (1 : Int)), [AV.msl 2 0 l.length l.length (1 : Nat), I 1]] [] []) ∧ aCall (Sof [c100.to, c101v]) (AV.fn (Fn.func (101 : Nat)) [] []) [AV.agg [AV.sl (ints (rdA l)) (rdA l).length (rn (rdA l)), I (rdD l)], AV.agg [AV.msl 2 0 l.length l.length (1 : Nat), I 1]] (H.mk [[I 0, I 0], [AV.sl (ints (rdA l)) (rdA l).length (rn (rdA l)), I (rdD l)], ints ((List.replicate l.length i0).set k (1 : Int)), [AV.msl 2 0 l.length l.length (1 : Nat), I 1]] [] []) = some (AV.agg [I (lwN (avN (rdA l) (rdD l) ((List.replicate l.length i0).set k (1 : Int)) (1 : Int)) (avD (rdD l) (1 : Int))), I (lwD (avN (rdA l) (rdD l) ((List.replicate l.length i0).set k (1 : Int)) (1 : Int)) (avD (rdD l) (1 : Int)))], H.mk [[I 0, I 0], [AV.sl (ints (rdA l)) (rdA l).length (rn (rdA l)), I (rdD l)], ints ((List.replicate l.length i0).set k (1 : Int)), [AV.msl 2 0 l.length l.length (1 : Nat), I 1]] [] []) ∧ (AV.tup [AV.agg [I (lwN (avN (rdA l) (rdD l) ((List.replicate l.length i0).set k (1 : Int)) (1 : Int)) (avD (rdD l) (1 : Int))), I (lwD (avN (rdA l) (rdD l) ((List.replicate l.length i0).set k (1 : Int)) (1 : Int)) (avD (rdD l) (1 : Int)))], I 0], H.mk [] [] []) = (AV.tup [AV.agg [I (scP l (↑k : Int)).fst, I (scP l (↑k : Int)).snd], I (scE l (↑k : Int))], H.mk [] [] [])) ∧ (fcB l = false → (AV.tup [AV.agg [I 0, I 0], I 2], H.mk [] [] []) = (AV.tup [AV.agg [I (scP l (↑k : Int)).fst, I (scP l (↑k : Int)).snd], I (scE l (↑k : Int))], H.mk [] [] []))) (by kernel_rfl) ?_
    refine ⟨acall_hit (c := c100.to) (l, r.wk) _ rfl hp, ?_⟩
    refine And.intro ?_ ?_
    · skip
      intro w0
      refine ⟨by first | with_reducible assumption | omega | assumption, ?_⟩
      refine ⟨by first | exact mk_u64s (by kernel_rfl) (by omega) | exact mk_ints (by kernel_rfl) (by omega) | exact mk_bools (by kernel_rfl) (by omega), ?_⟩
      refine ⟨by first | exact ixm0 (by kernel_rfl) (by omega) | exact ixa0 (by kernel_rfl) (by omega), ?_⟩
      refine ⟨st_ints (by kernel_rfl) rfl hkr, ?_⟩
      refine ⟨acall_hit (c := c101v) ((rdA l, rm 0 (rdA l), rdD l), uv l.length k, 2, l.length, 1) _ rfl ⟨rfl, uv_len _ _, p101 (by assumption)⟩, ?_⟩
      first | (rw [(sc_t (by assumption) hk).1, (sc_t (by assumption) hk).2]; rfl) | (rw [(sc_f (l := l) (w := (k : Nat)) (fun q => by simp_all)).1, (sc_f (l := l) (w := (k : Nat)) (fun q => by simp_all)).2])
    · skip
      intro w0
      first | (rw [(sc_t (by assumption) hk).1, (sc_t (by assumption) hk).2]; rfl) | (rw [(sc_f (l := l) (w := (k : Nat)) (fun q => by simp_all)).1, (sc_f (l := l) (w := (k : Nat)) (fun q => by simp_all)).2])
  · have h2 : (l.length : Int) ≤ k := by omega
    rw [(sc_f (l := l) (w := (k : Nat)) (fun q => by omega)).1, (sc_f (l := l) (w := (k : Nat)) (fun q => by omega)).2]
    refine body_s ([Ans.o (Orc.val 11 (AV.tup [AV.agg [AV.sl (ints (rdA l)) (rdA l).length (rn (rdA l)), I (rdD l)], AV.bool (fcB l)]) (H.mk [[I 0, I 0]] [] [])), Ans.bfork (13 : Nat) [Ans.o Orc.dflt, Ans.o (Orc.b true)] []]) (aCall (Sof [c100.to, c101v]) (AV.fn (Fn.func (100 : Nat)) [] []) [AV.sl (pairsA l) l.length r.wk] (H.mk [[I 0, I 0]] [] []) = some (AV.tup [AV.agg [AV.sl (ints (rdA l)) (rdA l).length (rn (rdA l)), I (rdD l)], AV.bool (fcB l)], H.mk [[I 0, I 0]] [] []) ∧ (fcB l = true → (↑l.length : Int) ≤ (↑k : Int) ∧ (AV.tup [AV.agg [I 0, I 0], I 2], H.mk [] [] []) = (AV.tup [AV.agg [I 0, I 0], I 2], H.mk [] [] [])) ∧ (fcB l = false → (AV.tup [AV.agg [I 0, I 0], I 2], H.mk [] [] []) = (AV.tup [AV.agg [I 0, I 0], I 2], H.mk [] [] []))) (by kernel_rfl) ?_
    refine ⟨acall_hit (c := c100.to) (l, r.wk) _ rfl hp, ?_⟩
    refine And.intro ?_ ?_
    · skip
      intro w0
      refine ⟨by first | with_reducible assumption | omega | assumption, ?_⟩
      rfl
    · skip
      intro w0
      rfl
noncomputable def c47 : PCtr Try.prog := sctr ok47 (X := List Pr × Room × Int) (fun x => [pz x.1 x.2.1, I x.2.2]) (fun x => pM x.1 x.2.1) (fun x => .tup [frA (scP x.1 x.2.2), I (scE x.1 x.2.2)])
  (by
    rintro ⟨l, r, w⟩ ⟨m, s, v⟩ e _ _
    simp only [List.cons.injEq, and_true, AV.int.injEq, true_and] at e
    obtain ⟨e1, rfl⟩ := e
    rw [pz_det e1]) (fun x => by simp [AV.bnds, AV.bnd, AV.wk, rm_wk_bnd]) (fun x => rfl)
  (fun x hx => ⟨_, _, _, .pure c100 (.rd _ c101v_reads .nil), r47 x.1 x.2.1 x.2.2 ⟨hx.1, by simpa using hx.2.1, hx.2.2⟩⟩)
open Classical in
/-- the average -/
noncomputable def mnP (l m : List Pr) : Pr := if (fcB l = true ∧ fcB m = true) ∧ l.length = m.length then lw (avN (rdA l) (rdD l) (rdA m) (rdD m)) (avD (rdD l) (rdD m)) else (0, 0)
open Classical in
noncomputable def mnE (l m : List Pr) : Int := if (fcB l = true ∧ fcB m = true) ∧ l.length = m.length then 0 else 2
theorem mn_t {l m : List Pr} (h : fcB l = true) (h' : fcB m = true) (hk : l.length = m.length) : mnP l m = lw (avN (rdA l) (rdD l) (rdA m) (rdD m)) (avD (rdD l) (rdD m)) ∧ mnE l m = 0 := by
  have hc : (fcB l = true ∧ fcB m = true) ∧ l.length = m.length := ⟨⟨h, h'⟩, hk⟩
  unfold mnP mnE
  rw [if_pos hc, if_pos hc]; exact ⟨rfl, rfl⟩
theorem mn_f {l m : List Pr} (h : ¬ ((fcB l = true ∧ fcB m = true) ∧ l.length = m.length)) : mnP l m = (0, 0) ∧ mnE l m = 2 := ⟨if_neg h, if_neg h⟩
theorem ok48 : FokM Try.prog none1 48 Try.f48 := ⟨mixed, by kernel_rfl, by kernel_rfl, by kernel_rfl, by kernel_rfl⟩
theorem r48 (l : List Pr) (r : Room) (m : List Pr) (q : Room) (hp : pM l r.wk) (hq : pM m q.wk) : Body (En6 [c100.to, c101.to]) none1 Try.f48 [pz l r.wk, pz m q.wk] .nil (.tup [frA (mnP l m), I (mnE l m)], .nil) := by
  by_cases h1 : l.length = m.length
  · have h1' : (l.length : Int) = m.length := by omega
    have p101 : fcB l = true → fcB m = true → pA (rdA l) (rm 0 (rdA l)) (rdD l) (rdA m) (rm 0 (rdA m)) (rdD m) := fun h h' => by
      obtain ⟨q1, q2, q3, q4⟩ := fcB_r h
      obtain ⟨s1, s2, s3, s4⟩ := fcB_r h'
      exact pA_03 q1 s1 (by omega) (by omega) (by have := rn_rok (rdA l); simpa [rn] using this) (by have := rn_rok (rdA m); simpa [rn] using this)
    refine body_s ([Ans.o (Orc.val 12 (AV.tup [AV.agg [AV.sl (ints (rdA l)) (rdA l).length (rn (rdA l)), I (rdD l)], AV.bool (fcB l)]) (H.mk [[I 0, I 0]] [] [])), Ans.bfork (14 : Nat) [Ans.o (Orc.val 17 (AV.tup [AV.agg [AV.sl (ints (rdA m)) (rdA m).length (rn (rdA m)), I (rdD m)], AV.bool (fcB m)]) (H.mk [[I 0, I 0], [AV.sl (ints (rdA l)) (rdA l).length (rn (rdA l)), I (rdD l)]] [] [])), Ans.bfork (19 : Nat) [Ans.o (Orc.b false), Ans.o (Orc.val 36 (AV.agg [I (lwN (avN (rdA l) (rdD l) (rdA m) (rdD m)) (avD (rdD l) (rdD m))), I (lwD (avN (rdA l) (rdD l) (rdA m) (rdD m)) (avD (rdD l) (rdD m)))]) (H.mk [[I 0, I 0], [AV.sl (ints (rdA l)) (rdA l).length (rn (rdA l)), I (rdD l)], [AV.sl (ints (rdA m)) (rdA m).length (rn (rdA m)), I (rdD m)]] [] []))] []] [Ans.o (Orc.val 17 (AV.tup [AV.agg [AV.sl (ints (rdA m)) (rdA m).length (rn (rdA m)), I (rdD m)], AV.bool (fcB m)]) (H.mk [[I 0, I 0], [AV.sl (ints (rdA l)) (rdA l).length (rn (rdA l)), I (rdD l)]] [] [])), Ans.bfork (19 : Nat) [] []]]) (aCall (Sof [c100.to, c101.to]) (AV.fn (Fn.func (100 : Nat)) [] []) [AV.sl (pairsA l) l.length r.wk] (H.mk [[I 0, I 0]] [] []) = some (AV.tup [AV.agg [AV.sl (ints (rdA l)) (rdA l).length (rn (rdA l)), I (rdD l)], AV.bool (fcB l)], H.mk [[I 0, I 0]] [] []) ∧ (fcB l = true → aCall (Sof [c100.to, c101.to]) (AV.fn (Fn.func (100 : Nat)) [] []) [AV.sl (pairsA m) m.length q.wk] (H.mk [[I 0, I 0], [AV.sl (ints (rdA l)) (rdA l).length (rn (rdA l)), I (rdD l)]] [] []) = some (AV.tup [AV.agg [AV.sl (ints (rdA m)) (rdA m).length (rn (rdA m)), I (rdD m)], AV.bool (fcB m)], H.mk [[I 0, I 0], [AV.sl (ints (rdA l)) (rdA l).length (rn (rdA l)), I (rdD l)]] [] []) ∧ (fcB m = true → (↑l.length : Int) = (↑m.length : Int) ∧ aCall (Sof [c100.to, c101.to]) (AV.fn (Fn.func (101 : Nat)) [] []) [AV.agg [AV.sl (ints (rdA l)) (rdA l).length (rn (rdA l)), I (rdD l)], AV.agg [AV.sl (ints (rdA m)) (rdA m).length (rn (rdA m)), I (rdD m)]] (H.mk [[I 0, I 0], [AV.sl (ints (rdA l)) (rdA l).length (rn (rdA l)), I (rdD l)], [AV.sl (ints (rdA m)) (rdA m).length (rn (rdA m)), I (rdD m)]] [] []) = some (AV.agg [I (lwN (avN (rdA l) (rdD l) (rdA m) (rdD m)) (avD (rdD l) (rdD m))), I (lwD (avN (rdA l) (rdD l) (rdA m) (rdD m)) (avD (rdD l) (rdD m)))], H.mk [[I 0, I 0], [AV.sl (ints (rdA l)) (rdA l).length (rn (rdA l)), I (rdD l)], [AV.sl (ints (rdA m)) (rdA m).length (rn (rdA m)), I (rdD m)]] [] []) ∧ (AV.tup [AV.agg [I (lwN (avN (rdA l) (rdD l) (rdA m) (rdD m)) (avD (rdD l) (rdD m))), I (lwD (avN (rdA l) (rdD l) (rdA m) (rdD m)) (avD (rdD l) (rdD m)))], I 0], H.mk [] [] []) = (AV.tup [AV.agg [I (mnP l m).fst, I (mnP l m).snd], I (mnE l m)], H.mk [] [] [])) ∧ (fcB m = false → (AV.tup [AV.agg [I 0, I 0], I 2], H.mk [] [] []) = (AV.tup [AV.agg [I (mnP l m).fst, I (mnP l m).snd], I (mnE l m)], H.mk [] [] []))) ∧ (fcB l = false → aCall (Sof [c100.to, c101.to]) (AV.fn (Fn.func (100 : Nat)) [] []) [AV.sl (pairsA m) m.length q.wk] (H.mk [[I 0, I 0], [AV.sl (ints (rdA l)) (rdA l).length (rn (rdA l)), I (rdD l)]] [] []) = some (AV.tup [AV.agg [AV.sl (ints (rdA m)) (rdA m).length (rn (rdA m)), I (rdD m)], AV.bool (fcB m)], H.mk [[I 0, I 0], [AV.sl (ints (rdA l)) (rdA l).length (rn (rdA l)), I (rdD l)]] [] []) ∧ (fcB m = true → (AV.tup [AV.agg [I 0, I 0], I 2], H.mk [] [] []) = (AV.tup [AV.agg [I (mnP l m).fst, I (mnP l m).snd], I (mnE l m)], H.mk [] [] [])) ∧ (fcB m = false → (AV.tup [AV.agg [I 0, I 0], I 2], H.mk [] [] []) = (AV.tup [AV.agg [I (mnP l m).fst, I (mnP l m).snd], I (mnE l m)], H.mk [] [] [])))) (by kernel_rfl) ?_
    refine ⟨by first | exact acall_hit (c := c100.to) (l, r.wk) _ rfl hp | exact acall_hit (c := c100.to) (m, q.wk) _ rfl hq, ?_⟩
    refine And.intro ?_ ?_
    · skip
      intro w0
      refine ⟨by first | exact acall_hit (c := c100.to) (l, r.wk) _ rfl hp | exact acall_hit (c := c100.to) (m, q.wk) _ rfl hq, ?_⟩
      refine And.intro ?_ ?_
      · skip
        intro w1
        refine ⟨by first | with_reducible assumption | omega | assumption, ?_⟩
        refine ⟨acall_hit (c := c101.to) (rdA l, rm 0 (rdA l), rdD l, rdA m, rm 0 (rdA m), rdD m) _ rfl (p101 (by assumption) (by assumption)), ?_⟩
        first | (rw [(mn_t (by assumption) (by assumption) h1).1, (mn_t (by assumption) (by assumption) h1).2]; rfl) | (rw [(mn_t (by assumption) (by assumption) h1).1, (mn_t (by assumption) (by assumption) h1).2]) | (rw [(mn_f (l := l) (m := m) (fun q => by simp_all)).1, (mn_f (l := l) (m := m) (fun q => by simp_all)).2])
      · skip
        intro w1
        first | (rw [(mn_t (by assumption) (by assumption) h1).1, (mn_t (by assumption) (by assumption) h1).2]; rfl) | (rw [(mn_t (by assumption) (by assumption) h1).1, (mn_t (by assumption) (by assumption) h1).2]) | (rw [(mn_f (l := l) (m := m) (fun q => by simp_all)).1, (mn_f (l := l) (m := m) (fun q => by simp_all)).2])
    · skip
      intro w0
      refine ⟨by first | exact acall_hit (c := c100.to) (l, r.wk) _ rfl hp | exact acall_hit (c := c100.to) (m, q.wk) _ rfl hq, ?_⟩
      refine And.intro ?_ ?_
      · skip
        intro w1
        first | (rw [(mn_t (by assumption) (by assumption) h1).1, (mn_t (by assumption) (by assumption) h1).2]; rfl) | (rw [(mn_t (by assumption) (by assumption) h1).1, (mn_t (by assumption) (by assumption) h1).2]) | (rw [(mn_f (l := l) (m := m) (fun q => by simp_all)).1, (mn_f (l := l) (m := m) (fun q => by simp_all)).2])
      · skip
        intro w1
        first | (rw [(mn_t (by assumption) (by assumption) h1).1, (mn_t (by assumption) (by assumption) h1).2]; rfl) | (rw [(mn_t (by assumption) (by assumption) h1).1, (mn_t (by assumption) (by assumption) h1).2]) | (rw [(mn_f (l := l) (m := m) (fun q => by simp_all)).1, (mn_f (l := l) (m := m) (fun q => by simp_all)).2])
  · have h1' : (l.length : Int) ≠ m.length := by omega
    rw [(mn_f (l := l) (m := m) (fun q => h1 q.2)).1, (mn_f (l := l) (m := m) (fun q => h1 q.2)).2]
    refine body_s ([Ans.o (Orc.val 12 (AV.tup [AV.agg [AV.sl (ints (rdA l)) (rdA l).length (rn (rdA l)), I (rdD l)], AV.bool (fcB l)]) (H.mk [[I 0, I 0]] [] [])), Ans.bfork (14 : Nat) [Ans.o (Orc.val 17 (AV.tup [AV.agg [AV.sl (ints (rdA m)) (rdA m).length (rn (rdA m)), I (rdD m)], AV.bool (fcB m)]) (H.mk [[I 0, I 0], [AV.sl (ints (rdA l)) (rdA l).length (rn (rdA l)), I (rdD l)]] [] [])), Ans.bfork (19 : Nat) [Ans.o (Orc.b true)] []] [Ans.o (Orc.val 17 (AV.tup [AV.agg [AV.sl (ints (rdA m)) (rdA m).length (rn (rdA m)), I (rdD m)], AV.bool (fcB m)]) (H.mk [[I 0, I 0], [AV.sl (ints (rdA l)) (rdA l).length (rn (rdA l)), I (rdD l)]] [] [])), Ans.bfork (19 : Nat) [] []]]) (aCall (Sof [c100.to, c101.to]) (AV.fn (Fn.func (100 : Nat)) [] []) [AV.sl (pairsA l) l.length r.wk] (H.mk [[I 0, I 0]] [] []) = some (AV.tup [AV.agg [AV.sl (ints (rdA l)) (rdA l).length (rn (rdA l)), I (rdD l)], AV.bool (fcB l)], H.mk [[I 0, I 0]] [] []) ∧ (fcB l = true → aCall (Sof [c100.to, c101.to]) (AV.fn (Fn.func (100 : Nat)) [] []) [AV.sl (pairsA m) m.length q.wk] (H.mk [[I 0, I 0], [AV.sl (ints (rdA l)) (rdA l).length (rn (rdA l)), I (rdD l)]] [] []) = some (AV.tup [AV.agg [AV.sl (ints (rdA m)) (rdA m).length (rn (rdA m)), I (rdD m)], AV.bool (fcB m)], H.mk [[I 0, I 0], [AV.sl (ints (rdA l)) (rdA l).length (rn (rdA l)), I (rdD l)]] [] []) ∧ (fcB m = true → (↑l.length : Int) ≠ (↑m.length : Int) ∧ (AV.tup [AV.agg [I 0, I 0], I 2], H.mk [] [] []) = (AV.tup [AV.agg [I 0, I 0], I 2], H.mk [] [] [])) ∧ (fcB m = false → (AV.tup [AV.agg [I 0, I 0], I 2], H.mk [] [] []) = (AV.tup [AV.agg [I 0, I 0], I 2], H.mk [] [] []))) ∧ (fcB l = false → aCall (Sof [c100.to, c101.to]) (AV.fn (Fn.func (100 : Nat)) [] []) [AV.sl (pairsA m) m.length q.wk] (H.mk [[I 0, I 0], [AV.sl (ints (rdA l)) (rdA l).length (rn (rdA l)), I (rdD l)]] [] []) = some (AV.tup [AV.agg [AV.sl (ints (rdA m)) (rdA m).length (rn (rdA m)), I (rdD m)], AV.bool (fcB m)], H.mk [[I 0, I 0], [AV.sl (ints (rdA l)) (rdA l).length (rn (rdA l)), I (rdD l)]] [] []) ∧ (fcB m = true → (AV.tup [AV.agg [I 0, I 0], I 2], H.mk [] [] []) = (AV.tup [AV.agg [I 0, I 0], I 2], H.mk [] [] [])) ∧ (fcB m = false → (AV.tup [AV.agg [I 0, I 0], I 2], H.mk [] [] []) = (AV.tup [AV.agg [I 0, I 0], I 2], H.mk [] [] [])))) (by kernel_rfl) ?_
    refine ⟨by first | exact acall_hit (c := c100.to) (l, r.wk) _ rfl hp | exact acall_hit (c := c100.to) (m, q.wk) _ rfl hq, ?_⟩
    refine And.intro ?_ ?_
    · skip
      intro w0
      refine ⟨by first | exact acall_hit (c := c100.to) (l, r.wk) _ rfl hp | exact acall_hit (c := c100.to) (m, q.wk) _ rfl hq, ?_⟩
      refine And.intro ?_ ?_
      · skip
        intro w1
        refine ⟨by first | with_reducible assumption | omega | assumption, ?_⟩
        rfl
      · skip
        intro w1
        rfl
    · skip
      intro w0
      refine ⟨by first | exact acall_hit (c := c100.to) (l, r.wk) _ rfl hp | exact acall_hit (c := c100.to) (m, q.wk) _ rfl hq, ?_⟩
      refine And.intro ?_ ?_
      · skip
        intro w1
        rfl
      · skip
        intro w1
        rfl
noncomputable def c48 : PCtr Try.prog := sctr ok48 (X := (List Pr × Room) × List Pr × Room) (fun x => [pz x.1.1 x.1.2, pz x.2.1 x.2.2]) (fun x => pM x.1.1 x.1.2 ∧ pM x.2.1 x.2.2) (fun x => .tup [frA (mnP x.1.1 x.2.1), I (mnE x.1.1 x.2.1)])
  (by
    rintro ⟨⟨l, r⟩, m, s⟩ ⟨⟨l', r'⟩, m', s'⟩ e _ _
    simp only [List.cons.injEq, and_true] at e
    simp only [pz_det e.1, pz_det e.2]) (fun x => by simp [AV.bnds, AV.bnd, AV.wk, rm_wk_bnd]) (fun x => rfl)
  (fun x hx => ⟨_, _, _, .pure c100 (.pure c101 .nil), r48 x.1.1 x.1.2 x.2.1 x.2.2 ⟨hx.1.1, by simpa using hx.1.2.1, hx.1.2.2⟩ ⟨hx.2.1, by simpa using hx.2.2.1, hx.2.2.2⟩⟩)
end Go.Proofs.Bts

