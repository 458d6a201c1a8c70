/- Layer 5: codes of a graph, and graphs of pairs. -/
import Derived.Test.YtlomlnkafakloaaDoorSuG
import Derived.KernelRfl
set_option linter.unusedSimpArgs false
set_option linter.unusedVariables false
set_option linter.unnecessarySimpa false
set_option maxHeartbeats 4000000
set_option maxRecDepth 100000
namespace Go.Proofs.Sur
open Go Go.VM

theorem rd_ok {g : List Int} {k : Int} (h : rdE g k = 0) : Gr g ∧ (1 ≤ k ∧ k ≤ 3) ∧ rdF g (k - 1).toNat (nrV g) = some (rdW g k) ∧ gdW (rdW g k) := by
  by_cases hc : grB g = true ∧ 1 ≤ k ∧ k ≤ 3
  · have hg := grB_iff.1 hc.1
    cases hF : rdF g (k - 1).toNat (nrV g) with
    | none => rw [(rd_none hc hF).1] at h; cases h
    | some w =>
      rw [(rd_some hc hF).2]
      exact ⟨hg, hc.2, rfl, rdF_gd hg _ _ _ (nrV_gd hg) hF⟩
  · rw [(rd_bad hc).1] at h; cases h
noncomputable def coV (g : List Int) (k : Int) : List Int := if rdE g k = 0 then frV (rdW g k) else []
theorem ok28g : FokM Tryd.prog none1 28 Tryd.f28 := ⟨mixed, by kernel_rfl, by kernel_rfl, by kernel_rfl, by kernel_rfl⟩
theorem r28g (g : List Int) (r : Room) (k : Int) (hp : (lim g.length ∧ rok g r) ∧ rdE g k = 0) : Body ⟨Tryd.prog, Sof (P := Tryd.prog) [c62.to, c64.to], Pof (P := Tryd.prog) [], H.nil.base, 300⟩ none1 Tryd.f28 [ls g r, I k] .nil (.tup [ls (frV (rdW g k)) (rn (frV (rdW g k))), I 0], .nil) := by
  obtain ⟨p62, hE⟩ := hp
  obtain ⟨_, _, _, hw⟩ := rd_ok hE
  have p64 : rok (rdW g k) (rn (rdW g k)) ∧ rfx (rdW g k) := ⟨rn_rok _, hw.2.2⟩
  refine body_s ([Ans.o (Orc.val 11 (AV.tup [AV.sl (u64s (rdW g k)) (rdW g k).length (rn (rdW g k)), I (rdE g k)]) (H.mk [] [] [])), Ans.o (Orc.b false), Ans.o (Orc.val 18 (AV.sl (ints (frV (rdW g k))) (frV (rdW g k)).length (rn (frV (rdW g k)))) (H.mk [] [] []))]) (aCall (Sof [c62.to, c64.to]) (AV.fn (Fn.func (62 : Nat)) [] []) [AV.sl (ints g) g.length r, I k] (H.mk [] [] []) = some (AV.tup [AV.sl (u64s (rdW g k)) (rdW g k).length (rn (rdW g k)), I (rdE g k)], H.mk [] [] []) ∧ rdE g k = (0 : Int) ∧ aCall (Sof [c62.to, c64.to]) (AV.fn (Fn.func (64 : Nat)) [] []) [AV.sl (u64s (rdW g k)) (rdW g k).length (rn (rdW g k))] (H.mk [] [] []) = some (AV.sl (ints (frV (rdW g k))) (frV (rdW g k)).length (rn (frV (rdW g k))), H.mk [] [] []) ∧ leave (Base.mk H.nil.blk.length H.nil.toks.length H.nil.maps.length) (AV.tup [AV.sl (ints (frV (rdW g k))) (frV (rdW g k)).length (rn (frV (rdW g k))), I 0]) (H.mk [] [] []) = (AV.tup [AV.sl (ints (frV (rdW g k))) (frV (rdW g k)).length (rn (frV (rdW g k))), I 0], H.mk [] [] [])) (by kernel_rfl) ?_
  refine ⟨acall_hit (c := c62.to) (g, r, k) _ rfl p62, ?_⟩
  refine ⟨by first | with_reducible assumption | omega | assumption, ?_⟩
  refine ⟨acall_hit (c := c64.to) (rdW g k, rn (rdW g k)) _ rfl p64, ?_⟩
  first | with_reducible rfl | rfl | exact leave_bs [] (by simp [AV.bnd, AV.bnds, rm_wk_bnd])
noncomputable def c28g : PCtr Tryd.prog := sctr ok28g (X := List Int × Room × Int) (fun x => [ls x.1 x.2.1, I x.2.2]) (fun x => (lim x.1.length ∧ rok x.1 x.2.1) ∧ rdE x.1 x.2.2 = 0) (fun x => .tup [ls (frV (rdW x.1 x.2.2)) (rn (frV (rdW x.1 x.2.2))), I 0]) (by intro x y e _ _; simp at e; simp [e]) (fun x => by simp [AV.bnds, AV.bnd, AV.wk, rm_wk_bnd]) (fun x => by first | rfl | (simp [AV.bnd, rm_wk_bnd]; done)  | (simp [AV.bnd, AV.bnds, rm_wk_bnd]; done) | simp [AV.bnd, AV.bnds, Room.bnd, rm_wk_bnd]) (fun x hx => ⟨_, _, _, .pure c62 (.pure c64 (.nil)), r28g (x.1) (x.2.1).wk (x.2.2) (by first | exact hx | (simp only [rok_wk]; exact hx) | (simp only [rok_wk, lst_wk]; exact hx) | (simp only [rok_wk, lst_wk, lsn_wk]; exact hx))⟩)
theorem ok28e : FokM Tryd.prog none1 28 Tryd.f28 := ⟨mixed, by kernel_rfl, by kernel_rfl, by kernel_rfl, by kernel_rfl⟩
theorem r28e (g : List Int) (r : Room) (k : Int) (hp : (lim g.length ∧ rok g r) ∧ rdE g k ≠ 0) : Body ⟨Tryd.prog, Sof (P := Tryd.prog) [c62.to], Pof (P := Tryd.prog) [], H.nil.base, 300⟩ none1 Tryd.f28 [ls g r, I k] .nil (.tup [.sl [] 0 .nil, I (rdE g k)], .nil) := by
  obtain ⟨p62, hE⟩ := hp
  refine body_s ([Ans.o (Orc.val 11 (AV.tup [AV.sl (u64s (rdW g k)) (rdW g k).length (rn (rdW g k)), I (rdE g k)]) (H.mk [] [] [])), Ans.o (Orc.b true)]) (aCall (Sof [c62.to]) (AV.fn (Fn.func (62 : Nat)) [] []) [AV.sl (ints g) g.length r, I k] (H.mk [] [] []) = some (AV.tup [AV.sl (u64s (rdW g k)) (rdW g k).length (rn (rdW g k)), I (rdE g k)], H.mk [] [] []) ∧ rdE g k ≠ (0 : Int) ∧ (AV.tup [AV.sl [] (0 : Nat) Room.nil, I (rdE g k)], H.mk [] [] []) = (AV.tup [AV.sl [] (0 : Nat) Room.nil, I (rdE g k)], H.mk [] [] [])) (by kernel_rfl) ?_
  refine ⟨acall_hit (c := c62.to) (g, r, k) _ rfl p62, ?_⟩
  refine ⟨by first | with_reducible assumption | omega | assumption, ?_⟩
  first | with_reducible rfl | rfl | exact leave_bs [] (by simp [AV.bnd, AV.bnds, Room.bnd])
noncomputable def c28e : PCtr Tryd.prog := sctr ok28e (X := List Int × Room × Int) (fun x => [ls x.1 x.2.1, I x.2.2]) (fun x => (lim x.1.length ∧ rok x.1 x.2.1) ∧ rdE x.1 x.2.2 ≠ 0) (fun x => .tup [.sl [] 0 .nil, I (rdE x.1 x.2.2)]) (by intro x y e _ _; simp at e; simp [e]) (fun x => by simp [AV.bnds, AV.bnd, AV.wk, rm_wk_bnd]) (fun x => by first | rfl | (simp [AV.bnd, rm_wk_bnd]; done)  | (simp [AV.bnd, AV.bnds, rm_wk_bnd]; done) | simp [AV.bnd, AV.bnds, Room.bnd, rm_wk_bnd]) (fun x hx => ⟨_, _, _, .pure c62 (.nil), r28e (x.1) (x.2.1).wk (x.2.2) (by first | exact hx | (simp only [rok_wk]; exact hx) | (simp only [rok_wk, lst_wk]; exact hx) | (simp only [rok_wk, lst_wk, lsn_wk]; exact hx))⟩)
noncomputable def c28 : PCtr Tryd.prog where
  f := 28
  X := List Int × Room × Int
  args x := [ls x.1 x.2.1, I x.2.2]
  pre x := lim x.1.length ∧ rok x.1 x.2.1
  v x := .tup [ls (coV x.1 x.2.2) (rn (coV x.1 x.2.2)), I (rdE x.1 x.2.2)]
  det := by
    rintro ⟨g, r, k⟩ ⟨g', r', k'⟩ e _ _
    simp at e
    simp [e]
  ok := by
    rintro ⟨g, r, k⟩ h
    by_cases hE : rdE g k = 0
    · have := c28g.ok (g, r, k) ⟨h, hE⟩
      have e1 : coV g k = frV (rdW g k) := if_pos hE
      simp only [e1, hE]
      exact this
    · have := c28e.ok (g, r, k) ⟨h, hE⟩
      have e1 : coV g k = [] := if_neg hE
      simp only [e1]
      exact this
/-- graphs out of sets with the signals themselves -/
abbrev syW (w : List W) : Prop := ∀ i j, i < w.length → j < w.length → (wt_ w i).getLsbD j = (wt_ w j).getLsbD i
theorem apV_get {w : List W} {i : Nat} (h : i < w.length) : at_ (apV w) i = apB w i := by
  simp [at_, apV, List.getD_eq_getElem?_getD, h]
theorem apB_bit {w : List W} {i e : Nat} (hi : i < 64) : bi (apB w i) e = ((wt_ w i).getLsbD e && !decide (e = i)) := by
  simp only [bi, apB, Int.toNat_natCast]
  show (wt_ w i &&& ~~~(1#64 <<< i)).getLsbD e = _
  rw [BitVec.getLsbD_and, BitVec.getLsbD_not, one_bit hi]
  by_cases h : e < 64
  · simp [h]
  · rw [BitVec.getLsbD_of_ge (wt_ w i) e (by omega)]; simp
theorem w_small {b : W} {n : Nat} (h : sub b n) (hn : n ≤ 62) : b.toNat < 2 ^ n := by
  refine Nat.lt_pow_two_of_testBit _ (fun i hi => ?_)
  cases hb : b.toNat.testBit i
  · rfl
  · have : b.getLsbD i = true := hb
    have := h i this
    omega
theorem apV_gr {w : List W} (h : gdW w) (h6 : w.length ≤ 6) (hs : syW w) : Gr (apV w) := by
  obtain ⟨⟨h1, _⟩, h2, h3⟩ := h
  refine ⟨by rw [sz, apV_len]; omega, ?_, ?_⟩
  · intro i hi
    rw [apV_len] at hi
    rw [q1, apV_get hi, apV_len]
    have hb : sub (wt_ w i &&& ~~~(1#64 <<< i)) w.length := sub_andn (h2 i hi)
    have := w_small hb (by omega)
    simp only [apB]
    omega
  · intro i hi j hj
    rw [apV_len] at hi hj
    rw [q2, apV_get hi, apV_get hj, apB_bit (by omega), apB_bit (by omega), hs i j hi hj]
    refine ⟨?_, ?_⟩
    · by_cases e : i = j
      · subst e; rfl
      · have : ¬ j = i := fun h => e h.symm
        simp [e, this]
    · rintro rfl; simp
theorem nrV_ap {w : List W} (h : gdW w) (h6 : w.length ≤ 6) : nrV (apV w) = w := by
  obtain ⟨⟨h1, _⟩, h2, h3⟩ := h
  apply List.ext_getElem
  · simp
  · intro i hi hj
    have e1 : (nrV (apV w))[i] = wt_ (nrV (apV w)) i := by simp [wt_, List.getD_eq_getElem?_getD, List.getElem?_eq_getElem hi]
    have e2 : w[i] = wt_ w i := by simp [wt_, List.getD_eq_getElem?_getD, List.getElem?_eq_getElem hj]
    rw [e1, e2, nrV_get (by rw [apV_len]; exact hj)]
    apply BitVec.eq_of_getLsbD_eq
    intro k hk
    rw [nrB, BitVec.getLsbD_or, one_bit (by omega), BitVec.getLsbD_ofNat, apV_get hj]
    have := apB_bit (w := w) (i := i) (e := k) (by omega)
    simp only [bi] at this
    rw [this]
    have h4 := h3.2 i hj
    by_cases e : k = i
    · subst e; rw [h4]; simp
    · simp [e, hk]
theorem nrV_sy {g : List Int} (h : Gr g) : syW (nrV g) := fun i j hi hj => by
  rw [nrV_len] at hi hj
  have := h.1.2
  rw [nrV_get hi, nrV_get hj, nrB_bit h.1 hi (by omega), nrB_bit h.1 hj (by omega), (h.2.2 i hi j hj).1]
  by_cases e : i = j
  · subst e; rfl
  · have : ¬ j = i := fun h => e h.symm
    simp [e, this]
theorem prV_sy {a b : List W} (ha : gdW a) (hb : gdW b) (h : a.length * b.length ≤ 64) (sa : syW a) (sb : syW b) : syW (prV a b) := fun i j hi hj => by
  rw [prV_len] at hi hj
  have hn : 0 < b.length := Nat.pos_of_ne_zero hb.1.1
  have key : ∀ i, i < a.length * b.length → i / b.length < a.length ∧ i % b.length < b.length := fun i hi => ⟨by rw [Nat.div_lt_iff_lt_mul hn]; exact hi, Nat.mod_lt _ hn⟩
  obtain ⟨k1, k2⟩ := key i hi
  obtain ⟨k3, k4⟩ := key j hj
  rw [prV_get b hb.1.1 a i hi, prV_get b hb.1.1 a j hj, prW_iff (ha.2.1 _ k1) (hb.2.1 _ k2) h hj, prW_iff (ha.2.1 _ k3) (hb.2.1 _ k4) h hi, sa _ _ k1 k3, sb _ _ k2 k4]
noncomputable def jnE (g h : List Int) : Int := if grB g = true ∧ grB h = true then (if 6 < g.length * h.length then 6 else 0) else 2
noncomputable def jnV (g h : List Int) : List Int := if jnE g h = 0 then apV (prV (nrV g) (nrV h)) else []
theorem jn_ok {g h : List Int} (e : jnE g h = 0) : Gr g ∧ Gr h ∧ g.length * h.length ≤ 6 ∧ gdW (prV (nrV g) (nrV h)) ∧ syW (prV (nrV g) (nrV h)) := by
  simp only [jnE] at e
  split at e
  · rename_i hc
    split at e
    · cases e
    · have g1 := grB_iff.1 hc.1
      have g2 := grB_iff.1 hc.2
      have hl : (nrV g).length * (nrV h).length ≤ 64 := by rw [nrV_len, nrV_len]; omega
      exact ⟨g1, g2, by omega, prV_gd (nrV_gd g1) (nrV_gd g2) hl, prV_sy (nrV_gd g1) (nrV_gd g2) hl (nrV_sy g1) (nrV_sy g2)⟩
  · cases e
theorem ok45 : FokM Tryd.prog none1 45 Tryd.f45 := ⟨mixed, by kernel_rfl, by kernel_rfl, by kernel_rfl, by kernel_rfl⟩
theorem r45 (g : List Int) (r : Room) (h : List Int) (q : Room) (hp : (lim g.length ∧ rok g r) ∧ lim h.length ∧ rok h q) : Body ⟨Tryd.prog, Sof (P := Tryd.prog) [c67.to, c78.to, c77.to, c76.to], Pof (P := Tryd.prog) [], H.nil.base, 300⟩ none1 Tryd.f45 [ls g r, ls h q] .nil (.tup [ls (jnV g h) (rn (jnV g h)), I (jnE g h)], .nil) := by
  obtain ⟨p1, p2⟩ := hp
  cases hg : grB g
  · have e1 : jnE g h = 2 := if_neg (fun c => by rw [hg] at c; cases c.1)
    have e2 : jnV g h = [] := if_neg (by rw [e1]; decide)
    rw [e1, e2]
    cases hh : grB h
    · refine body_s ([Ans.o (Orc.val 7 (AV.bool false) (H.mk [] [] []))]) (aCall (Sof [c67.to, c78.to, c77.to, c76.to]) (AV.fn (Fn.func (67 : Nat)) [] []) [AV.sl (ints g) g.length r] (H.mk [] [] []) = some (AV.bool false, H.mk [] [] []) ∧ (AV.tup [AV.sl [] (0 : Nat) Room.nil, I 2], H.mk [] [] []) = (AV.tup [AV.sl (ints []) (0 : Nat) Room.nil, I 2], H.mk [] [] [])) (by kernel_rfl) ?_
      refine ⟨by first | exact acall_b (acall_hit (c := c67.to) (g, r) _ rfl p1) hg | exact acall_b (acall_hit (c := c67.to) (h, q) _ rfl p2) hh, ?_⟩
      rfl
    · refine body_s ([Ans.o (Orc.val 7 (AV.bool false) (H.mk [] [] []))]) (aCall (Sof [c67.to, c78.to, c77.to, c76.to]) (AV.fn (Fn.func (67 : Nat)) [] []) [AV.sl (ints g) g.length r] (H.mk [] [] []) = some (AV.bool false, H.mk [] [] []) ∧ (AV.tup [AV.sl [] (0 : Nat) Room.nil, I 2], H.mk [] [] []) = (AV.tup [AV.sl (ints []) (0 : Nat) Room.nil, I 2], H.mk [] [] [])) (by kernel_rfl) ?_
      refine ⟨by first | exact acall_b (acall_hit (c := c67.to) (g, r) _ rfl p1) hg | exact acall_b (acall_hit (c := c67.to) (h, q) _ rfl p2) hh, ?_⟩
      rfl
  · cases hh : grB h
    · have e1 : jnE g h = 2 := if_neg (fun c => by rw [hh] at c; cases c.2)
      have e2 : jnV g h = [] := if_neg (by rw [e1]; decide)
      rw [e1, e2]
      refine body_s ([Ans.o (Orc.val 7 (AV.bool true) (H.mk [] [] [])), Ans.o (Orc.val 11 (AV.bool false) (H.mk [] [] []))]) (aCall (Sof [c67.to, c78.to, c77.to, c76.to]) (AV.fn (Fn.func (67 : Nat)) [] []) [AV.sl (ints g) g.length r] (H.mk [] [] []) = some (AV.bool true, H.mk [] [] []) ∧ aCall (Sof [c67.to, c78.to, c77.to, c76.to]) (AV.fn (Fn.func (67 : Nat)) [] []) [AV.sl (ints h) h.length q] (H.mk [] [] []) = some (AV.bool false, H.mk [] [] []) ∧ (AV.tup [AV.sl [] (0 : Nat) Room.nil, I 2], H.mk [] [] []) = (AV.tup [AV.sl (ints []) (0 : Nat) Room.nil, I 2], H.mk [] [] [])) (by kernel_rfl) ?_
      refine ⟨by first | exact acall_b (acall_hit (c := c67.to) (g, r) _ rfl p1) hg | exact acall_b (acall_hit (c := c67.to) (h, q) _ rfl p2) hh, ?_⟩
      refine ⟨by first | exact acall_b (acall_hit (c := c67.to) (g, r) _ rfl p1) hg | exact acall_b (acall_hit (c := c67.to) (h, q) _ rfl p2) hh, ?_⟩
      rfl
    · have g1 := grB_iff.1 hg
      have g2 := grB_iff.1 hh
      have s1 := g1.1.2
      have s2 := g2.1.2
      have ev0 := i_mul2 (show g.length ≤ 64 by omega) (show h.length ≤ 64 by omega)
      by_cases hs : 6 < g.length * h.length
      · have e1 : jnE g h = 6 := (if_pos ⟨hg, hh⟩).trans (if_pos hs)
        have e2 : jnV g h = [] := if_neg (by rw [e1]; decide)
        have hs' : (6 : Int) < ((g.length * h.length : Nat) : Int) := by omega
        rw [e1, e2]
        refine body_s ([Ans.o (Orc.val 7 (AV.bool true) (H.mk [] [] [])), Ans.o (Orc.val 11 (AV.bool true) (H.mk [] [] [])), Ans.o (Orc.val 18 (I (↑(g.length * h.length) : Int)) H.nil), Ans.o (Orc.b true)]) (aCall (Sof [c67.to, c78.to, c77.to, c76.to]) (AV.fn (Fn.func (67 : Nat)) [] []) [AV.sl (ints g) g.length r] (H.mk [] [] []) = some (AV.bool true, H.mk [] [] []) ∧ aCall (Sof [c67.to, c78.to, c77.to, c76.to]) (AV.fn (Fn.func (67 : Nat)) [] []) [AV.sl (ints h) h.length q] (H.mk [] [] []) = some (AV.bool true, H.mk [] [] []) ∧ aBin Tryd.prog BinOp.mul (3 : Nat) (I (↑g.length : Int)) (I (↑h.length : Int)) = some (I (↑(g.length * h.length) : Int)) ∧ (6 : Int) < (↑(g.length * h.length) : Int) ∧ (AV.tup [AV.sl [] (0 : Nat) Room.nil, I 6], H.mk [] [] []) = (AV.tup [AV.sl (ints []) (0 : Nat) Room.nil, I 6], H.mk [] [] [])) (by kernel_rfl) ?_
        refine ⟨by first | exact acall_b (acall_hit (c := c67.to) (g, r) _ rfl p1) hg | exact acall_b (acall_hit (c := c67.to) (h, q) _ rfl p2) hh, ?_⟩
        refine ⟨by first | exact acall_b (acall_hit (c := c67.to) (g, r) _ rfl p1) hg | exact acall_b (acall_hit (c := c67.to) (h, q) _ rfl p2) hh, ?_⟩
        refine ⟨told_mul (by with_reducible assumption), ?_⟩
        refine ⟨by first | with_reducible assumption | omega | assumption, ?_⟩
        rfl
      · have e1 : jnE g h = 0 := (if_pos ⟨hg, hh⟩).trans (if_neg hs)
        have e2 : jnV g h = apV (prV (nrV g) (nrV h)) := if_pos e1
        have hs' : ((g.length * h.length : Nat) : Int) ≤ 6 := by omega
        obtain ⟨_, _, h6, hgd, _⟩ := jn_ok e1
        have n1 := nrV_gd g1
        have n2 := nrV_gd g2
        have hl : (prV (nrV g) (nrV h)).length ≤ 6 := by rw [prV_len, nrV_len, nrV_len]; exact h6
        have p78a : Gr g ∧ rok g r := ⟨g1, p1.2⟩
        have p78b : Gr h ∧ rok h q := ⟨g2, p2.2⟩
        have p77 : (pok (nrV g) (nrV h) ∧ rok (nrV g) .no ∧ rok (nrV h) .no) ∧ (nrV g).length ≠ 0 ∧ (nrV h).length ≠ 0 := ⟨⟨⟨n1.2.1, by rw [nrV_len, nrV_len]; omega, n1.1.2, n2.1.2⟩, fun _ => no_ne, fun _ => no_ne⟩, n1.1.1, n2.1.1⟩
        have p76 : sm62 (prV (nrV g) (nrV h)) ∧ rok (prV (nrV g) (nrV h)) .no := ⟨⟨by omega, fun i hi => by
          have := w_small (hgd.2.1 i hi) (by omega)
          have h3 : 2 ^ (prV (nrV g) (nrV h)).length ≤ 2 ^ 6 := Nat.pow_le_pow_right (by decide) hl
          omega⟩, fun _ => no_ne⟩
        have hne : (apV (prV (nrV g) (nrV h))).length ≠ 0 := by rw [apV_len]; exact hgd.1.1
        rw [e1, e2, rn_no hne]
        refine body_s ([Ans.o (Orc.val 7 (AV.bool true) (H.mk [] [] [])), Ans.o (Orc.val 11 (AV.bool true) (H.mk [] [] [])), Ans.o (Orc.val 18 (I (↑(g.length * h.length) : Int)) H.nil), Ans.o (Orc.b false), Ans.o (Orc.val 21 (AV.sl (u64s (nrV g)) (nrV g).length Room.no) (H.mk [] [] [])), Ans.o (Orc.val 23 (AV.sl (u64s (nrV h)) (nrV h).length Room.no) (H.mk [] [] [])), Ans.o (Orc.val 24 (AV.sl (u64s (prV (nrV g) (nrV h))) (prV (nrV g) (nrV h)).length Room.no) (H.mk [] [] [])), Ans.o (Orc.val 25 (AV.sl (ints (apV (prV (nrV g) (nrV h)))) (apV (prV (nrV g) (nrV h))).length Room.no) (H.mk [] [] []))]) (aCall (Sof [c67.to, c78.to, c77.to, c76.to]) (AV.fn (Fn.func (67 : Nat)) [] []) [AV.sl (ints g) g.length r] (H.mk [] [] []) = some (AV.bool true, H.mk [] [] []) ∧ aCall (Sof [c67.to, c78.to, c77.to, c76.to]) (AV.fn (Fn.func (67 : Nat)) [] []) [AV.sl (ints h) h.length q] (H.mk [] [] []) = some (AV.bool true, H.mk [] [] []) ∧ aBin Tryd.prog BinOp.mul (3 : Nat) (I (↑g.length : Int)) (I (↑h.length : Int)) = some (I (↑(g.length * h.length) : Int)) ∧ (↑(g.length * h.length) : Int) ≤ (6 : Int) ∧ aCall (Sof [c67.to, c78.to, c77.to, c76.to]) (AV.fn (Fn.func (78 : Nat)) [] []) [AV.sl (ints g) g.length r] (H.mk [] [] []) = some (AV.sl (u64s (nrV g)) (nrV g).length Room.no, H.mk [] [] []) ∧ aCall (Sof [c67.to, c78.to, c77.to, c76.to]) (AV.fn (Fn.func (78 : Nat)) [] []) [AV.sl (ints h) h.length q] (H.mk [] [] []) = some (AV.sl (u64s (nrV h)) (nrV h).length Room.no, H.mk [] [] []) ∧ aCall (Sof [c67.to, c78.to, c77.to, c76.to]) (AV.fn (Fn.func (77 : Nat)) [] []) [AV.sl (u64s (nrV g)) (nrV g).length Room.no, AV.sl (u64s (nrV h)) (nrV h).length Room.no] (H.mk [] [] []) = some (AV.sl (u64s (prV (nrV g) (nrV h))) (prV (nrV g) (nrV h)).length Room.no, H.mk [] [] []) ∧ aCall (Sof [c67.to, c78.to, c77.to, c76.to]) (AV.fn (Fn.func (76 : Nat)) [] []) [AV.sl (u64s (prV (nrV g) (nrV h))) (prV (nrV g) (nrV h)).length Room.no] (H.mk [] [] []) = some (AV.sl (ints (apV (prV (nrV g) (nrV h)))) (apV (prV (nrV g) (nrV h))).length Room.no, H.mk [] [] []) ∧ leave (Base.mk H.nil.blk.length H.nil.toks.length H.nil.maps.length) (AV.tup [AV.sl (ints (apV (prV (nrV g) (nrV h)))) (apV (prV (nrV g) (nrV h))).length Room.no, I 0]) (H.mk [] [] []) = (AV.tup [AV.sl (ints (apV (prV (nrV g) (nrV h)))) (apV (prV (nrV g) (nrV h))).length Room.no, I 0], H.mk [] [] [])) (by kernel_rfl) ?_
        refine ⟨by first | exact acall_b (acall_hit (c := c67.to) (g, r) _ rfl p1) hg | exact acall_b (acall_hit (c := c67.to) (h, q) _ rfl p2) hh, ?_⟩
        refine ⟨by first | exact acall_b (acall_hit (c := c67.to) (g, r) _ rfl p1) hg | exact acall_b (acall_hit (c := c67.to) (h, q) _ rfl p2) hh, ?_⟩
        refine ⟨told_mul (by with_reducible assumption), ?_⟩
        refine ⟨by first | with_reducible assumption | omega | assumption, ?_⟩
        refine ⟨by first | exact acall_hit (c := c78.to) (g, r) _ rfl p78a | exact acall_hit (c := c78.to) (h, q) _ rfl p78b, ?_⟩
        refine ⟨by first | exact acall_hit (c := c78.to) (g, r) _ rfl p78a | exact acall_hit (c := c78.to) (h, q) _ rfl p78b, ?_⟩
        refine ⟨acall_hit (c := c77.to) (nrV g, .no, nrV h, .no) _ rfl p77, ?_⟩
        refine ⟨acall_hit (c := c76.to) (prV (nrV g) (nrV h), .no) _ rfl p76, ?_⟩
        first | with_reducible rfl | rfl | exact leave_bs [] (by simp [AV.bnd, AV.bnds, Room.bnd])
noncomputable def c45 : PCtr Tryd.prog := sctr ok45 (X := List Int × Room × List Int × Room) (fun x => [ls x.1 x.2.1, ls x.2.2.1 x.2.2.2]) (fun x => (lim x.1.length ∧ rok x.1 x.2.1) ∧ lim x.2.2.1.length ∧ rok x.2.2.1 x.2.2.2) (fun x => .tup [ls (jnV x.1 x.2.2.1) (rn (jnV x.1 x.2.2.1)), I (jnE x.1 x.2.2.1)]) (by intro x y e _ _; simp at e; simp [e]) (fun x => by simp [AV.bnds, AV.bnd, AV.wk, rm_wk_bnd]) (fun x => by first | rfl | (simp [AV.bnd, rm_wk_bnd]; done)  | (simp [AV.bnd, AV.bnds, rm_wk_bnd]; done) | simp [AV.bnd, AV.bnds, Room.bnd, rm_wk_bnd]) (fun x hx => ⟨_, _, _, .pure c67 (.pure c78 (.pure c77 (.pure c76 (.nil)))), r45 (x.1) (x.2.1).wk (x.2.2.1) (x.2.2.2).wk (by first | exact hx | (simp only [rok_wk]; exact hx) | (simp only [rok_wk, lst_wk]; exact hx) | (simp only [rok_wk, lst_wk, lsn_wk]; exact hx))⟩)
end Go.Proofs.Sur

