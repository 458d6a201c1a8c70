/- Layer 5: codes of a graph, and graphs of pairs. -/
import Derived.Test.YtlomlnkafakloaaDoorSuG
import Derived.KernelRfl
set_option linter.unusedSimpArgs false
set_option linter.unusedVariables false
set_option linter.unnecessarySimpa false
set_option maxHeartbeats 4000000
set_option maxRecDepth 100000
namespace Go.Proofs.Sur
open Go Go.VM

theorem rd_ok {g : List Int} {k : Int} (h : rdE g k = 0) : Gr g ∧ (1 ≤ k ∧ k ≤ 3) ∧ rdF g (k - 1).toNat (nrV g) = some (rdW g k) ∧ gdW (rdW g k) := by
  by_cases hc : grB g = true ∧ 1 ≤ k ∧ k ≤ 3
  · have hg := grB_iff.1 hc.1
    cases hF : rdF g (k - 1).toNat (nrV g) with
    | none => rw [(rd_none hc hF).1] at h; cases h
    | some w =>
      rw [(rd_some hc hF).2]
      exact ⟨hg, hc.2, rfl, rdF_gd hg _ _ _ (nrV_gd hg) hF⟩
  · rw [(rd_bad hc).1] at h; cases h
noncomputable def coV (g : List Int) (k : Int) : List Int := if rdE g k = 0 then frV (rdW g k) else []
theorem ok28g : FokM Tryd.prog none1 28 Tryd.f28 := ⟨mixed, by kernel_rfl, by kernel_rfl, by kernel_rfl, by kernel_rfl⟩
theorem r28g (g : List Int) (r : Room) (k : Int) (hp : (lim g.length ∧ rok g r) ∧ rdE g k = 0) : Body ⟨Tryd.prog, Sof (P := Tryd.prog) [c62.to, c64.to], Pof (P := Tryd.prog) [], H.nil.base, 300⟩ none1 Tryd.f28 [ls g r, I k] .nil (.tup [ls (frV (rdW g k)) (rn (frV (rdW g k))), I 0], .nil) := by
  obtain ⟨p62, hE⟩ := hp
  obtain ⟨_, _, _, hw⟩ := rd_ok hE
  have p64 : rok (rdW g k) (rn (rdW g k)) ∧ rfx (rdW g k) := ⟨rn_rok _, hw.2.2⟩
  refine body_s ([Ans.o (Orc.val 11 (AV.tup [AV.sl (u64s (rdW g k)) (rdW g k).length (rn (rdW g k)), I (rdE g k)]) (H.mk [] [] [])), Ans.o (Orc.b false), Ans.o (Orc.val 18 (ls (frV (rdW g k)) (rn (frV (rdW g k)))) (H.mk [] [] []))]) (aCall (Sof [c62.to, c64.to]) (AV.fn (Fn.func 62) [] []) [ls g r, I k] (H.mk [] [] []) = some (AV.tup [AV.sl (u64s (rdW g k)) (rdW g k).length (rn (rdW g k)), I (rdE g k)], H.mk [] [] []) ∧ rdE g k = (0 : Int) ∧ aCall (Sof [c62.to, c64.to]) (AV.fn (Fn.func 64) [] []) [AV.sl (u64s (rdW g k)) (rdW g k).length (rn (rdW g k))] (H.mk [] [] []) = some (ls (frV (rdW g k)) (rn (frV (rdW g k))), H.mk [] [] []) ∧ leave (Base.mk H.nil.blk.length H.nil.toks.length H.nil.maps.length) (AV.tup [ls (frV (rdW g k)) (rn (frV (rdW g k))), I 0]) (H.mk [] [] []) = (AV.tup [ls (frV (rdW g k)) (rn (frV (rdW g k))), I 0], H.mk [] [] [])) (by kernel_rfl) ?_
  refine ⟨acall_hit (c := c62.to) (g, r, k) _ rfl p62, ?_⟩
  refine ⟨by first | with_reducible assumption | omega | assumption, ?_⟩
  refine ⟨acall_hit (c := c64.to) (rdW g k, rn (rdW g k)) _ rfl p64, ?_⟩
  first | with_reducible rfl | rfl | exact leave_bs [] (by simp [AV.bnd, AV.bnds, rm_wk_bnd])
noncomputable def c28g : PCtr Tryd.prog := sctr ok28g (X := List Int × Room × Int) (fun x => [ls x.1 x.2.1, I x.2.2]) (fun x => (lim x.1.length ∧ rok x.1 x.2.1) ∧ rdE x.1 x.2.2 = 0) (fun x => .tup [ls (frV (rdW x.1 x.2.2)) (rn (frV (rdW x.1 x.2.2))), I 0]) (by intro x y e _ _; simp at e; simp [e]) (fun x => by simp [AV.bnds, AV.bnd, AV.wk, rm_wk_bnd]) (fun x => by first | rfl | (simp [AV.bnd, rm_wk_bnd]; done)  | (simp [AV.bnd, AV.bnds, rm_wk_bnd]; done) | simp [AV.bnd, AV.bnds, Room.bnd, rm_wk_bnd]) (fun x hx => ⟨_, _, _, .pure c62 (.pure c64 (.nil)), r28g (x.1) (x.2.1).wk (x.2.2) (by first | exact hx | (simp only [rok_wk]; exact hx) | (simp only [rok_wk, lst_wk]; exact hx) | (simp only [rok_wk, lst_wk, lsn_wk]; exact hx))⟩)
theorem ok28e : FokM Tryd.prog none1 28 Tryd.f28 := ⟨mixed, by kernel_rfl, by kernel_rfl, by kernel_rfl, by kernel_rfl⟩
theorem r28e (g : List Int) (r : Room) (k : Int) (hp : (lim g.length ∧ rok g r) ∧ rdE g k ≠ 0) : Body ⟨Tryd.prog, Sof (P := Tryd.prog) [c62.to], Pof (P := Tryd.prog) [], H.nil.base, 300⟩ none1 Tryd.f28 [ls g r, I k] .nil (.tup [.sl [] 0 .nil, I (rdE g k)], .nil) := by
  obtain ⟨p62, hE⟩ := hp
  refine body_s ([Ans.o (Orc.val 11 (AV.tup [AV.sl (u64s (rdW g k)) (rdW g k).length (rn (rdW g k)), I (rdE g k)]) (H.mk [] [] [])), Ans.o (Orc.b true)]) (aCall (Sof [c62.to]) (AV.fn (Fn.func 62) [] []) [ls g r, I k] (H.mk [] [] []) = some (AV.tup [AV.sl (u64s (rdW g k)) (rdW g k).length (rn (rdW g k)), I (rdE g k)], H.mk [] [] []) ∧ rdE g k ≠ (0 : Int) ∧ (AV.tup [AV.sl [] (0 : Nat) Room.nil, I (rdE g k)], H.mk [] [] []) = (AV.tup [AV.sl [] (0 : Nat) Room.nil, I (rdE g k)], H.mk [] [] [])) (by kernel_rfl) ?_
  refine ⟨acall_hit (c := c62.to) (g, r, k) _ rfl p62, ?_⟩
  refine ⟨by first | with_reducible assumption | omega | assumption, ?_⟩
  first | with_reducible rfl | rfl | exact leave_bs [] (by simp [AV.bnd, AV.bnds, Room.bnd])
noncomputable def c28e : PCtr Tryd.prog := sctr ok28e (X := List Int × Room × Int) (fun x => [ls x.1 x.2.1, I x.2.2]) (fun x => (lim x.1.length ∧ rok x.1 x.2.1) ∧ rdE x.1 x.2.2 ≠ 0) (fun x => .tup [.sl [] 0 .nil, I (rdE x.1 x.2.2)]) (by intro x y e _ _; simp at e; simp [e]) (fun x => by simp [AV.bnds, AV.bnd, AV.wk, rm_wk_bnd]) (fun x => by first | rfl | (simp [AV.bnd, rm_wk_bnd]; done)  | (simp [AV.bnd, AV.bnds, rm_wk_bnd]; done) | simp [AV.bnd, AV.bnds, Room.bnd, rm_wk_bnd]) (fun x hx => ⟨_, _, _, .pure c62 (.nil), r28e (x.1) (x.2.1).wk (x.2.2) (by first | exact hx | (simp only [rok_wk]; exact hx) | (simp only [rok_wk, lst_wk]; exact hx) | (simp only [rok_wk, lst_wk, lsn_wk]; exact hx))⟩)
noncomputable def c28 : PCtr Tryd.prog where
  f := 28
  X := List Int × Room × Int
  args x := [ls x.1 x.2.1, I x.2.2]
  pre x := lim x.1.length ∧ rok x.1 x.2.1
  v x := .tup [ls (coV x.1 x.2.2) (rn (coV x.1 x.2.2)), I (rdE x.1 x.2.2)]
  det := by
    rintro ⟨g, r, k⟩ ⟨g', r', k'⟩ e _ _
    simp at e
    simp [e]
  ok := by
    rintro ⟨g, r, k⟩ h
    by_cases hE : rdE g k = 0
    · have := c28g.ok (g, r, k) ⟨h, hE⟩
      have e1 : coV g k = frV (rdW g k) := if_pos hE
      simp only [e1, hE]
      exact this
    · have := c28e.ok (g, r, k) ⟨h, hE⟩
      have e1 : coV g k = [] := if_neg hE
      simp only [e1]
      exact this
abbrev syW (w : List W) : Prop := ∀ i j, i < w.length → j < w.length → (wt_ w i).getLsbD j = (wt_ w j).getLsbD i
theorem nrV_sy {g : List Int} (h : Gr g) : syW (nrV g) := fun i j hi hj => by
  rw [nrV_len] at hi hj
  have := h.1.2
  rw [nrV_get hi, nrV_get hj, nrB_bit h.1 hi (by omega), nrB_bit h.1 hj (by omega), (h.2.2 i hi j hj).1]
  by_cases e : i = j
  · subst e; rfl
  · have : ¬ j = i := fun h => e h.symm
    simp [e, this]
theorem prV_sy {a b : List W} (ha : gdW a) (hb : gdW b) (h : a.length * b.length ≤ 64) (sa : syW a) (sb : syW b) : syW (prV a b) := fun i j hi hj => by
  rw [prV_len] at hi hj
  have hn : 0 < b.length := Nat.pos_of_ne_zero hb.1.1
  have key : ∀ i, i < a.length * b.length → i / b.length < a.length ∧ i % b.length < b.length := fun i hi => ⟨by rw [Nat.div_lt_iff_lt_mul hn]; exact hi, Nat.mod_lt _ hn⟩
  obtain ⟨k1, k2⟩ := key i hi
  obtain ⟨k3, k4⟩ := key j hj
  rw [prV_get b hb.1.1 a i hi, prV_get b hb.1.1 a j hj, prW_iff (ha.2.1 _ k1) (hb.2.1 _ k2) h hj, prW_iff (ha.2.1 _ k3) (hb.2.1 _ k4) h hi, sa _ _ k1 k3, sb _ _ k2 k4]
end Go.Proofs.Sur

