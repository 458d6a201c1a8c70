/- Layer 5: weights: the contract of Weigh. -/
import Derived.Test.YtlomlnkafakloaaDoorSyg
import Derived.KernelRfl
set_option linter.unusedSimpArgs false
set_option linter.unusedVariables false
set_option linter.unnecessarySimpa false
set_option maxHeartbeats 4000000
set_option maxRecDepth 100000
namespace Go.Proofs.Sur
open Go Go.VM

theorem clq_one {g : List Int} (hg : Gr g) {j : Nat} (hj : j < g.length) : ((2 ^ j : Nat) : Int) ∈ clV g := by
  have hlt : 2 ^ j < 2 ^ g.length := Nat.pow_lt_pow_right (by decide) hj
  refine mem_clL (Nat.pos_iff_ne_zero.1 (Nat.two_pow_pos j)) ((okF_iff _).2 fun i hi => (qc_iff hg hlt hi).2 fun h1 k hk h2 h3 => ?_) _ hlt
  rw [Nat.testBit_two_pow, decide_eq_true_eq] at h1 h2
  omega
theorem at_ix {l : List Int} {c : Int} (h : c ∈ l) : ∃ i, i < l.length ∧ at_ l i = c := mem_gt h
theorem clq_sets {g : List Int} (hg : Gr g) : setsOk g.length (clV g).length (clV g) := ⟨rfl, fun i hi => by
  have h1 := clV_mem hg.1 (clV_get hi)
  have h2 := pw_64 hg.1.2
  omega⟩
theorem clq_reach {g : List Int} (hg : Gr g) : reach g.length (clV g).length (clV g) := fun j hj => by
  obtain ⟨i, i1, i2⟩ := at_ix (clq_one hg hj)
  refine ⟨i, i1, ?_⟩
  show bi (at_ (clV g) i) j = true
  rw [i2]
  show (((2 ^ j : Nat) : Int).toNat).testBit j = true
  rw [Int.toNat_natCast, Nat.testBit_two_pow]; simp
theorem clq_nm {g : List Int} (hg : Gr g) : nm g.length (clV g).length := ⟨hg.1.1, hg.1.2, by
  have h1 := clL_len g (2 ^ g.length)
  have h2 := pw_64 hg.1.2
  show (clL g (2 ^ g.length)).length ≤ 64
  omega⟩
theorem clq_pos {g : List Int} (hg : Gr g) : 1 ≤ (clV g).length := by
  obtain ⟨i, i1, _⟩ := clq_reach hg 0 (by have := hg.1.1; omega)
  omega
noncomputable abbrev wgP (g : List Int) : Int × Int := lpV g.length (clV g).length (bS (clV g))
open Classical in
noncomputable def wgN (g : List Int) : Int := if Gr g then (wgP g).1 else 0
open Classical in
noncomputable def wgD (g : List Int) : Int := if Gr g then (wgP g).2 else 0
open Classical in
noncomputable def wgE (g : List Int) : Int := if Gr g then 0 else 2
theorem ok33 : FokM Tryd.prog none1 33 Tryd.f33 := ⟨mixed, by kernel_rfl, by kernel_rfl, by kernel_rfl, by kernel_rfl⟩
theorem r33 (g : List Int) (r : Room) (hp : lim g.length ∧ rok g r) : Body ⟨Tryd.prog, Sof (P := Tryd.prog) [c67.to, c68.to, c58.to], Pof (P := Tryd.prog) [], H.nil.base, 300⟩ none1 Tryd.f33 [ls g r] .nil (.tup [.agg [I (wgN g), I (wgD g)], I (wgE g)], .nil) := by
  by_cases hg : Gr g
  · have hb : grB g = true := grB_t hg
    have h1 : wgN g = (wgP g).1 := if_pos hg
    have h2 : wgD g = (wgP g).2 := if_pos hg
    have h3 : wgE g = 0 := if_pos hg
    rw [h1, h2, h3]
    have p68 : Gr g ∧ rok g r := ⟨hg, hp.2⟩
    have p58 : rok (clV g) (rn (clV g)) ∧ nm g.length (clV g).length ∧ setsOk g.length (clV g).length (clV g) ∧ 1 ≤ (clV g).length ∧ reach g.length (clV g).length (clV g) := ⟨rn_rok _, clq_nm hg, clq_sets hg, clq_pos hg, clq_reach hg⟩
    refine body_s ([Ans.o (Orc.val 5 (AV.bool true) (H.mk [[I 0, I 0]] [] [])), Ans.o (Orc.val 11 (ls (clV g) (rn (clV g))) (H.mk [[I 0, I 0]] [] [])), Ans.o (Orc.val 12 (AV.agg [I (lpV g.length (clV g).length (bS (clV g))).fst, I (lpV g.length (clV g).length (bS (clV g))).snd]) (H.mk [[I 0, I 0]] [] []))]) (aCall (Sof [c67.to, c68.to, c58.to]) (AV.fn (Fn.func 67) [] []) [ls g r] (H.mk [[I 0, I 0]] [] []) = some (AV.bool true, H.mk [[I 0, I 0]] [] []) ∧ aCall (Sof [c67.to, c68.to, c58.to]) (AV.fn (Fn.func 68) [] []) [ls g r] (H.mk [[I 0, I 0]] [] []) = some (ls (clV g) (rn (clV g)), H.mk [[I 0, I 0]] [] []) ∧ aCall (Sof [c67.to, c68.to, c58.to]) (AV.fn (Fn.func 58) [] []) [I (↑g.length : Int), ls (clV g) (rn (clV g))] (H.mk [[I 0, I 0]] [] []) = some (AV.agg [I (lpV g.length (clV g).length (bS (clV g))).fst, I (lpV g.length (clV g).length (bS (clV g))).snd], H.mk [[I 0, I 0]] [] []) ∧ (AV.tup [AV.agg [I (lpV g.length (clV g).length (bS (clV g))).fst, I (lpV g.length (clV g).length (bS (clV g))).snd], I 0], H.mk [] [] []) = (AV.tup [AV.agg [I (wgP g).fst, I (wgP g).snd], I 0], H.mk [] [] [])) (by kernel_rfl) ?_
    refine ⟨acall_b (acall_hit (c := c67.to) (g, r) _ rfl hp) hb, ?_⟩
    refine ⟨acall_hit (c := c68.to) (g, r) _ rfl p68, ?_⟩
    refine ⟨acall_hit (c := c58.to) (g.length, clV g, rn (clV g)) _ rfl p58, ?_⟩
    rfl
  · have hb : grB g = false := grB_f hg
    have h1 : wgN g = 0 := if_neg hg
    have h2 : wgD g = 0 := if_neg hg
    have h3 : wgE g = 2 := if_neg hg
    rw [h1, h2, h3]
    refine body_s ([Ans.o (Orc.val 5 (AV.bool false) (H.mk [[I 0, I 0]] [] []))]) (aCall (Sof [c67.to, c68.to, c58.to]) (AV.fn (Fn.func 67) [] []) [ls g r] (H.mk [[I 0, I 0]] [] []) = some (AV.bool false, H.mk [[I 0, I 0]] [] []) ∧ (AV.tup [AV.agg [I 0, I 0], I 2], H.mk [] [] []) = (AV.tup [AV.agg [I 0, I 0], I 2], H.mk [] [] [])) (by kernel_rfl) ?_
    refine ⟨acall_b (acall_hit (c := c67.to) (g, r) _ rfl hp) hb, ?_⟩
    rfl
noncomputable def c33 : PCtr Tryd.prog := sctr ok33 (X := List Int × Room) (fun x => [ls x.1 x.2]) (fun x => lim x.1.length ∧ rok x.1 x.2) (fun x => .tup [.agg [I (wgN x.1), I (wgD x.1)], I (wgE x.1)]) (by intro x y e _ _; simp at e; simp [e]) (fun x => by simp [AV.bnds, AV.bnd, AV.wk, rm_wk_bnd]) (fun x => by first | rfl | (simp [AV.bnd, rm_wk_bnd]; done)  | (simp [AV.bnd, AV.bnds, rm_wk_bnd]; done) | simp [AV.bnd, AV.bnds, Room.bnd, rm_wk_bnd]) (fun x hx => ⟨_, _, _, .pure c67 (.pure c68 (.pure c58 (.nil))), r33 (x.1) (x.2).wk (by first | exact hx | (simp only [rok_wk]; exact hx) | (simp only [rok_wk, lst_wk]; exact hx) | (simp only [rok_wk, lst_wk, lsn_wk]; exact hx))⟩)
theorem wg_ok {g : List Int} (hg : Gr g) : wgE g = 0 ∧ (∃ z s, Cert g.length (clV g).length (bS (clV g)) z s) ∧ wgN g = (wgP g).1 ∧ wgD g = (wgP g).2 ∧ 1 ≤ wgD g ∧ wgD g ≤ 720 ∧ wgD g ≤ wgN g ∧ wgN g ≤ g.length * wgD g := by
  obtain ⟨z, s, hc, hs⟩ := lp_ex (clq_nm hg) (clq_sets hg) (clq_reach hg)
  have h1 : wgN g = (wgP g).1 := if_pos hg
  have h2 : wgD g = (wgP g).2 := if_pos hg
  have h3 : wgE g = 0 := if_pos hg
  have := hc.small (clq_reach hg) hg.1.1 hs
  rw [h1, h2]
  exact ⟨h3, ⟨z, s, hc⟩, rfl, rfl, this⟩
end Go.Proofs.Sur

