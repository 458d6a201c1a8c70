/- Layer 4: the law of what is left. -/
import Derived.Test.YtdnidpojcocklaaDoorLoB2
import Derived.Test.YtdnidpojcocklaaDoorLnV4
import Derived.Test.YtdnidpojcocklaaDoorLnO0
import Derived.Test.YtdnidpojcocklaaDoorLnJ
import Derived.Test.YtdnidpojcocklaaDoorLnD
import Derived.KernelRfl
set_option linter.unusedSimpArgs false
set_option linter.unusedVariables false
set_option linter.unnecessarySimpa false
set_option maxHeartbeats 4000000
set_option maxRecDepth 100000
namespace Go.Proofs.Lrn
open Go Go.VM

theorem leave_bs (bs : List (List AV)) {v : AV} (hb : v.bnd 0 0 0 = true) : leave ⟨0, 0, 0⟩ v ⟨bs, [], []⟩ = (v, .nil) := by
  simp [leave, hb, H.nil]
theorem cls_rise {p : Int} {l : List Int} (h : cls p l) : l.Pairwise (· < ·) := by
  rw [List.pairwise_iff_getElem]
  intro i j hi hj hij
  have := cls_lt h (j - i - 1) i (by omega)
  rw [show i + (j - i - 1) + 1 = j by omega] at this
  have e1 : l.getD i i0 = l[i] := by simp [List.getD_eq_getElem?_getD, List.getElem?_eq_getElem hi]
  have e2 : l.getD j i0 = l[j] := by simp [List.getD_eq_getElem?_getD, List.getElem?_eq_getElem hj]
  rw [e1, e2] at this
  exact this
noncomputable def b17 : PCtr Tryd.prog := up c17
noncomputable def b19 : PCtr Tryd.prog := up c19
noncomputable def b21 : PCtr Tryd.prog := up c21
noncomputable def b52g : PCtr Tryd.prog := up c52g
noncomputable def b53 : PCtr Tryd.prog := up c53
noncomputable def b54 : PCtr Tryd.prog := up c54
theorem ok16g : FokM Tryd.prog none1 16 Tryd.f16 := ⟨mixed, by kernel_rfl, by kernel_rfl, by kernel_rfl, by kernel_rfl⟩
theorem r16g (p : Int) (l : List Int) (r : Room) (es : List Pr) (q : Room) (hp : ((lim l.length ∧ rok l r) ∧ (lim es.length ∧ rok es q)) ∧ cls p l ∧ exs p es) : Body ⟨Tryd.prog, Sof (P := Tryd.prog) [b52g.to, b53.to, b54.to, c55.to], Pof (P := Tryd.prog) [], H.nil.base, 300⟩ none1 Tryd.f16 [I p, ls l r, ps es q] .nil (.tup [.sl (ints (lsO (lfF es (sOf l)))) (lsO (lfF es (sOf l))).length (rn (lsO (lfF es (sOf l)))), I 0], .nil) := by
  have z : cls p l ∧ rok l r := ⟨hp.2.1, hp.1.1.2⟩
  have zz := hp.1.2
  have z54 : p5 p ∧ exs p es ∧ rok es q := ⟨hp.2.1.1, hp.2.2, zz.2⟩
  have hd : decide (exs p es) = true := by rw [decide_eq_true_eq]; exact hp.2.2
  refine body_s ([Ans.o (Orc.val 13 (AV.tup [AV.agg [I p, AV.int IntKind.u32 (↑(sOf l).toNat : Int)], AV.bool true]) (H.mk [] [] [])), Ans.o (Orc.val 21 (AV.bool true) (H.mk [[I p, AV.int IntKind.u32 (↑(sOf l).toNat : Int)]] [] [])), Ans.o (Orc.val 26 (AV.agg [I p, AV.int IntKind.u32 (↑(lfF es (sOf l)).toNat : Int)]) (H.mk [[I p, AV.int IntKind.u32 (↑(sOf l).toNat : Int)]] [] [])), Ans.o (Orc.val 27 (AV.sl (ints (lsO (lfF es (sOf l)))) (lsO (lfF es (sOf l))).length (rn (lsO (lfF es (sOf l))))) (H.mk [[I p, AV.int IntKind.u32 (↑(sOf l).toNat : Int)]] [] []))]) (aCall (Sof [b52g.to, b53.to, b54.to, c55.to]) (AV.fn (Fn.func (52 : Nat)) [] []) [I p, AV.sl (ints l) l.length r] (H.mk [] [] []) = some (AV.tup [AV.agg [I p, AV.int IntKind.u32 (↑(sOf l).toNat : Int)], AV.bool true], H.mk [] [] []) ∧ aCall (Sof [b52g.to, b53.to, b54.to, c55.to]) (AV.fn (Fn.func (53 : Nat)) [] []) [AV.agg [I p, AV.int IntKind.u32 (↑(sOf l).toNat : Int)], AV.sl (pairsA es) es.length q] (H.mk [[I p, AV.int IntKind.u32 (↑(sOf l).toNat : Int)]] [] []) = some (AV.bool true, H.mk [[I p, AV.int IntKind.u32 (↑(sOf l).toNat : Int)]] [] []) ∧ aCall (Sof [b52g.to, b53.to, b54.to, c55.to]) (AV.fn (Fn.func (54 : Nat)) [] []) [AV.agg [I p, AV.int IntKind.u32 (↑(sOf l).toNat : Int)], AV.sl (pairsA es) es.length q] (H.mk [[I p, AV.int IntKind.u32 (↑(sOf l).toNat : Int)]] [] []) = some (AV.agg [I p, AV.int IntKind.u32 (↑(lfF es (sOf l)).toNat : Int)], H.mk [[I p, AV.int IntKind.u32 (↑(sOf l).toNat : Int)]] [] []) ∧ aCall (Sof [b52g.to, b53.to, b54.to, c55.to]) (AV.fn (Fn.func (55 : Nat)) [] []) [AV.agg [I p, AV.int IntKind.u32 (↑(lfF es (sOf l)).toNat : Int)]] (H.mk [[I p, AV.int IntKind.u32 (↑(sOf l).toNat : Int)]] [] []) = some (AV.sl (ints (lsO (lfF es (sOf l)))) (lsO (lfF es (sOf l))).length (rn (lsO (lfF es (sOf l)))), H.mk [[I p, AV.int IntKind.u32 (↑(sOf l).toNat : Int)]] [] []) ∧ leave (Base.mk H.nil.blk.length H.nil.toks.length H.nil.maps.length) (AV.tup [AV.sl (ints (lsO (lfF es (sOf l)))) (lsO (lfF es (sOf l))).length (rn (lsO (lfF es (sOf l)))), I 0]) (H.mk [[I p, AV.int IntKind.u32 (↑(sOf l).toNat : Int)]] [] []) = (AV.tup [AV.sl (ints (lsO (lfF es (sOf l)))) (lsO (lfF es (sOf l))).length (rn (lsO (lfF es (sOf l)))), I 0], H.mk [] [] [])) (by kernel_rfl) ?_
  refine ⟨acall_hit (c := b52g.to) (p, l, r) _ rfl z, ?_⟩
  refine ⟨acall_b (acall_hit (c := b53.to) (p, sOf l, es, q) _ rfl zz) hd, ?_⟩
  refine ⟨acall_hit (c := b54.to) (p, sOf l, es, q) _ rfl z54, ?_⟩
  refine ⟨acall_hit (c := c55.to) (p, lfF es (sOf l)) _ rfl trivial, ?_⟩
  exact leave_bs _ (by simp [AV.bnd, AV.bnds, rm_wk_bnd])
noncomputable def c16g : PCtr Tryd.prog := sctr ok16g (X := Int × List Int × Room × List Pr × Room) (fun x => [I x.1, ls x.2.1 x.2.2.1, ps x.2.2.2.1 x.2.2.2.2]) (fun x => ((lim x.2.1.length ∧ rok x.2.1 x.2.2.1) ∧ (lim x.2.2.2.1.length ∧ rok x.2.2.2.1 x.2.2.2.2)) ∧ cls x.1 x.2.1 ∧ exs x.1 x.2.2.2.1) (fun x => .tup [.sl (ints (lsO (lfF x.2.2.2.1 (sOf x.2.1)))) (lsO (lfF x.2.2.2.1 (sOf x.2.1))).length (rn (lsO (lfF x.2.2.2.1 (sOf x.2.1)))), I 0]) (by intro x y e _ _; simp at e; simp [e]) (fun x => by simp [AV.bnds, AV.bnd, AV.wk, rm_wk_bnd]) (fun x => by first | rfl | (simp [AV.bnd, rm_wk_bnd]; done)  | (simp [AV.bnd, AV.bnds, rm_wk_bnd]; done) | simp [AV.bnd, AV.bnds, Room.bnd, rm_wk_bnd]) (fun x hx => ⟨_, _, _, .pure b52g (.pure b53 (.pure b54 (.pure c55 (.nil)))), r16g (x.1) (x.2.1) (x.2.2.1).wk (x.2.2.2.1) (x.2.2.2.2).wk (by first | exact hx | (simp only [rok_wk]; exact hx) | (simp only [rok_wk, lst_wk]; exact hx) | (simp only [rok_wk, lst_wk, lsn_wk]; exact hx))⟩)
end Go.Proofs.Lrn

