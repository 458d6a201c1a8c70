/- Layer 9: what there is after a race, by the program: Worth. -/
import Derived.Test.YthodoagjojmliaaBtAa
import Derived.KernelRfl
set_option linter.unusedSimpArgs false
set_option linter.unusedVariables false
set_option linter.unnecessarySimpa false
set_option maxHeartbeats 4000000
set_option maxRecDepth 100000
namespace Go.Proofs.Bts
open Go Go.VM

abbrev wwO (ch od : List Int) (s : List Pr) : Prop := raO ch od ∧ stO od.length s
open Classical in
noncomputable def wwL (ch od : List Int) (s : List Pr) : List Pr := if wwO ch od s then woL od s else []
open Classical in
noncomputable def wwE (ch od : List Int) (s : List Pr) : Int := if wwO ch od s then 0 else 2
theorem ww_t {ch od : List Int} {s : List Pr} (h : wwO ch od s) : wwL ch od s = woL od s ∧ wwE ch od s = 0 := ⟨if_pos h, if_pos h⟩
theorem ww_f {ch od : List Int} {s : List Pr} (h : ¬ wwO ch od s) : wwL ch od s = [] ∧ wwE ch od s = 2 := ⟨if_neg h, if_neg h⟩
noncomputable abbrev wwV (ch od : List Int) (s : List Pr) : AV := .tup [pz (wwL ch od s) (rmz 2 (wwL ch od s)).wk, I (wwE ch od s)]
theorem ww_fv {ch od : List Int} {s : List Pr} (h : ¬ wwO ch od s) : wwV ch od s = .tup [.sl [] 0 .nil, I 2] := by
  unfold wwV; rw [(ww_f h).1, (ww_f h).2]; rfl
theorem ww_tv {ch od : List Int} {s : List Pr} (h : wwO ch od s) : wwV ch od s = .tup [pz (spl (woN od s s.length) (stD s) (woN od s s.length).length) (rmz 2 (spl (woN od s s.length) (stD s) (woN od s s.length).length)).wk, I 0] := by
  unfold wwV; rw [(ww_t h).1, (ww_t h).2, woN_len]
theorem leave_any {bs : List (List AV)} {ts : List Nat} {v : AV} (hb : v.bnd 0 0 0 = true) : leave ⟨0, 0, 0⟩ v ⟨bs, ts, []⟩ = (v, .nil) := by
  simp [leave, hb, H.nil]
theorem ww_pWo {ch od : List Int} {s : List Pr} (h : wwO ch od s) : pWo od s := by
  obtain ⟨⟨⟨⟨h1, h2⟩, h3⟩, h4, h5, h6⟩, ⟨h7, h8⟩, h9⟩ := h
  exact ⟨⟨⟨h7.symm, by omega⟩, h6⟩, h8, h9⟩
theorem ok44 : FokM Try.prog none1 44 Try.f44 := ⟨mixed, by kernel_rfl, by kernel_rfl, by kernel_rfl, by kernel_rfl⟩
abbrev p44 (ch : List Int) (r : Room) (od : List Int) (q : Room) (s : List Pr) (t : Room) : Prop := p95 ch r od q ∧ pM s t
theorem r44a (ch : List Int) (r : Room) (od : List Int) (q : Room) (s : List Pr) (t : Room) (hp : p44 ch r od q s t.wk) (h : jOK s ∨ ¬ (raO ch od ∧ s.length = od.length)) : Body (En6 [c95.to, c72t.to, c99.to, c71g.to]) none1 Try.f44 [ls ch r, ls od q, pz s t.wk] .nil (wwV ch od s, .nil) := by
  by_cases h1 : raO ch od
  · have hb := raB_t h1
    by_cases h2 : (s.length : Int) = od.length
    · have hj : jOK s := by
        rcases h with h | h
        · exact h
        · exact absurd ⟨h1, by omega⟩ h
      have hs5 : s.length ≤ 5 := by have := h1.1; omega
      have p72 : pJ s t.wk ∧ jOK s := ⟨hp.2, hj⟩
      have p99 := pT_j hj (by omega)
      have el : (nums s).length = s.length := nmL_len _ _
      by_cases h3 : sI (ia (nums s)) (nums s).length ≤ stD s
      · have hw : wwO ch od s := ⟨h1, ⟨by omega, hj⟩, by rw [el] at h3; exact h3⟩
        have hpw := ww_pWo hw
        have hl := lp44 od q s hpw hp.1.2.2
        obtain ⟨⟨b1, b2⟩, b3, b4⟩ := wo_b hpw
        have hwl := woN_len od s s.length
        have p71 : pL (woN od s s.length) (rm 0 (woN od s s.length)) (stD s) := ⟨⟨by omega, by have := rn_rok (woN od s s.length); simpa [rn] using this⟩, fun i hi => by
          rw [woN_len] at hi
          have := (b4 i hi).2.2
          rw [woN_get hi]; omega, by omega, by omega⟩
        rw [ww_tv hw]
        refine body_s ([Ans.o (Orc.val 15 (AV.bool true) (H.mk [] [] [])), Ans.o (Orc.b false), Ans.o (Orc.val 26 (AV.tup [AV.agg [AV.sl (ints (nums s)) (nums s).length (rn (nums s)), I (↑(dn s s.length) : Int)], AV.bool true]) (H.mk [] [] [])), Ans.o (Orc.val 33 (I (sI (ia (nums s)) (nums s).length)) (H.mk [[AV.sl (ints (nums s)) (nums s).length (rn (nums s)), I (↑(dn s s.length) : Int)]] [] [])), Ans.o (Orc.b false), Ans.loop [(1 : Nat), (8 : Nat), (10 : Nat), (42 : Nat), (43 : Nat), (44 : Nat)] [Out.mk Unit (AX.exit (0 : Nat)) [(10 : Nat)] (fun x => True) (fun x => [AV.ptr 1 0]) (fun x => hW4 od s s.length) fun y => [Ans.o (Orc.val 68 (AV.sl (pairsA (spl (woN od s s.length) (stD s) (woN od s s.length).length)) (spl (woN od s s.length) (stD s) (woN od s s.length).length).length (rmz (2 : Nat) (spl (woN od s s.length) (stD s) (woN od s s.length).length)).wk) (H.mk [[AV.sl (ints (nums s)) (nums s).length (rn (nums s)), I (stD s)], [AV.sl (ints (woN od s s.length)) (woN od s s.length).length (rm (0 : Nat) (woN od s s.length)), I (stD s)]] (tk (woN od s s.length)) []))]]]) (aCall (Sof [c95.to, c72t.to, c99.to, c71g.to]) (AV.fn (Fn.func (95 : Nat)) [] []) [AV.sl (ints ch) ch.length r, AV.sl (ints od) od.length q] (H.mk [] [] []) = some (AV.bool true, H.mk [] [] []) ∧ (↑s.length : Int) = (↑od.length : Int) ∧ aCall (Sof [c95.to, c72t.to, c99.to, c71g.to]) (AV.fn (Fn.func (72 : Nat)) [] []) [AV.sl (pairsA s) s.length t.wk] (H.mk [] [] []) = some (AV.tup [AV.agg [AV.sl (ints (nums s)) (nums s).length (rn (nums s)), I (↑(dn s s.length) : Int)], AV.bool true], H.mk [] [] []) ∧ aCall (Sof [c95.to, c72t.to, c99.to, c71g.to]) (AV.fn (Fn.func (99 : Nat)) [] []) [AV.agg [AV.sl (ints (nums s)) (nums s).length (rn (nums s)), I (↑(dn s s.length) : Int)]] (H.mk [[AV.sl (ints (nums s)) (nums s).length (rn (nums s)), I (↑(dn s s.length) : Int)]] [] []) = some (I (sI (ia (nums s)) (nums s).length), H.mk [[AV.sl (ints (nums s)) (nums s).length (rn (nums s)), I (↑(dn s s.length) : Int)]] [] []) ∧ sI (ia (nums s)) (nums s).length ≤ (↑(dn s s.length) : Int) ∧ LoopS (Env.mk Try.prog (Sof [c95.to, c72t.to, c99.to, c71g.to]) (Pof (P := Try.prog) []) H.nil.base (300 : Nat)) (loopAt Try.f44 (0 : Nat)) (69 : Nat) [(1 : Nat), (8 : Nat), (10 : Nat), (42 : Nat), (43 : Nat), (44 : Nat)] [AV.sl (ints od) od.length q, AV.ptr 0 0, AV.ptr 1 0, AV.sl (ints (nums s)) (nums s).length (rn (nums s)), I (↑(nums s).length : Int), I 0] (H.mk [[AV.sl (ints (nums s)) (nums s).length (rn (nums s)), I (↑(dn s s.length) : Int)], [AV.sl [] (0 : Nat) Room.nil, I (↑(dn s s.length) : Int)]] [] []) [Out.mk Unit (AX.exit (0 : Nat)) [(10 : Nat)] (fun x => True) (fun x => [AV.ptr 1 0]) (fun x => hW4 od s s.length) fun y => [Ans.o (Orc.val 68 (AV.sl (pairsA (spl (woN od s s.length) (stD s) (woN od s s.length).length)) (spl (woN od s s.length) (stD s) (woN od s s.length).length).length (rmz (2 : Nat) (spl (woN od s s.length) (stD s) (woN od s s.length).length)).wk) (H.mk [[AV.sl (ints (nums s)) (nums s).length (rn (nums s)), I (stD s)], [AV.sl (ints (woN od s s.length)) (woN od s s.length).length (rm (0 : Nat) (woN od s s.length)), I (stD s)]] (tk (woN od s s.length)) []))]] ∧ (∀ (y : Unit), True → ∀ (u : Nat → AV), aCall (Sof [c95.to, c72t.to, c99.to, c71g.to]) (AV.fn (Fn.func (71 : Nat)) [] []) [AV.agg [AV.sl (ints (woN od s s.length)) (woN od s s.length).length (rm (0 : Nat) (woN od s s.length)), I (stD s)]] (H.mk [[AV.sl (ints (nums s)) (nums s).length (rn (nums s)), I (stD s)], [AV.sl (ints (woN od s s.length)) (woN od s s.length).length (rm (0 : Nat) (woN od s s.length)), I (stD s)]] (tk (woN od s s.length)) []) = some (AV.sl (pairsA (spl (woN od s s.length) (stD s) (woN od s s.length).length)) (spl (woN od s s.length) (stD s) (woN od s s.length).length).length (rmz (2 : Nat) (spl (woN od s s.length) (stD s) (woN od s s.length).length)).wk, H.mk [[AV.sl (ints (nums s)) (nums s).length (rn (nums s)), I (stD s)], [AV.sl (ints (woN od s s.length)) (woN od s s.length).length (rm (0 : Nat) (woN od s s.length)), I (stD s)]] (tk (woN od s s.length)) []) ∧ leave (Base.mk H.nil.blk.length H.nil.toks.length H.nil.maps.length) (AV.tup [AV.sl (pairsA (spl (woN od s s.length) (stD s) (woN od s s.length).length)) (spl (woN od s s.length) (stD s) (woN od s s.length).length).length (rmz (2 : Nat) (spl (woN od s s.length) (stD s) (woN od s s.length).length)).wk, I 0]) (H.mk [[AV.sl (ints (nums s)) (nums s).length (rn (nums s)), I (stD s)], [AV.sl (ints (woN od s s.length)) (woN od s s.length).length (rm (0 : Nat) (woN od s s.length)), I (stD s)]] (tk (woN od s s.length)) []) = (AV.tup [AV.sl (pairsA (spl (woN od s s.length) (stD s) (woN od s s.length).length)) (spl (woN od s s.length) (stD s) (woN od s s.length).length).length (rmz (2 : Nat) (spl (woN od s s.length) (stD s) (woN od s s.length).length)).wk, I 0], H.mk [] [] [])) ∧ True) (by kernel_rfl) ?_
        refine ⟨acall_b (acall_hit (c := c95.to) ((ch, r), od, q) _ rfl hp.1) hb, ?_⟩
        refine ⟨by first | with_reducible assumption | omega | assumption, ?_⟩
        refine ⟨acall_hit (c := c72t.to) (s, t.wk) _ rfl p72, ?_⟩
        refine ⟨acall_hit (c := c99.to) (nums s, rm 0 (nums s), stD s) _ rfl p99, ?_⟩
        refine ⟨by first | with_reducible assumption | omega | assumption, ?_⟩
        refine ⟨hl, ?_⟩
        refine And.intro ?_ ?_
        · skip
          intro y
          intro w1
          intro u
          refine ⟨acall_hit (c := c71g.to) (woN od s s.length, stD s) _ rfl p71, ?_⟩
          exact leave_any (by simp [AV.bnd, AV.bnds, rmz_bnd])
        · skip
          trivial
      · rw [ww_fv (fun q => h3 (by rw [el]; exact q.2.2))]
        have h3 : stD s < sI (ia (nums s)) (nums s).length := by omega
        refine body_s ([Ans.o (Orc.val 15 (AV.bool true) (H.mk [] [] [])), Ans.o (Orc.b false), Ans.o (Orc.val 26 (AV.tup [AV.agg [AV.sl (ints (nums s)) (nums s).length (rn (nums s)), I (↑(dn s s.length) : Int)], AV.bool true]) (H.mk [] [] [])), Ans.o (Orc.val 33 (I (sI (ia (nums s)) (nums s).length)) (H.mk [[AV.sl (ints (nums s)) (nums s).length (rn (nums s)), I (↑(dn s s.length) : Int)]] [] [])), Ans.o (Orc.b true)]) (aCall (Sof [c95.to, c72t.to, c99.to, c71g.to]) (AV.fn (Fn.func (95 : Nat)) [] []) [AV.sl (ints ch) ch.length r, AV.sl (ints od) od.length q] (H.mk [] [] []) = some (AV.bool true, H.mk [] [] []) ∧ (↑s.length : Int) = (↑od.length : Int) ∧ aCall (Sof [c95.to, c72t.to, c99.to, c71g.to]) (AV.fn (Fn.func (72 : Nat)) [] []) [AV.sl (pairsA s) s.length t.wk] (H.mk [] [] []) = some (AV.tup [AV.agg [AV.sl (ints (nums s)) (nums s).length (rn (nums s)), I (↑(dn s s.length) : Int)], AV.bool true], H.mk [] [] []) ∧ aCall (Sof [c95.to, c72t.to, c99.to, c71g.to]) (AV.fn (Fn.func (99 : Nat)) [] []) [AV.agg [AV.sl (ints (nums s)) (nums s).length (rn (nums s)), I (↑(dn s s.length) : Int)]] (H.mk [[AV.sl (ints (nums s)) (nums s).length (rn (nums s)), I (↑(dn s s.length) : Int)]] [] []) = some (I (sI (ia (nums s)) (nums s).length), H.mk [[AV.sl (ints (nums s)) (nums s).length (rn (nums s)), I (↑(dn s s.length) : Int)]] [] []) ∧ (↑(dn s s.length) : Int) < sI (ia (nums s)) (nums s).length ∧ (AV.tup [AV.sl [] (0 : Nat) Room.nil, I 2], H.mk [] [] []) = (AV.tup [AV.sl [] (0 : Nat) Room.nil, I 2], H.mk [] [] [])) (by kernel_rfl) ?_
        refine ⟨acall_b (acall_hit (c := c95.to) ((ch, r), od, q) _ rfl hp.1) hb, ?_⟩
        refine ⟨by first | with_reducible assumption | omega | assumption, ?_⟩
        refine ⟨acall_hit (c := c72t.to) (s, t.wk) _ rfl p72, ?_⟩
        refine ⟨acall_hit (c := c99.to) (nums s, rm 0 (nums s), stD s) _ rfl p99, ?_⟩
        refine ⟨by first | with_reducible assumption | omega | assumption, ?_⟩
        rfl
    · have h2 : (s.length : Int) ≠ od.length := h2
      rw [ww_fv (fun q => h2 (by have := q.2.1.1; omega))]
      refine body_s ([Ans.o (Orc.val 15 (AV.bool true) (H.mk [] [] [])), Ans.o (Orc.b true)]) (aCall (Sof [c95.to, c72t.to, c99.to, c71g.to]) (AV.fn (Fn.func (95 : Nat)) [] []) [AV.sl (ints ch) ch.length r, AV.sl (ints od) od.length q] (H.mk [] [] []) = some (AV.bool true, H.mk [] [] []) ∧ (↑s.length : Int) ≠ (↑od.length : Int) ∧ (AV.tup [AV.sl [] (0 : Nat) Room.nil, I 2], H.mk [] [] []) = (AV.tup [AV.sl [] (0 : Nat) Room.nil, I 2], H.mk [] [] [])) (by kernel_rfl) ?_
      refine ⟨acall_b (acall_hit (c := c95.to) ((ch, r), od, q) _ rfl hp.1) hb, ?_⟩
      refine ⟨by first | with_reducible assumption | omega | assumption, ?_⟩
      rfl
  · have hb := raB_f h1
    rw [ww_fv (fun q => h1 q.1)]
    refine body_s ([Ans.o (Orc.val 15 (AV.bool false) (H.mk [] [] []))]) (aCall (Sof [c95.to, c72t.to, c99.to, c71g.to]) (AV.fn (Fn.func (95 : Nat)) [] []) [AV.sl (ints ch) ch.length r, AV.sl (ints od) od.length q] (H.mk [] [] []) = some (AV.bool false, H.mk [] [] []) ∧ (AV.tup [AV.sl [] (0 : Nat) Room.nil, I 2], H.mk [] [] []) = (AV.tup [AV.sl [] (0 : Nat) Room.nil, I 2], H.mk [] [] [])) (by kernel_rfl) ?_
    refine ⟨acall_b (acall_hit (c := c95.to) ((ch, r), od, q) _ rfl hp.1) hb, ?_⟩
    rfl
theorem r44b (ch : List Int) (r : Room) (od : List Int) (q : Room) (s : List Pr) (t : Room) (hp : p44 ch r od q s t.wk) (h1 : raO ch od) (h2 : s.length = od.length) (h3 : ¬ jOK s) : Body (En6 [c95.to, c72f.to, c99.to, c71g.to]) none1 Try.f44 [ls ch r, ls od q, pz s t.wk] .nil (wwV ch od s, .nil) := by
  have hb := raB_t h1
  have h2 : (s.length : Int) = od.length := by omega
  have p72 : pJ s t.wk ∧ ¬ jOK s := ⟨hp.2, h3⟩
  rw [ww_fv (fun q => h3 q.2.1.2)]
  refine body_s ([Ans.o (Orc.val 15 (AV.bool true) (H.mk [] [] [])), Ans.o (Orc.b false), Ans.o (Orc.val 26 (AV.tup [AV.agg [AV.sl [] (0 : Nat) Room.nil, I 0], AV.bool false]) (H.mk [] [] []))]) (aCall (Sof [c95.to, c72f.to, c99.to, c71g.to]) (AV.fn (Fn.func (95 : Nat)) [] []) [AV.sl (ints ch) ch.length r, AV.sl (ints od) od.length q] (H.mk [] [] []) = some (AV.bool true, H.mk [] [] []) ∧ (↑s.length : Int) = (↑od.length : Int) ∧ aCall (Sof [c95.to, c72f.to, c99.to, c71g.to]) (AV.fn (Fn.func (72 : Nat)) [] []) [AV.sl (pairsA s) s.length t.wk] (H.mk [] [] []) = some (AV.tup [AV.agg [AV.sl [] (0 : Nat) Room.nil, I 0], AV.bool false], H.mk [] [] []) ∧ (AV.tup [AV.sl [] (0 : Nat) Room.nil, I 2], H.mk [] [] []) = (AV.tup [AV.sl [] (0 : Nat) Room.nil, I 2], H.mk [] [] [])) (by kernel_rfl) ?_
  refine ⟨acall_b (acall_hit (c := c95.to) ((ch, r), od, q) _ rfl hp.1) hb, ?_⟩
  refine ⟨by first | with_reducible assumption | omega | assumption, ?_⟩
  refine ⟨acall_hit (c := c72f.to) (s, t.wk) _ rfl p72, ?_⟩
  rfl
theorem r44 (ch : List Int) (r : Room) (od : List Int) (q : Room) (s : List Pr) (t : Room) (hp : p44 ch r od q s t.wk) : CallOk Try.prog 44 [ls ch r, ls od q, pz s t.wk] .nil (wwV ch od s) .nil := by
  by_cases h : jOK s ∨ ¬ (raO ch od ∧ s.length = od.length)
  · exact (r44a ch r od q s t hp h).run ok44 (.pure _ (.pure _ (.pure _ (.pure _ .nil)))) rfl
  · have h1 : ¬ jOK s := fun q => h (.inl q)
    have h2 : raO ch od ∧ s.length = od.length := Classical.byContradiction fun q => h (.inr q)
    exact (r44b ch r od q s t hp h2.1 h2.2 h1).run ok44 (.pure _ (.pure _ (.pure _ (.pure _ .nil)))) rfl
noncomputable def c44 : PCtr Try.prog := cctr (f := 44) ok44.call (X := (List Int × Room) × (List Int × Room) × List Pr × Room) (fun x => [ls x.1.1 x.1.2, ls x.2.1.1 x.2.1.2, pz x.2.2.1 x.2.2.2]) (fun x => p44 x.1.1 x.1.2 x.2.1.1 x.2.1.2 x.2.2.1 x.2.2.2) (fun x => wwV x.1.1 x.2.1.1 x.2.2.1)
  (by
    rintro ⟨⟨l, r⟩, ⟨o, q⟩, m, s⟩ ⟨⟨l', r'⟩, ⟨o', q'⟩, m', s'⟩ e _ _
    simp only [List.cons.injEq, and_true] at e
    simp only [ls_det e.1, ls_det e.2.1, pz_det e.2.2]) (fun x => by simp [AV.bnds, AV.bnd, AV.wk, rm_wk_bnd]) (fun x => by simp [AV.bnd, AV.bnds, rmz_bnd])
  (fun x hx => r44 x.1.1 x.1.2.wk x.2.1.1 x.2.1.2.wk x.2.2.1 x.2.2.2 ⟨⟨⟨hx.1.1.1, by simpa using hx.1.1.2⟩, hx.1.2.1, by simpa using hx.1.2.2⟩, hx.2.1, by simpa using hx.2.2.1, hx.2.2.2⟩)
end Go.Proofs.Bts

