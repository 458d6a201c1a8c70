/- Layer 2: the first way and round, by the reference. -/
import Derived.Test.YtnnhomkkggkkfaaDoorRkBw
import Derived.KernelRfl
set_option linter.unusedSimpArgs false
set_option linter.unusedVariables false
set_option linter.unnecessarySimpa false
set_option maxHeartbeats 4000000
set_option maxRecDepth 100000
namespace Go.Proofs.Rnk
open Go Go.VM

theorem simpB68 : allSimpleN N68 none1 (bd Tryd.f68) = true := by kernel_rfl
theorem lq_ne {b : List Int} (h : b ≠ []) : lq b = ls b .no := by
  rcases rq_c b with ⟨_, e⟩ | ⟨e, _⟩
  · exact absurd e h
  · simp only [lq, e]
theorem leaveW (l : List Int) (T : List Nat) : leave ⟨0, 0, 0⟩ (ls l .no) ⟨[], T, []⟩ = (ls l .no, .nil) := by
  have hb : AV.bnds 0 0 0 (ints l) = true := enc_bnds ints_c1 l 0 0 0
  simp [leave, AV.bnd, hb, Room.bnd]
theorem leaveW2 (l : List Int) (e : Int) : leave ⟨0, 0, 0⟩ (.tup [ls l .no, I e]) .nil = (.tup [ls l .no, I e], .nil) := by
  have hb : AV.bnds 0 0 0 (ints l) = true := enc_bnds ints_c1 l 0 0 0
  simp [leave, AV.bnd, AV.bnds, hb, Room.bnd]
theorem r68zf (t : List Int) (r : Room) (b : List Int) (m : Nat) : Body (En6 []) none1 Tryd.f68 [ls t r, I b.length, ls b .no, I m, .bool false] .nil (ls b .no, .nil) := by
  have c0 : (b.length : Int) = (b.length : Int) := rfl
  refine body_s ([Ans.o (Orc.b true)]) ((↑b.length : Int) = (↑b.length : Int) ∧ leave (Base.mk H.nil.blk.length H.nil.toks.length H.nil.maps.length) (ls b Room.no) (H.mk [] [] []) = (ls b Room.no, H.mk [] [] [])) (by kernel_rfl) ?_
  refine ⟨by first | with_reducible assumption | omega | assumption, ?_⟩
  first | exact leaveW _ _ | rfl
theorem r68zt (t : List Int) (r : Room) (b : List Int) (m : Nat) (p : WyP t b r 0 b.length m) : Body (En6 []) none1 Tryd.f68 [ls t r, I b.length, ls b .no, I m, .bool true] .nil (ov (if (sn t (lastN b)).testBit (frsN b) then some b else none), .nil) := by
  have c0 : (b.length : Int) = (b.length : Int) := rfl
  have h := p.h
  have h8 := h.s.2
  have hl := p.k1
  have hl8 := p.k8
  have hb1 : b.length - 1 < b.length := by omega
  have hb0 : 0 < b.length := by omega
  obtain ⟨d0, d1⟩ := p.i _ hb1
  obtain ⟨f0, f1⟩ := p.i _ hb0
  have d2 : (b.getD (b.length - 1) i0).toNat < t.length := by omega
  have hri := rok_idx p.r d2
  have ev6 : IntKind.i64.wrap ((b.length : Int) - 1) = ((b.length - 1 : Nat) : Int) := by rw [wr _ (by omega) (by omega)]; omega
  have hs := h.s8 (lastN b)
  have e3 : ((frsN b : Nat) : Int) = b.getD 0 i0 := by simp only [frsN]; omega
  cases c2 : (sn t (lastN b)).testBit (frsN b)
  · have hnb2 : bi (ia t (lastN b)) (frsN b) = false := c2
    obtain ⟨ev7, ev8⟩ := i_bit0 hs (show frsN b ≤ 64 by omega) hnb2
    rw [e3] at ev7
    refine body_s ([Ans.o (Orc.b true), Ans.o (Orc.val 24 (I (↑(b.length - (1 : Nat)) : Int)) H.nil), Ans.o (Orc.val 25 (AV.cptr (ints (List.drop (b.length - (1 : Nat)) b))) H.nil), Ans.o (Orc.val 26 (I (b.getD (b.length - (1 : Nat)) i0)) H.nil), Ans.o (Orc.val 27 (AV.cptr (ints (List.drop (b.getD (b.length - (1 : Nat)) i0).toNat t))) H.nil), Ans.o (Orc.val 28 (I (t.getD (b.getD (b.length - (1 : Nat)) i0).toNat i0)) H.nil), Ans.o (Orc.val 30 (AV.cptr (ints (List.drop (0 : Nat) b))) H.nil), Ans.o (Orc.val 31 (I (b.getD (0 : Nat) i0)) H.nil), Ans.o (Orc.val 32 (I (↑((ia t (lastN b)).toNat >>> frsN b) : Int)) H.nil), Ans.o (Orc.val 33 (I 0) H.nil), Ans.o Orc.dflt]) ((↑b.length : Int) = (↑b.length : Int) ∧ aBin Tryd.prog BinOp.sub (3 : Nat) (I (↑b.length : Int)) (I 1) = some (I (↑(b.length - (1 : Nat)) : Int)) ∧ aIndexAddr Tryd.prog 22 (ls b Room.no) (I (↑(b.length - (1 : Nat)) : Int)) = some (AV.cptr (ints (List.drop (b.length - (1 : Nat)) b))) ∧ aLoad Tryd.prog 3 (ints (List.drop (b.length - (1 : Nat)) b)) = some (I (b.getD (b.length - (1 : Nat)) i0)) ∧ aIndexAddr Tryd.prog 22 (ls t r) (I (b.getD (b.length - (1 : Nat)) i0)) = some (AV.cptr (ints (List.drop (b.getD (b.length - (1 : Nat)) i0).toNat t))) ∧ aLoad Tryd.prog 3 (ints (List.drop (b.getD (b.length - (1 : Nat)) i0).toNat t)) = some (I (t.getD (b.getD (b.length - (1 : Nat)) i0).toNat i0)) ∧ aIndexAddr Tryd.prog 22 (ls b Room.no) (I 0) = some (AV.cptr (ints (List.drop (0 : Nat) b))) ∧ aLoad Tryd.prog 3 (ints (List.drop (0 : Nat) b)) = some (I (b.getD (0 : Nat) i0)) ∧ aBin Tryd.prog BinOp.shr (3 : Nat) (I (t.getD (b.getD (b.length - (1 : Nat)) i0).toNat i0)) (I (b.getD (0 : Nat) i0)) = some (I (↑((ia t (lastN b)).toNat >>> frsN b) : Int)) ∧ aBin Tryd.prog BinOp.and (3 : Nat) (I (↑((ia t (lastN b)).toNat >>> frsN b) : Int)) (I 1) = some (I 0) ∧ (AV.sl [] (0 : Nat) Room.nil, H.mk [] [] []) = (AV.sl [] (0 : Nat) Room.nil, H.mk [] [] [])) (by kernel_rfl) ?_
    refine ⟨by first | with_reducible assumption | omega | assumption, ?_⟩
    refine ⟨told_sub (by with_reducible assumption), ?_⟩
    refine ⟨by first | exact ix_ints (by kernel_rfl) hb1 no_ne | exact ix_ints (by kernel_rfl) hb0 no_ne | exact ix_intsI (by kernel_rfl) d0 d1 hri, ?_⟩
    refine ⟨by first | exact ld_ints (by kernel_rfl) (by kernel_rfl) hb1 | exact ld_ints (by kernel_rfl) (by kernel_rfl) hb0 | exact ld_ints (by kernel_rfl) (by kernel_rfl) d2, ?_⟩
    refine ⟨by first | exact ix_ints (by kernel_rfl) hb1 no_ne | exact ix_ints (by kernel_rfl) hb0 no_ne | exact ix_intsI (by kernel_rfl) d0 d1 hri, ?_⟩
    refine ⟨by first | exact ld_ints (by kernel_rfl) (by kernel_rfl) hb1 | exact ld_ints (by kernel_rfl) (by kernel_rfl) hb0 | exact ld_ints (by kernel_rfl) (by kernel_rfl) d2, ?_⟩
    refine ⟨by first | exact ix_ints (by kernel_rfl) hb1 no_ne | exact ix_ints (by kernel_rfl) hb0 no_ne | exact ix_intsI (by kernel_rfl) d0 d1 hri, ?_⟩
    refine ⟨by first | exact ld_ints (by kernel_rfl) (by kernel_rfl) hb1 | exact ld_ints (by kernel_rfl) (by kernel_rfl) hb0 | exact ld_ints (by kernel_rfl) (by kernel_rfl) d2, ?_⟩
    refine ⟨by first | exact told_shr (by first | exact Int.natCast_nonneg _ | omega) (by with_reducible assumption) | exact told_shr (by omega) rfl, ?_⟩
    refine ⟨told_and (by with_reducible assumption), ?_⟩
    first | exact leaveW _ _ | rfl
  · have hnb2 : bi (ia t (lastN b)) (frsN b) = true := c2
    obtain ⟨ev7, ev8⟩ := i_bit1 hs (show frsN b ≤ 64 by omega) hnb2
    rw [e3] at ev7
    refine body_s ([Ans.o (Orc.b true), Ans.o (Orc.val 24 (I (↑(b.length - (1 : Nat)) : Int)) H.nil), Ans.o (Orc.val 25 (AV.cptr (ints (List.drop (b.length - (1 : Nat)) b))) H.nil), Ans.o (Orc.val 26 (I (b.getD (b.length - (1 : Nat)) i0)) H.nil), Ans.o (Orc.val 27 (AV.cptr (ints (List.drop (b.getD (b.length - (1 : Nat)) i0).toNat t))) H.nil), Ans.o (Orc.val 28 (I (t.getD (b.getD (b.length - (1 : Nat)) i0).toNat i0)) H.nil), Ans.o (Orc.val 30 (AV.cptr (ints (List.drop (0 : Nat) b))) H.nil), Ans.o (Orc.val 31 (I (b.getD (0 : Nat) i0)) H.nil), Ans.o (Orc.val 32 (I (↑((ia t (lastN b)).toNat >>> frsN b) : Int)) H.nil), Ans.o (Orc.val 33 (I 1) H.nil), Ans.o Orc.dflt]) ((↑b.length : Int) = (↑b.length : Int) ∧ aBin Tryd.prog BinOp.sub (3 : Nat) (I (↑b.length : Int)) (I 1) = some (I (↑(b.length - (1 : Nat)) : Int)) ∧ aIndexAddr Tryd.prog 22 (ls b Room.no) (I (↑(b.length - (1 : Nat)) : Int)) = some (AV.cptr (ints (List.drop (b.length - (1 : Nat)) b))) ∧ aLoad Tryd.prog 3 (ints (List.drop (b.length - (1 : Nat)) b)) = some (I (b.getD (b.length - (1 : Nat)) i0)) ∧ aIndexAddr Tryd.prog 22 (ls t r) (I (b.getD (b.length - (1 : Nat)) i0)) = some (AV.cptr (ints (List.drop (b.getD (b.length - (1 : Nat)) i0).toNat t))) ∧ aLoad Tryd.prog 3 (ints (List.drop (b.getD (b.length - (1 : Nat)) i0).toNat t)) = some (I (t.getD (b.getD (b.length - (1 : Nat)) i0).toNat i0)) ∧ aIndexAddr Tryd.prog 22 (ls b Room.no) (I 0) = some (AV.cptr (ints (List.drop (0 : Nat) b))) ∧ aLoad Tryd.prog 3 (ints (List.drop (0 : Nat) b)) = some (I (b.getD (0 : Nat) i0)) ∧ aBin Tryd.prog BinOp.shr (3 : Nat) (I (t.getD (b.getD (b.length - (1 : Nat)) i0).toNat i0)) (I (b.getD (0 : Nat) i0)) = some (I (↑((ia t (lastN b)).toNat >>> frsN b) : Int)) ∧ aBin Tryd.prog BinOp.and (3 : Nat) (I (↑((ia t (lastN b)).toNat >>> frsN b) : Int)) (I 1) = some (I 1) ∧ leave (Base.mk H.nil.blk.length H.nil.toks.length H.nil.maps.length) (ls b Room.no) (H.mk [] [] []) = (ls b Room.no, H.mk [] [] [])) (by kernel_rfl) ?_
    refine ⟨by first | with_reducible assumption | omega | assumption, ?_⟩
    refine ⟨told_sub (by with_reducible assumption), ?_⟩
    refine ⟨by first | exact ix_ints (by kernel_rfl) hb1 no_ne | exact ix_ints (by kernel_rfl) hb0 no_ne | exact ix_intsI (by kernel_rfl) d0 d1 hri, ?_⟩
    refine ⟨by first | exact ld_ints (by kernel_rfl) (by kernel_rfl) hb1 | exact ld_ints (by kernel_rfl) (by kernel_rfl) hb0 | exact ld_ints (by kernel_rfl) (by kernel_rfl) d2, ?_⟩
    refine ⟨by first | exact ix_ints (by kernel_rfl) hb1 no_ne | exact ix_ints (by kernel_rfl) hb0 no_ne | exact ix_intsI (by kernel_rfl) d0 d1 hri, ?_⟩
    refine ⟨by first | exact ld_ints (by kernel_rfl) (by kernel_rfl) hb1 | exact ld_ints (by kernel_rfl) (by kernel_rfl) hb0 | exact ld_ints (by kernel_rfl) (by kernel_rfl) d2, ?_⟩
    refine ⟨by first | exact ix_ints (by kernel_rfl) hb1 no_ne | exact ix_ints (by kernel_rfl) hb0 no_ne | exact ix_intsI (by kernel_rfl) d0 d1 hri, ?_⟩
    refine ⟨by first | exact ld_ints (by kernel_rfl) (by kernel_rfl) hb1 | exact ld_ints (by kernel_rfl) (by kernel_rfl) hb0 | exact ld_ints (by kernel_rfl) (by kernel_rfl) d2, ?_⟩
    refine ⟨by first | exact told_shr (by first | exact Int.natCast_nonneg _ | omega) (by with_reducible assumption) | exact told_shr (by omega) rfl, ?_⟩
    refine ⟨told_and (by with_reducible assumption), ?_⟩
    first | exact leaveW _ _ | rfl
theorem r68t (f : Nat) (hok : Ok68 f) (t : List Int) (r : Room) (kk : Nat) (b : List Int) (m : Nat) (p : WyP t b r (f + 1) kk m) : Body (En6 [(c68 f hok).to]) none1 Tryd.f68 [ls t r, I kk, lq b, I m, .bool true] .nil (ov (fRw (sn t) t.length true f b m t.length), .nil) := by
  have hl := p.l
  have c0 : (b.length : Int) ≠ (kk : Int) := by omega
  have lp := lp68t f hok t r kk b m p
  refine body_s ([Ans.o (Orc.b false), Ans.loop [0, 1, 2, 3, 4, 11, 38, 39] [Out.mk (List Int × List Nat) AX.ret [10] (fun y => fRw (sn t) t.length true f b m t.length = some y.fst) (fun y => [AV.sl (ints y.fst) y.fst.length Room.no]) (fun y => H.mk [] y.snd []) fun y => [], Out.mk (List Nat) (AX.exit 0) [] (fun x => fRw (sn t) t.length true f b m t.length = none) (fun x => []) (fun T => H.mk [] T []) fun y => []]]) ((↑b.length : Int) ≠ (↑kk : Int) ∧ LoopS (En6 [(c68 f hok).to]) (loopAt Tryd.f68 0) 84 [0, 1, 2, 3, 4, 11, 38, 39] [ls t r, I (↑kk : Int), ls b (rq b), I (↑m : Int), AV.bool true, I (↑b.length : Int), I (↑t.length : Int), I 0] (H.mk [] [] []) [Out.mk (List Int × List Nat) AX.ret [10] (fun y => fRw (sn t) t.length true f b m t.length = some y.fst) (fun y => [AV.sl (ints y.fst) y.fst.length Room.no]) (fun y => H.mk [] y.snd []) fun y => [], Out.mk (List Nat) (AX.exit 0) [] (fun x => fRw (sn t) t.length true f b m t.length = none) (fun x => []) (fun T => H.mk [] T []) fun y => []] ∧ (∀ (y : List Int × List Nat), fRw (sn t) t.length true f b m t.length = some y.fst → ∀ (u : Nat → AV), leave (Base.mk H.nil.blk.length H.nil.toks.length H.nil.maps.length) (AV.sl (ints y.fst) y.fst.length Room.no) (H.mk [] y.snd []) = (ov (fRw (sn t) t.length true f b m t.length), H.mk [] [] [])) ∧ (∀ (y : List Nat), fRw (sn t) t.length true f b m t.length = none → ∀ (u : Nat → AV), (AV.sl [] (0 : Nat) Room.nil, H.mk [] [] []) = (ov (fRw (sn t) t.length true f b m t.length), H.mk [] [] [])) ∧ True) (by kernel_rfl) ?_
  refine ⟨by first | with_reducible assumption | omega | assumption, ?_⟩
  refine ⟨lp, ?_⟩
  refine And.intro ?_ ?_
  · skip
    intro y
    intro w1
    intro u
    first | (rw [w1]; exact leaveW _ _) | (rw [w1]; done) | (rw [w1]; rfl)
  · skip
    refine And.intro ?_ ?_
    · skip
      intro y
      intro w1
      intro u
      first | (rw [w1]; exact leaveW _ _) | (rw [w1]; done) | (rw [w1]; rfl)
    · skip
      trivial
theorem r68f (f : Nat) (hok : Ok68 f) (t : List Int) (r : Room) (kk : Nat) (b : List Int) (m : Nat) (p : WyP t b r (f + 1) kk m) : Body (En6 [(c68 f hok).to]) none1 Tryd.f68 [ls t r, I kk, lq b, I m, .bool false] .nil (ov (fRw (sn t) t.length false f b m t.length), .nil) := by
  have hl := p.l
  have c0 : (b.length : Int) ≠ (kk : Int) := by omega
  have lp := lp68f f hok t r kk b m p
  refine body_s ([Ans.o (Orc.b false), Ans.loop [0, 1, 2, 3, 4, 11, 38, 39] [Out.mk (List Int × List Nat) AX.ret [10] (fun y => fRw (sn t) t.length false f b m t.length = some y.fst) (fun y => [AV.sl (ints y.fst) y.fst.length Room.no]) (fun y => H.mk [] y.snd []) fun y => [], Out.mk (List Nat) (AX.exit 0) [] (fun x => fRw (sn t) t.length false f b m t.length = none) (fun x => []) (fun T => H.mk [] T []) fun y => []]]) ((↑b.length : Int) ≠ (↑kk : Int) ∧ LoopS (En6 [(c68 f hok).to]) (loopAt Tryd.f68 0) 84 [0, 1, 2, 3, 4, 11, 38, 39] [ls t r, I (↑kk : Int), ls b (rq b), I (↑m : Int), AV.bool false, I (↑b.length : Int), I (↑t.length : Int), I 0] (H.mk [] [] []) [Out.mk (List Int × List Nat) AX.ret [10] (fun y => fRw (sn t) t.length false f b m t.length = some y.fst) (fun y => [AV.sl (ints y.fst) y.fst.length Room.no]) (fun y => H.mk [] y.snd []) fun y => [], Out.mk (List Nat) (AX.exit 0) [] (fun x => fRw (sn t) t.length false f b m t.length = none) (fun x => []) (fun T => H.mk [] T []) fun y => []] ∧ (∀ (y : List Int × List Nat), fRw (sn t) t.length false f b m t.length = some y.fst → ∀ (u : Nat → AV), leave (Base.mk H.nil.blk.length H.nil.toks.length H.nil.maps.length) (AV.sl (ints y.fst) y.fst.length Room.no) (H.mk [] y.snd []) = (ov (fRw (sn t) t.length false f b m t.length), H.mk [] [] [])) ∧ (∀ (y : List Nat), fRw (sn t) t.length false f b m t.length = none → ∀ (u : Nat → AV), (AV.sl [] (0 : Nat) Room.nil, H.mk [] [] []) = (ov (fRw (sn t) t.length false f b m t.length), H.mk [] [] [])) ∧ True) (by kernel_rfl) ?_
  refine ⟨by first | with_reducible assumption | omega | assumption, ?_⟩
  refine ⟨lp, ?_⟩
  refine And.intro ?_ ?_
  · skip
    intro y
    intro w1
    intro u
    first | (rw [w1]; exact leaveW _ _) | (rw [w1]; done) | (rw [w1]; rfl)
  · skip
    refine And.intro ?_ ?_
    · skip
      intro y
      intro w1
      intro u
      first | (rw [w1]; exact leaveW _ _) | (rw [w1]; done) | (rw [w1]; rfl)
    · skip
      trivial
theorem all68 : ∀ f, Ok68 f
  | 0 => fun t r k b m rd p => by
    have e : k = b.length := p.l.symm
    subst e
    have hne : b ≠ [] := fun e => by have := p.k1; rw [e] at this; simp at this
    rw [lq_ne hne]
    cases rd
    · exact (r68zf t r b m).callN ok68 simpB68 (rests mixed .nil) (Nf := N68) (free_sof (fun c hc => by cases hc)) rfl
    · have e : wyM (sn t) t.length true 0 b m = (if (sn t (lastN b)).testBit (frsN b) then some b else none) := by
        rw [wyM]
        cases (sn t (lastN b)).testBit (frsN b) <;> rfl
      rw [e]
      exact (r68zt t r b m p).callN ok68 simpB68 (rests mixed .nil) (Nf := N68) (free_sof (fun c hc => by cases hc)) rfl
  | f + 1 => fun t r k b m rd p => by
    rw [wyM_go]
    cases rd
    · exact (r68f f (all68 f) t r k b m p).callN ok68 simpB68 (rests mixed (ct68 f (all68 f))) (free68 f (all68 f)) rfl
    · exact (r68t f (all68 f) t r k b m p).callN ok68 simpB68 (rests mixed (ct68 f (all68 f))) (free68 f (all68 f)) rfl
abbrev rowR (t : List Int) (k : Nat) (rd : Bool) : Option (List Int) := wyM (sn t) t.length rd k [] 0
noncomputable def c68z (rd : Bool) : PCtr Tryd.prog where
  f := 68
  X := (List Int × Room) × Nat
  args x := [ls x.1.1 x.1.2, I x.2, .sl [] 0 .nil, I 0, .bool rd]
  pre x := (Tn x.1.1 ∧ rok x.1.1 x.1.2) ∧ 1 ≤ x.2 ∧ x.2 ≤ 8
  v x := ov (rowR x.1.1 x.2 rd)
  det := by
    rintro ⟨⟨t, r⟩, k⟩ ⟨⟨t', r'⟩, k'⟩ e _ _
    simp only [List.cons.injEq, AV.sl.injEq, AV.int.injEq, and_true, true_and] at e
    obtain ⟨⟨e1, -⟩, e2⟩ := e
    have e1 := ints_inj e1
    have e2 : k = k' := by omega
    subst e1 e2; rfl
  ok := by
    rintro ⟨⟨t, r⟩, k⟩ ⟨⟨h, hr⟩, h1, h2⟩
    exact (c68 k (all68 k)).ok ((t, r), k, ([], .nil), 0, rd) ⟨⟨h, hr, by simp, h1, h2, (by show 0 < 256; omega), fun j hj => by simp at hj⟩, rfl⟩
theorem ok30 : FokM Tryd.prog none1 30 Tryd.f30 := ⟨mixed, by kernel_rfl, by kernel_rfl, by kernel_rfl, by kernel_rfl⟩
theorem r30 (t : List Int) (r : Room) (h : Tn t) (hr : rok t r) (l : List Int) (hl : rowR t t.length false = some l) : Body (En6 [(c68z false).to]) none1 Tryd.f30 [ls t r] .nil (ls l .no, .nil) := by
  have p : (Tn t ∧ rok t r) ∧ 1 ≤ t.length ∧ t.length ≤ 8 := ⟨⟨h, hr⟩, h.s.1, h.s.2⟩
  have hc : aCall (Sof [(c68z false).to]) (.fn (.func 68) [] []) [ls t r, I t.length, .sl [] 0 .nil, I 0, .bool false] .nil = some (ls l .no, .nil) := by
    have := acall_hit (c := (c68z false).to) (cs := [(c68z false).to]) ((t, r), t.length) (h := .nil) rfl p
    have e : (c68z false).to.res ((t, r), t.length) .nil = (ls l .no, .nil) := by show (ov (rowR t t.length false), H.nil) = _; rw [hl]
    rw [e] at this; exact this
  refine body_s ([Ans.o (Orc.val 6 (ls l Room.no) (H.mk [] [] []))]) (aCall (Sof [(c68z false).to]) (AV.fn (Fn.func 68) [] []) [ls t r, I (↑t.length : Int), AV.sl [] (0 : Nat) Room.nil, I 0, AV.bool false] (H.mk [] [] []) = some (ls l Room.no, H.mk [] [] []) ∧ leave (Base.mk H.nil.blk.length H.nil.toks.length H.nil.maps.length) (ls l Room.no) (H.mk [] [] []) = (ls l Room.no, H.mk [] [] [])) (by kernel_rfl) ?_
  refine ⟨hc, ?_⟩
  exact leaveW _ _
theorem ok31 : FokM Tryd.prog none1 31 Tryd.f31 := ⟨mixed, by kernel_rfl, by kernel_rfl, by kernel_rfl, by kernel_rfl⟩
theorem r31t (t : List Int) (r : Room) (k : Nat) (h : Tn t) (hr : rok t r) (h1 : 1 ≤ k) (h2 : k ≤ 8) (l : List Int) (hl : rowR t k true = some l) : Body (En6 [(c68z true).to]) none1 Tryd.f31 [ls t r, I k] .nil (.tup [ls l .no, I 0], .nil) := by
  have p : (Tn t ∧ rok t r) ∧ 1 ≤ k ∧ k ≤ 8 := ⟨⟨h, hr⟩, h1, h2⟩
  have hc : aCall (Sof [(c68z true).to]) (.fn (.func 68) [] []) [ls t r, I k, .sl [] 0 .nil, I 0, .bool true] .nil = some (ls l .no, .nil) := by
    have := acall_hit (c := (c68z true).to) (cs := [(c68z true).to]) ((t, r), k) (h := .nil) rfl p
    have e : (c68z true).to.res ((t, r), k) .nil = (ls l .no, .nil) := by show (ov (rowR t k true), H.nil) = _; rw [hl]
    rw [e] at this; exact this
  refine body_s ([Ans.o (Orc.val 9 (ls l Room.no) (H.mk [] [] []))]) (aCall (Sof [(c68z true).to]) (AV.fn (Fn.func 68) [] []) [ls t r, I (↑k : Int), AV.sl [] (0 : Nat) Room.nil, I 0, AV.bool true] (H.mk [] [] []) = some (ls l Room.no, H.mk [] [] []) ∧ leave (Base.mk H.nil.blk.length H.nil.toks.length H.nil.maps.length) (AV.tup [ls l Room.no, I 0]) (H.mk [] [] []) = (AV.tup [ls l Room.no, I 0], H.mk [] [] [])) (by kernel_rfl) ?_
  refine ⟨hc, ?_⟩
  exact leaveW2 _ _
theorem r31f (t : List Int) (r : Room) (k : Nat) (h : Tn t) (hr : rok t r) (h1 : 1 ≤ k) (h2 : k ≤ 8) (hl : rowR t k true = none) : Body (En6 [(c68z true).to]) none1 Tryd.f31 [ls t r, I k] .nil (.tup [.sl [] 0 .nil, I 4], .nil) := by
  have p : (Tn t ∧ rok t r) ∧ 1 ≤ k ∧ k ≤ 8 := ⟨⟨h, hr⟩, h1, h2⟩
  have hc : aCall (Sof [(c68z true).to]) (.fn (.func 68) [] []) [ls t r, I k, .sl [] 0 .nil, I 0, .bool true] .nil = some (.sl [] 0 .nil, .nil) := by
    have := acall_hit (c := (c68z true).to) (cs := [(c68z true).to]) ((t, r), k) (h := .nil) rfl p
    have e : (c68z true).to.res ((t, r), k) .nil = (.sl [] 0 .nil, .nil) := by show (ov (rowR t k true), H.nil) = _; rw [hl]
    rw [e] at this; exact this
  refine body_s ([Ans.o (Orc.val 9 (AV.sl [] (0 : Nat) Room.nil) (H.mk [] [] []))]) (aCall (Sof [(c68z true).to]) (AV.fn (Fn.func 68) [] []) [ls t r, I (↑k : Int), AV.sl [] (0 : Nat) Room.nil, I 0, AV.bool true] (H.mk [] [] []) = some (AV.sl [] (0 : Nat) Room.nil, H.mk [] [] []) ∧ (AV.tup [AV.sl [] (0 : Nat) Room.nil, I 4], H.mk [] [] []) = (AV.tup [AV.sl [] (0 : Nat) Room.nil, I 4], H.mk [] [] [])) (by kernel_rfl) ?_
  refine ⟨hc, ?_⟩
  rfl
end Go.Proofs.Rnk

