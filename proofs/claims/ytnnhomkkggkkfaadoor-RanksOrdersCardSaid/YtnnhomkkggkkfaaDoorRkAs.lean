/- Layer 2: the best order, by the program. -/
import Derived.Test.YtnnhomkkggkkfaaDoorRkAr
import Derived.Test.YtnnhomkkggkkfaaDoorRkD
import Derived.Test.YtnnhomkkggkkfaaDoorRkR
import Derived.Test.YtnnhomkkggkkfaaDoorVm9
import Derived.KernelRfl
set_option linter.unusedSimpArgs false
set_option linter.unusedVariables false
set_option linter.unnecessarySimpa false
set_option maxHeartbeats 4000000
set_option maxRecDepth 100000
namespace Go.Proofs.Rnk
open Go Go.VM
open Go.Proofs.Sur (andn andn_bit andn_le i_wrap i_and i_or i_andn i_shl i_shr bit_01)

/-- the best order's first ones -/
def oL (t : List Int) (k : Nat) : List Int := (List.range k).map fun i => ((oo (sn t) (alls t.length) i : Nat) : Int)
@[simp] theorem oL_len (t : List Int) (k : Nat) : (oL t k).length = k := by simp [oL]
theorem oL_succ (t : List Int) (k : Nat) : oL t (k + 1) = oL t k ++ [((oo (sn t) (alls t.length) k : Nat) : Int)] := by simp [oL, List.range_succ]
abbrev lO (l : List Int) : AV := .sl (ints l) l.length (rm 0 l)
abbrev hO (l : List Int) : H := ⟨[], tk l, []⟩
theorem ro_in {t : List Int} (h : Tn t) (k : Nat) : ro (sn t) (alls t.length) k < 2 ^ t.length := by
  apply lt_of_bits
  intro i hi
  rw [ro_rs] at hi
  have := ((rs_bit (alls_lt h.s.2) k).1 hi).1
  rw [alls_bit] at this
  simpa using this
theorem fp_in {t : List Int} (h : Tn t) {k : Nat} (hk : k < t.length) : oo (sn t) (alls t.length) k < t.length := by
  have hA := alls_lt h.s.2
  have hp := pc_alls t.length (by have := h.s.2; omega)
  have := oo_way (A := sn t) hA k (by omega)
  have := ((rs_bit hA k).1 this).1
  rw [alls_bit] at this
  simpa using this
theorem ldp1_pair {P : Program} {t : TypeId} (hu : (P.underlying t).isSome = true) (ha : isAggT P t = false) {l : List Pr} {i : Nat} (h : i < l.length) : aLoad P t (pairsA (l.drop i)) = some (I (l.getD i pair0).1) := by
  cases hq : P.underlying t with
  | none => rw [hq] at hu; cases hu
  | some u =>
    have e : l.drop i = l[i] :: l.drop (i + 1) := List.drop_eq_getElem_cons h
    have e2 : l.getD i pair0 = l[i] := by simp [List.getD_eq_getElem?_getD, List.getElem?_eq_getElem h]
    rw [e, e2, pairsA_cons]
    simp [aLoad, hq, ha]
abbrev bp (t : List Int) : AV := .sl (pairsA (bsl t)) (2 ^ t.length) .full
abbrev o37 (t : List Int) : List Out := [.mk Unit (.exit 0) [5] (fun _ => True) (fun _ => [lO (oL t t.length)]) (fun _ => hO (oL t t.length)) (fun _ => [])]
theorem simp37 : allSimpleM none1 (loopAt Tryd.f37 0) = true := by kernel_rfl
noncomputable abbrev cs37 : List (Ctr Tryd.prog) := [c56.to, c75.to, c70.to]
theorem ct37 : Ctrs Tryd.prog none1 cs37 := .pure _ (.pure _ (.pure _ .nil))
theorem lp37 (t : List Int) (h : Tn t) :
    LoopS (En6 cs37) (loopAt Tryd.f37 0) 31 [4, 5, 6] [bp t, .sl [] 0 .nil, I (alls t.length : Nat)] .nil (o37 t) := by
  have hR : Rests (En6 cs37) none1 := rests mixed ct37
  have h8 := h.s.2
  have p8 := pow8 h8
  have hA := alls_lt h8
  have hp := pc_alls t.length (by omega)
  refine loop_s hR simp37 none (by intro _ h; cases h) (fun k vs H => H = hO (oL t k) ∧ vs = [bp t, lO (oL t k), I (ro (sn t) (alls t.length) k : Nat)]) t.length ⟨rfl, rfl⟩ (by intro _ h; cases h) ?_
  rintro k vs h' hk ⟨rfl, rfl⟩
  by_cases hz : k < t.length
  · have h0 := ro_pos (A := sn t) hA (k := k) (by omega)
    have c0 : ((ro (sn t) (alls t.length) k : Nat) : Int) ≠ 0 := by omega
    have hin := ro_in h k
    have hlt := ro_lt (A := sn t) hA k
    have hin' : ro (sn t) (alls t.length) k < (bsl t).length := by rw [tbl_len]; exact hin
    have hfp := fp_in h hz
    have hg : ((bsl t).getD (ro (sn t) (alls t.length) k) pair0).1 = ((oo (sn t) (alls t.length) k : Nat) : Int) := by
      rw [tbl_get hin, tb_le (by omega)]; rfl
    have ev1 : IntKind.i64.wrap (1 * 2 ^ min (((bsl t).getD (ro (sn t) (alls t.length) k) pair0).1).toNat IntKind.i64.bits) = ((2 ^ oo (sn t) (alls t.length) k : Nat) : Int) := by
      rw [hg]; exact pw_shl (by omega)
    have ev2 : IntKind.i64.wrap ((BitVec.ofInt IntKind.i64.bits ((ro (sn t) (alls t.length) k : Nat) : Int) &&& ~~~BitVec.ofInt IntKind.i64.bits ((2 ^ oo (sn t) (alls t.length) k : Nat) : Int)).toNat : Int) = ((ro (sn t) (alls t.length) (k + 1) : Nat) : Int) := i_andn (by omega)
    have d0 : 0 ≤ ((bsl t).getD (ro (sn t) (alls t.length) k) pair0).1 := by rw [hg]; omega
    have hl1 := oL_succ t k
    rw [← hg] at hl1
    have hap := app_ints (P := Tryd.prog) (t := 22) (by kernel_rfl) (l := oL t k) (x := ((bsl t).getD (ro (sn t) (alls t.length) k) pair0).1) (by rw [oL_len]; omega)
    rw [← hl1] at hap
    refine ⟨[Ans.o (Orc.b true), Ans.o (Orc.val 19 (AV.cptr (pairsA (List.drop (ro (sn t) (alls t.length) k) (bsl t)))) H.nil), Ans.o (Orc.val 21 (I ((bsl t).getD (ro (sn t) (alls t.length) k) pair0).fst) H.nil), Ans.o (Orc.val 25 (AV.sl (ints (oL t (k + (1 : Nat)))) (oL t (k + (1 : Nat))).length (rm (0 : Nat) (oL t (k + (1 : Nat))))) (H.mk [] (tk (oL t (k + (1 : Nat)))) [])), Ans.o (Orc.val 28 (I (↑((2 : Nat) ^ oo (sn t) (alls t.length) k) : Int)) H.nil), Ans.o (Orc.val 29 (I (↑(ro (sn t) (alls t.length) (k + (1 : Nat))) : Int)) H.nil)], fun u => of_eq ((↑(ro (sn t) (alls t.length) k) : Int) ≠ (0 : Int) ∧ aIndexAddr Tryd.prog (64 : Nat) (AV.sl (pairsA (bsl t)) ((2 : Nat) ^ t.length) Room.full) (I (↑(ro (sn t) (alls t.length) k) : Int)) = some (AV.cptr (pairsA (List.drop (ro (sn t) (alls t.length) k) (bsl t)))) ∧ aLoad Tryd.prog (3 : Nat) (List.drop #[Field.mk "player" (3 : Nat) (0 : Nat) false "" "planchet/ranks" (0 : Nat), Field.mk "against" (3 : Nat) (1 : Nat) false "" "planchet/ranks" (8 : Nat)][(0 : Nat)].offset (pairsA (List.drop (ro (sn t) (alls t.length) k) (bsl t)))) = some (I ((bsl t).getD (ro (sn t) (alls t.length) k) pair0).fst) ∧ aAppend Tryd.prog (22 : Nat) (22 : Nat) (AV.sl (ints (oL t k)) (oL t k).length (rm (0 : Nat) (oL t k))) (AV.sl [I ((bsl t).getD (ro (sn t) (alls t.length) k) pair0).fst] (1 : Nat) Room.full) (H.mk [] (tk (oL t k)) []) = some (AV.sl (ints (oL t (k + (1 : Nat)))) (oL t (k + (1 : Nat))).length (rm (0 : Nat) (oL t (k + (1 : Nat)))), H.mk [] (tk (oL t (k + (1 : Nat)))) []) ∧ aBin Tryd.prog BinOp.shl (3 : Nat) (I 1) (I ((bsl t).getD (ro (sn t) (alls t.length) k) pair0).fst) = some (I (↑((2 : Nat) ^ oo (sn t) (alls t.length) k) : Int)) ∧ aBin Tryd.prog BinOp.andNot (3 : Nat) (I (↑(ro (sn t) (alls t.length) k) : Int)) (I (↑((2 : Nat) ^ oo (sn t) (alls t.length) k) : Int)) = some (I (↑(ro (sn t) (alls t.length) (k + (1 : Nat))) : Int)) ∧ (31 : Nat) = (31 : Nat) ∧ k < t.length ∧ Keep (H.mk [] (tk (oL t (k + (1 : Nat)))) [] = H.mk [] (tk (oL t (k + (1 : Nat)))) [] ∧ [AV.sl (pairsA (bsl t)) ((2 : Nat) ^ t.length) Room.full, AV.sl (ints (oL t (k + (1 : Nat)))) (oL t (k + (1 : Nat))).length (rm (0 : Nat) (oL t (k + (1 : Nat)))), I (↑(ro (sn t) (alls t.length) (k + (1 : Nat))) : Int)] = [AV.sl (pairsA (bsl t)) ((2 : Nat) ^ t.length) Room.full, AV.sl (ints (oL t (k + (1 : Nat)))) (oL t (k + (1 : Nat))).length (rm (0 : Nat) (oL t (k + (1 : Nat)))), I (↑(ro (sn t) (alls t.length) (k + (1 : Nat))) : Int)])) (by kernel_rfl) ?_⟩
    refine ⟨by first | with_reducible assumption | omega | assumption, ?_⟩
    refine ⟨ix_pairs (by kernel_rfl) hin (by decide), ?_⟩
    refine ⟨ldp1_pair (by kernel_rfl) (by kernel_rfl) hin', ?_⟩
    refine ⟨hap, ?_⟩
    refine ⟨by first | exact told_shl (by first | exact Int.natCast_nonneg _ | omega) (by with_reducible assumption) | exact told_shl (by omega) rfl, ?_⟩
    refine ⟨told_andn (by with_reducible assumption), ?_⟩
    refine ⟨by first | with_reducible assumption | omega | assumption, ?_⟩
    refine ⟨by first | with_reducible assumption | omega | assumption, ?_⟩
    exact ⟨rfl, rfl⟩
  · have e : k = t.length := by omega
    subst e
    have hz0 : ro (sn t) (alls t.length) t.length = 0 := by have := ro_zero (A := sn t) hA; rw [hp] at this; exact this
    have c0 : ((ro (sn t) (alls t.length) t.length : Nat) : Int) = 0 := by omega
    refine ⟨[Ans.o (Orc.b false)], fun u => of_eq ((↑(ro (sn t) (alls t.length) t.length) : Int) = (0 : Int) ∧ (31 : Nat) = (31 : Nat) ∧ hits [Out.mk Unit (AX.exit (0 : Nat)) [(5 : Nat)] (fun x => True) (fun x => [lO (oL t t.length)]) (fun x => hO (oL t t.length)) fun x => []] (AX.exit (0 : Nat)) [u (0 : Nat), u (1 : Nat), u (2 : Nat), u (3 : Nat), AV.sl (pairsA (bsl t)) ((2 : Nat) ^ t.length) Room.full, AV.sl (ints (oL t t.length)) (oL t t.length).length (rm (0 : Nat) (oL t t.length)), I (↑(ro (sn t) (alls t.length) t.length) : Int), u (7 : Nat), u (8 : Nat), u (9 : Nat), u (10 : Nat), u (11 : Nat), u (12 : Nat), u (13 : Nat), u (14 : Nat), I (↑(ro (sn t) (alls t.length) t.length) : Int), AV.bool false, u (17 : Nat), u (18 : Nat), u (19 : Nat), u (20 : Nat), u (21 : Nat), u (22 : Nat), u (23 : Nat), u (24 : Nat), u (25 : Nat), u (26 : Nat), u (27 : Nat), u (28 : Nat), u (29 : Nat), u (30 : Nat)] (H.mk [] (tk (oL t t.length)) [])) (by kernel_rfl) ?_⟩
    refine ⟨by first | with_reducible assumption | omega | assumption, ?_⟩
    refine ⟨by first | with_reducible assumption | omega | assumption, ?_⟩
    exact .inl ⟨(), trivial, rfl, rfl, rfl⟩
theorem ok37 : FokM Tryd.prog none1 37 Tryd.f37 := ⟨mixed, by kernel_rfl, by kernel_rfl, by kernel_rfl, by kernel_rfl⟩
theorem leave_lO (bs : List (List AV)) (l : List Int) : leave ⟨0, 0, 0⟩ (.tup [lO l, I 0]) ⟨bs, tk l, []⟩ = (.tup [lO l, I 0], ⟨[], tk l, []⟩) := by
  cases l with
  | nil => rfl
  | cons x l =>
    have h1 : (ints (x :: l)).map (frz 0 0 ⟨bs, tk (x :: l), []⟩ 4) = ints (x :: l) := frz_ints 0 0 _ 2 (x :: l)
    have hb : AV.bnds 0 0 0 (ints (x :: l)) = true := enc_bnds ints_c1 (x :: l) 0 0 0
    show leave ⟨0, 0, 0⟩ (.tup [.sl (ints (x :: l)) (l.length + 1) (.tok 0 1), I 0]) ⟨bs, [l.length + 1], []⟩ = (.tup [.sl (ints (x :: l)) (l.length + 1) (.tok 0 1), I 0], ⟨[], [l.length + 1], []⟩)
    have h1 : (ints (x :: l)).map (frz 0 0 ⟨bs, [l.length + 1], []⟩ 4) = ints (x :: l) := h1
    generalize ints (x :: l) = c at h1 hb ⊢
    have e1 : frz 0 0 ⟨bs, [l.length + 1], []⟩ 6 (.tup [.sl c (l.length + 1) (.tok 0 1), I 0]) = .tup [.sl c (l.length + 1) .no, I 0] := by
      simp only [frz, List.map_cons, List.map_nil, Nat.not_lt_zero, if_false, h1]
    simp [leave, e1, AV.bnd, AV.bnds, hb, Room.bnd, retok]
abbrev oT (t : List Int) : List Int := oL t t.length
abbrev oR (t : List Int) : Room := (rm 0 (oT t)).wk
theorem r37t (t : List Int) (r : Room) (hp : Tn t ∧ rok t r) : Body (En6 cs37) none1 Tryd.f37 [ls t r] .nil (.tup [lO (oT t), I 0], hO (oT t)) := by
  obtain ⟨h, hr⟩ := hp
  have h8 := h.s.2
  have hb := tn_t h
  have p56 : (lim t.length ∧ rok t r) ∧ inI t := ⟨⟨by simp only [lim]; omega, hr⟩, fun i _ => by have := h.s8 i; simp only [s8] at this; simp only [i64]; omega⟩
  have p75 : Tn t ∧ rok t r := ⟨h, hr⟩
  have p70 : t.length ≤ 8 ∧ rok t r := ⟨h8, hr⟩
  have lp := lp37 t h
  refine body_s ([Ans.o (Orc.val 9 (AV.bool true) (H.mk [] [] [])), Ans.o (Orc.val 12 (AV.sl (pairsA (bsl t)) ((2 : Nat) ^ t.length) Room.full) (H.mk [] [] [])), Ans.o (Orc.val 14 (I (↑(alls t.length) : Int)) (H.mk [] [] [])), Ans.loop [(4 : Nat), (5 : Nat), (6 : Nat)] [Out.mk Unit (AX.exit (0 : Nat)) [(5 : Nat)] (fun x => True) (fun x => [lO (oL t t.length)]) (fun x => hO (oL t t.length)) fun y => []]]) (aCall (Sof cs37) (AV.fn (Fn.func (56 : Nat)) [] []) [AV.sl (ints t) t.length r] (H.mk [] [] []) = some (AV.bool true, H.mk [] [] []) ∧ aCall (Sof cs37) (AV.fn (Fn.func (75 : Nat)) [] []) [AV.sl (ints t) t.length r] (H.mk [] [] []) = some (AV.sl (pairsA (bsl t)) ((2 : Nat) ^ t.length) Room.full, H.mk [] [] []) ∧ aCall (Sof cs37) (AV.fn (Fn.func (70 : Nat)) [] []) [AV.sl (ints t) t.length r] (H.mk [] [] []) = some (I (↑(alls t.length) : Int), H.mk [] [] []) ∧ LoopS (Env.mk Tryd.prog (Sof cs37) (Pof (P := Tryd.prog) []) H.nil.base (300 : Nat)) (loopAt Tryd.f37 (0 : Nat)) (31 : Nat) [(4 : Nat), (5 : Nat), (6 : Nat)] [AV.sl (pairsA (bsl t)) ((2 : Nat) ^ t.length) Room.full, AV.sl [] (0 : Nat) Room.nil, I (↑(alls t.length) : Int)] (H.mk [] [] []) [Out.mk Unit (AX.exit (0 : Nat)) [(5 : Nat)] (fun x => True) (fun x => [lO (oL t t.length)]) (fun x => hO (oL t t.length)) fun y => []] ∧ (∀ (y : Unit), True → ∀ (u : Nat → AV), leave (Base.mk H.nil.blk.length H.nil.toks.length H.nil.maps.length) (AV.tup [AV.sl (ints (oL t t.length)) (oL t t.length).length (rm (0 : Nat) (oL t t.length)), I 0]) (H.mk [] (tk (oL t t.length)) []) = (AV.tup [AV.sl (ints (oT t)) (oT t).length (rm (0 : Nat) (oT t)), I 0], H.mk [] (tk (oT t)) [])) ∧ True) (by kernel_rfl) ?_
  refine ⟨acall_b (acall_hit (c := c56.to) (t, r) _ rfl p56) hb, ?_⟩
  refine ⟨acall_hit (c := c75.to) (t, r) _ rfl p75, ?_⟩
  refine ⟨acall_hit (c := c70.to) (t, r) _ rfl p70, ?_⟩
  refine ⟨lp, ?_⟩
  refine And.intro ?_ ?_
  · skip
    intro y
    intro w1
    intro u
    exact leave_lO _ _
  · skip
    trivial
theorem r37f (t : List Int) (r : Room) (hp : (lim t.length ∧ rok t r ∧ inI t) ∧ ¬ Tn t) : Body (En6 [c56.to]) none1 Tryd.f37 [ls t r] .nil (.tup [.sl [] 0 .nil, I 2], .nil) := by
  obtain ⟨⟨h1, hr, h3⟩, hn⟩ := hp
  have hb := tn_f hn
  have p56 : (lim t.length ∧ rok t r) ∧ inI t := ⟨⟨h1, hr⟩, h3⟩
  refine body_s ([Ans.o (Orc.val 9 (AV.bool false) (H.mk [] [] []))]) (aCall (Sof [c56.to]) (AV.fn (Fn.func (56 : Nat)) [] []) [AV.sl (ints t) t.length r] (H.mk [] [] []) = some (AV.bool false, H.mk [] [] []) ∧ (AV.tup [AV.sl [] (0 : Nat) Room.nil, I 2], H.mk [] [] []) = (AV.tup [AV.sl [] (0 : Nat) Room.nil, I 2], H.mk [] [] [])) (by kernel_rfl) ?_
  refine ⟨acall_b (acall_hit (c := c56.to) (t, r) _ rfl p56) hb, ?_⟩
  first | with_reducible rfl | (refine bleaf_t ?_; omega) | (refine bleaf_f ?_; omega) | (refine ileaf ?_; omega) | rfl | (exfalso; omega)
/-- 'Order' -/
noncomputable def c37t : PCtr Tryd.prog := slctr ok37 (X := List Int × Room) (fun x => [ls x.1 x.2]) (fun x => Tn x.1 ∧ rok x.1 x.2) (fun x => .tup [.sl (ints (oT x.1)) (oT x.1).length (oR x.1), I 0])
  (by rintro ⟨l, r⟩ ⟨m, s⟩ e _ _; simp at e; simp only [e.1]) (fun x => by simp [AV.bnds, AV.bnd, AV.wk, rm_wk_bnd]) (fun x => by simp [AV.bnd, AV.bnds, rm_wk_bnd]) (fun x hx => ⟨_, _, _, .tup [lO (oT x.1), I 0], tk (oT x.1), ct37, r37t x.1 x.2.wk ⟨hx.1, by simpa using hx.2⟩, by simp [AV.plain, AV.plains, plains_ints], by simp only [AV.wkd, AV.wkds, wkds_ints]⟩)
noncomputable def c37f : PCtr Tryd.prog := sctr ok37 (X := List Int × Room) (fun x => [ls x.1 x.2]) (fun x => (lim x.1.length ∧ rok x.1 x.2 ∧ inI x.1) ∧ ¬ Tn x.1) (fun _ => .tup [.sl [] 0 .nil, I 2])
  (by intro x y e _ _; rfl) (fun x => by simp [AV.bnds, AV.bnd, AV.wk, rm_wk_bnd]) (fun x => by simp [AV.bnd, AV.bnds, Room.bnd]) (fun x hx => ⟨_, _, _, .pure _ .nil, r37f x.1 x.2.wk (by simp only [rok_wk]; exact hx)⟩)
end Go.Proofs.Rnk

