/- Layer 2: the law of kings and parts. -/
import Derived.Test.YtnnhomkkggkkfaaDoorRkAc
import Derived.Test.YtnnhomkkggkkfaaDoorRkAj
import Derived.KernelRfl
set_option linter.unusedSimpArgs false
set_option linter.unusedVariables false
set_option linter.unnecessarySimpa false
set_option maxHeartbeats 4000000
set_option maxRecDepth 100000
namespace Go.Proofs.Rnk
open Go Go.VM
open Go.Proofs.Sur (andn andn_bit andn_le i_wrap i_and i_or i_andn i_shl i_shr bit_01)

theorem leave_tupl (bs : List (List AV)) (l : List Int) : leave ⟨0, 0, 0⟩ (.tup [lA l, I 0]) ⟨bs, tk l, []⟩ = (.tup [lA l, I 0], ⟨[], tk l, []⟩) := by
  cases l with
  | nil => rfl
  | cons x l =>
    have h1 : (ints (x :: l)).map (frz 0 0 ⟨bs, tk (x :: l), []⟩ 4) = ints (x :: l) := frz_ints 0 0 _ 2 (x :: l)
    have hb : AV.bnds 0 0 0 (ints (x :: l)) = true := enc_bnds ints_c1 (x :: l) 0 0 0
    show leave ⟨0, 0, 0⟩ (.tup [.sl (ints (x :: l)) (l.length + 1) (.tok 0 1), I 0]) ⟨bs, [l.length + 1], []⟩ = (.tup [.sl (ints (x :: l)) (l.length + 1) (.tok 0 1), I 0], ⟨[], [l.length + 1], []⟩)
    have h1 : (ints (x :: l)).map (frz 0 0 ⟨bs, [l.length + 1], []⟩ 4) = ints (x :: l) := h1
    generalize ints (x :: l) = c at h1 hb ⊢
    have e1 : frz 0 0 ⟨bs, [l.length + 1], []⟩ 6 (.tup [.sl c (l.length + 1) (.tok 0 1), I 0]) = .tup [.sl c (l.length + 1) .no, I 0] := by
      simp only [frz, List.map_cons, List.map_nil, Nat.not_lt_zero, if_false, h1]
    simp [leave, e1, AV.bnd, AV.bnds, hb, Room.bnd, retok]
theorem ok33 : FokM Tryd.prog M72 33 Tryd.f33 := ⟨mixed, by kernel_rfl, by kernel_rfl, by kernel_rfl, by kernel_rfl⟩
theorem r33t (t : List Int) (h : Tn t) : Body (EnP cs33) M72 Tryd.f33 [ls t .no] .nil (.tup [lA (pts t), I 0], lH (pts t)) := by
  have h8 := h.s.2
  have hr : rok t .no := fun _ => no_ne
  have hb := tn_t h
  have p56 : (lim t.length ∧ rok t .no) ∧ inI t := ⟨⟨by simp only [lim]; omega, hr⟩, fun i _ => by have := h.s8 i; simp only [s8] at this; simp only [i64]; omega⟩
  have p70 : t.length ≤ 8 ∧ rok t .no := ⟨h8, hr⟩
  have lp := lp33 t h
  refine body_s ([Ans.o (Orc.val 10 (AV.bool true) (H.mk [] [] [])), Ans.o (Orc.val 13 (AV.sl (ints (rws t)) t.length Room.no) (H.mk [] [] [])), Ans.o (Orc.val 15 (I (↑(alls t.length) : Int)) (H.mk [[AV.sl (ints (rws t)) t.length Room.no]] [] [])), Ans.loop [4, 5, 6] [Out.mk Unit (AX.exit 0) [5] (fun x => True) (fun x => [lA (pts t)]) (fun x => h33 t (mP t)) fun y => []]]) (aCall (Sof cs33) (AV.fn (Fn.func 56) [] []) [ls t Room.no] (H.mk [] [] []) = some (AV.bool true, H.mk [] [] []) ∧ aCall (Sof cs33) (AV.fn (Fn.func 71) [] []) [ls t Room.no] (H.mk [] [] []) = some (AV.sl (ints (rws t)) t.length Room.no, H.mk [] [] []) ∧ aCall (Sof cs33) (AV.fn (Fn.func 70) [] []) [ls t Room.no] (H.mk [[AV.sl (ints (rws t)) t.length Room.no]] [] []) = some (I (↑(alls t.length) : Int), H.mk [[AV.sl (ints (rws t)) t.length Room.no]] [] []) ∧ LoopS (Env.mk Tryd.prog (Sof cs33) (Pof (P := Tryd.prog) []) H.nil.base (299 : Nat)) (loopAt Tryd.f33 0) 40 [4, 5, 6] [AV.ptr 0 0, AV.sl [] (0 : Nat) Room.nil, AV.ptr 1 0] (H.mk [[AV.sl (ints (rws t)) t.length Room.no], [I (↑(alls t.length) : Int)]] [] []) [Out.mk Unit (AX.exit 0) [5] (fun x => True) (fun x => [lA (pts t)]) (fun x => h33 t (mP t)) fun y => []] ∧ (∀ (y : Unit), True → ∀ (u : Nat → AV), leave (Base.mk H.nil.blk.length H.nil.toks.length H.nil.maps.length) (AV.tup [ls (pts t) (rm (0 : Nat) (pts t)), I 0]) (H.mk [[AV.sl (ints (rws t)) t.length Room.no], [I (↑(rst t (mP t)) : Int)]] (tk (pl t (mP t))) []) = (AV.tup [ls (pts t) (rm (0 : Nat) (pts t)), I 0], H.mk [] (tk (pts t)) [])) ∧ True) (by kernel_rfl) ?_
  refine ⟨acall_b (acall_hit (c := c56.to) (t, .no) _ rfl p56) hb, ?_⟩
  refine ⟨acall_hit (c := c71.to) t _ rfl h, ?_⟩
  refine ⟨acall_hit (c := c70.to) (t, .no) _ rfl p70, ?_⟩
  refine ⟨lp, ?_⟩
  refine And.intro ?_ ?_
  · skip
    intro y
    intro w1
    intro u
    exact leave_tupl _ _
  · skip
    trivial
theorem r33f (t : List Int) (r : Room) (hp : (lim t.length ∧ rok t r ∧ inI t) ∧ ¬ Tn t) : Body (En6 [c56.to]) M72 Tryd.f33 [ls t r] .nil (.tup [.sl [] 0 .nil, I 2], .nil) := by
  obtain ⟨⟨h1, hr, h3⟩, hn⟩ := hp
  have hb := tn_f hn
  have p56 : (lim t.length ∧ rok t r) ∧ inI t := ⟨⟨h1, hr⟩, h3⟩
  refine body_s ([Ans.o (Orc.val 10 (AV.bool false) (H.mk [] [] []))]) (aCall (Sof [c56.to]) (AV.fn (Fn.func 56) [] []) [ls t r] (H.mk [] [] []) = some (AV.bool false, H.mk [] [] []) ∧ (AV.tup [AV.sl [] (0 : Nat) Room.nil, I 2], H.mk [] [] []) = (AV.tup [AV.sl [] (0 : Nat) Room.nil, I 2], H.mk [] [] [])) (by kernel_rfl) ?_
  refine ⟨acall_b (acall_hit (c := c56.to) (t, r) _ rfl p56) hb, ?_⟩
  first | with_reducible rfl | (refine bleaf_t ?_; omega) | (refine bleaf_f ?_; omega) | (refine ileaf ?_; omega) | rfl | (exfalso; omega)
noncomputable def c33t : PCtr Tryd.prog := slctr ok33 (X := List Int) (fun t => [ls t .no]) (fun t => Tn t) (fun t => .tup [.sl (ints (pts t)) (pts t).length (pR t), I 0])
  (by intro x y e _ _; simp at e; simp only [e.1]) (fun x => by simp [AV.bnds, AV.bnd, AV.wk, Room.wk, Room.bnd]) (fun x => by simp [AV.bnd, AV.bnds, rm_wk_bnd]) (fun t hx => ⟨_, _, _, .tup [lA (pts t), I 0], tk (pts t), ct33, r33t t hx, by simp [AV.plain, AV.plains, plains_ints], by simp only [AV.wkd, AV.wkds, wkds_ints]⟩)
noncomputable def c33f : PCtr Tryd.prog := sctr ok33 (X := List Int × Room) (fun x => [ls x.1 x.2]) (fun x => (lim x.1.length ∧ rok x.1 x.2 ∧ inI x.1) ∧ ¬ Tn x.1) (fun _ => .tup [.sl [] 0 .nil, I 2])
  (by intro x y e _ _; rfl) (fun x => by simp [AV.bnds, AV.bnd, AV.wk, rm_wk_bnd]) (fun x => by simp [AV.bnd, AV.bnds, Room.bnd]) (fun x hx => ⟨_, _, _, .pure _ .nil, r33f x.1 x.2.wk (by simp only [rok_wk]; exact hx)⟩)
end Go.Proofs.Rnk

