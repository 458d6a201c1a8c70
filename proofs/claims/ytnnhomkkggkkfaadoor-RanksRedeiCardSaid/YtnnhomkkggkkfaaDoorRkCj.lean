/- Layer 2: the law of ways, but for their number's being odd. -/
import Derived.Test.YtnnhomkkggkkfaaDoorRkCi
import Derived.Test.YtnnhomkkggkkfaaDoorRkBt
import Derived.Test.YtnnhomkkggkkfaaDoorRkBy
import Derived.Test.YtnnhomkkggkkfaaDoorRkAj
import Derived.KernelRfl
set_option linter.unusedSimpArgs false
set_option linter.unusedVariables false
set_option linter.unnecessarySimpa false
set_option maxHeartbeats 4000000
set_option maxRecDepth 100000
namespace Go.Proofs.Rnk
open Go Go.VM
noncomputable abbrev cs11 : List (Ctr Tryd.prog) := [c19q.to, c28t.to, c21.to, c39x.to, c53a.to, c24.to]
theorem ct11 : Ctrs Tryd.prog none1 cs11 := .pure _ (.pure _ (.pure _ (.pure _ (.pure _ (.pure _ .nil)))))
abbrev o11 (t : List Int) (r : Room) : List Out := [.mk Unit .ret [2] (fun _ => False) (fun _ => [.bool false]) (fun _ => .nil) (fun _ => []), .mk Unit (.exit 0) [0] (fun _ => True) (fun _ => [ls t r]) (fun _ => .nil) (fun _ => [])]
theorem simp11 : allSimpleM none1 (loopAt Tryd.f11 0) = true := by kernel_rfl
theorem lp11 (t l : List Int) (r : Room) (h : Tn t) (hr : rok t r) (hl : rowR t t.length false = some l) :
    LoopS (En6 cs11) (loopAt Tryd.f11 0) 56 [0, 3, 5] [ls t r, ls l .no, I 1] .nil (o11 t r) := by
  have hR : Rests (En6 cs11) none1 := rests mixed ct11
  have h8 := h.s.2
  have h1 := h.s.1
  obtain ⟨ho, hw⟩ := way_ob hl
  have hlen := ho.le
  refine loop_s hR simp11 none (by intro _ h; cases h) (fun j vs H => (H = .nil ∧ vs = [ls t r, ls l .no, I (j + 1 : Nat)]) ∧ j + 1 ≤ t.length) t.length ⟨⟨rfl, rfl⟩, by omega⟩ (by intro _ h; cases h) ?_
  rintro j vs h' hj ⟨⟨rfl, rfl⟩, hle⟩
  by_cases hz : ((j + 1 : Nat) : Int) < l.length
  · have hz' : j + 1 < l.length := by omega
    have hz0 : j < l.length := by omega
    have ev0 := wj1 (j := j + 1) (by omega)
    have ev1 : IntKind.i64.wrap (((j + 1 : Nat) : Int) - 1) = (j : Int) := by rw [wr _ (by omega) (by omega)]; omega
    obtain ⟨d0, d1, d2, d3⟩ := ho.pos (k := j) (by omega)
    obtain ⟨f0, f1, f2, f3⟩ := ho.pos (k := j + 1) (by omega)
    have hlt2 : (l.getD j i0).toNat < t.length := by omega
    have hri := rok_idx hr hlt2
    have hbit : bi (ia t (ofn l j)) (ofn l (j + 1)) = true := hw j hz'
    obtain ⟨ev2, ev3⟩ := i_bit1 (h.s8 (ofn l j)) (show ofn l (j + 1) ≤ 64 by omega) hbit
    rw [f3] at ev2
    have hle' : j + 1 + 1 ≤ t.length := by omega
    refine ⟨[Ans.o (Orc.b true), Ans.o (Orc.val 37 (I (↑j : Int)) H.nil), Ans.o (Orc.val 38 (AV.cptr (ints (List.drop j l))) H.nil), Ans.o (Orc.val 39 (I (l.getD j i0)) H.nil), Ans.o (Orc.val 40 (AV.cptr (ints (List.drop (l.getD j i0).toNat t))) H.nil), Ans.o (Orc.val 41 (I (t.getD (l.getD j i0).toNat i0)) H.nil), Ans.o (Orc.val 44 (AV.cptr (ints (List.drop (j + (1 : Nat)) l))) H.nil), Ans.o (Orc.val 45 (I (l.getD (j + (1 : Nat)) i0)) H.nil), Ans.o (Orc.val 46 (I (↑((ia t (ofn l j)).toNat >>> ofn l (j + (1 : Nat))) : Int)) H.nil), Ans.o (Orc.val 47 (I 1) H.nil), Ans.o Orc.dflt, Ans.o (Orc.val 33 (I (↑(j + (1 : Nat) + (1 : Nat)) : Int)) H.nil)], fun u => of_eq ((↑(j + (1 : Nat)) : Int) < (↑l.length : Int) ∧ aBin Tryd.prog BinOp.sub (3 : Nat) (I (↑(j + (1 : Nat)) : Int)) (I 1) = some (I (↑j : Int)) ∧ aIndexAddr Tryd.prog (22 : Nat) (AV.sl (ints l) l.length Room.no) (I (↑j : Int)) = some (AV.cptr (ints (List.drop j l))) ∧ aLoad Tryd.prog (3 : Nat) (ints (List.drop j l)) = some (I (l.getD j i0)) ∧ aIndexAddr Tryd.prog (22 : Nat) (AV.sl (ints t) t.length r) (I (l.getD j i0)) = some (AV.cptr (ints (List.drop (l.getD j i0).toNat t))) ∧ aLoad Tryd.prog (3 : Nat) (ints (List.drop (l.getD j i0).toNat t)) = some (I (t.getD (l.getD j i0).toNat i0)) ∧ aIndexAddr Tryd.prog (22 : Nat) (AV.sl (ints l) l.length Room.no) (I (↑(j + (1 : Nat)) : Int)) = some (AV.cptr (ints (List.drop (j + (1 : Nat)) l))) ∧ aLoad Tryd.prog (3 : Nat) (ints (List.drop (j + (1 : Nat)) l)) = some (I (l.getD (j + (1 : Nat)) i0)) ∧ aBin Tryd.prog BinOp.shr (3 : Nat) (I (t.getD (l.getD j i0).toNat i0)) (I (l.getD (j + (1 : Nat)) i0)) = some (I (↑((ia t (ofn l j)).toNat >>> ofn l (j + (1 : Nat))) : Int)) ∧ aBin Tryd.prog BinOp.and (3 : Nat) (I (↑((ia t (ofn l j)).toNat >>> ofn l (j + (1 : Nat))) : Int)) (I 1) = some (I 1) ∧ aBin Tryd.prog BinOp.add (3 : Nat) (I (↑(j + (1 : Nat)) : Int)) (I 1) = some (I (↑(j + (1 : Nat) + (1 : Nat)) : Int)) ∧ (56 : Nat) = (56 : Nat) ∧ j < t.length ∧ Keep ((H.mk [] [] [] = H.mk [] [] [] ∧ [AV.sl (ints t) t.length r, AV.sl (ints l) l.length Room.no, I (↑(j + (1 : Nat) + (1 : Nat)) : Int)] = [AV.sl (ints t) t.length r, AV.sl (ints l) l.length Room.no, I (↑(j + (1 : Nat) + (1 : Nat)) : Int)]) ∧ j + (1 : Nat) + (1 : Nat) ≤ t.length)) (by kernel_rfl) ?_⟩
    refine ⟨by first | with_reducible assumption | omega | assumption, ?_⟩
    refine ⟨told_sub (by with_reducible assumption), ?_⟩
    refine ⟨by first | exact ix_ints (by kernel_rfl) hz' no_ne | exact ix_ints (by kernel_rfl) hz0 no_ne | exact ix_intsI (by kernel_rfl) d0 d1 hri, ?_⟩
    refine ⟨by first | exact ld_ints (by kernel_rfl) (by kernel_rfl) hz' | exact ld_ints (by kernel_rfl) (by kernel_rfl) hz0 | exact ld_ints (by kernel_rfl) (by kernel_rfl) hlt2, ?_⟩
    refine ⟨by first | exact ix_ints (by kernel_rfl) hz' no_ne | exact ix_ints (by kernel_rfl) hz0 no_ne | exact ix_intsI (by kernel_rfl) d0 d1 hri, ?_⟩
    refine ⟨by first | exact ld_ints (by kernel_rfl) (by kernel_rfl) hz' | exact ld_ints (by kernel_rfl) (by kernel_rfl) hz0 | exact ld_ints (by kernel_rfl) (by kernel_rfl) hlt2, ?_⟩
    refine ⟨by first | exact ix_ints (by kernel_rfl) hz' no_ne | exact ix_ints (by kernel_rfl) hz0 no_ne | exact ix_intsI (by kernel_rfl) d0 d1 hri, ?_⟩
    refine ⟨by first | exact ld_ints (by kernel_rfl) (by kernel_rfl) hz' | exact ld_ints (by kernel_rfl) (by kernel_rfl) hz0 | exact ld_ints (by kernel_rfl) (by kernel_rfl) hlt2, ?_⟩
    refine ⟨by first | exact told_shr (by first | exact Int.natCast_nonneg _ | omega) (by with_reducible assumption) | exact told_shr (by omega) rfl, ?_⟩
    refine ⟨told_and (by with_reducible assumption), ?_⟩
    refine ⟨told_add (by with_reducible assumption), ?_⟩
    refine ⟨by first | with_reducible assumption | omega | assumption, ?_⟩
    refine ⟨by first | with_reducible assumption | omega | assumption, ?_⟩
    exact ⟨⟨rfl, rfl⟩, hle'⟩
  · have hz : (l.length : Int) ≤ ((j + 1 : Nat) : Int) := by omega
    refine ⟨[Ans.o (Orc.b false)], fun u => of_eq ((↑l.length : Int) ≤ (↑(j + (1 : Nat)) : Int) ∧ (56 : Nat) = (56 : Nat) ∧ hits [Out.mk Unit AX.ret [(2 : Nat)] (fun x => False) (fun x => [AV.bool false]) (fun x => H.nil) fun x => [], Out.mk Unit (AX.exit (0 : Nat)) [(0 : Nat)] (fun x => True) (fun x => [ls t r]) (fun x => H.nil) fun x => []] (AX.exit (0 : Nat)) [AV.sl (ints t) t.length r, u (1 : Nat), u (2 : Nat), AV.sl (ints l) l.length Room.no, u (4 : Nat), I (↑(j + (1 : Nat)) : Int), u (6 : Nat), u (7 : Nat), u (8 : Nat), u (9 : Nat), u (10 : Nat), u (11 : Nat), u (12 : Nat), u (13 : Nat), u (14 : Nat), u (15 : Nat), u (16 : Nat), u (17 : Nat), u (18 : Nat), u (19 : Nat), u (20 : Nat), u (21 : Nat), u (22 : Nat), u (23 : Nat), u (24 : Nat), u (25 : Nat), u (26 : Nat), u (27 : Nat), I (↑(j + (1 : Nat)) : Int), AV.sl (ints l) l.length Room.no, I (↑l.length : Int), AV.bool false, u (32 : Nat), u (33 : Nat), u (34 : Nat), u (35 : Nat), u (36 : Nat), u (37 : Nat), u (38 : Nat), u (39 : Nat), u (40 : Nat), u (41 : Nat), u (42 : Nat), u (43 : Nat), u (44 : Nat), u (45 : Nat), u (46 : Nat), u (47 : Nat), u (48 : Nat), u (49 : Nat), u (50 : Nat), u (51 : Nat), u (52 : Nat), u (53 : Nat), u (54 : Nat), u (55 : Nat)] (H.mk [] [] [])) (by kernel_rfl) ?_⟩
    refine ⟨by first | with_reducible assumption | omega | assumption, ?_⟩
    refine ⟨by first | with_reducible assumption | omega | assumption, ?_⟩
    exact .inr (.inl ⟨(), trivial, rfl, rfl, rfl⟩)
theorem ok11 : FokM Tryd.prog none1 11 Tryd.f11 := ⟨mixed, by kernel_rfl, by kernel_rfl, by kernel_rfl, by kernel_rfl⟩
theorem r11t (t l : List Int) (r : Room) (hp : pL t r) (h : Tn t) (hl : rowR t t.length false = some l) (hodd : waysR t % 2 = 1) : Body (En6 cs11) none1 Tryd.f11 [ls t r] .nil (.bool true, .nil) := by
  obtain ⟨h1, h2⟩ := hp
  have h8 := h.s.2
  have h0 := h.s.1
  have hr := h1.2.1
  have hb := tn_t h
  obtain ⟨ho, hw⟩ := way_ob hl
  have hob := odB_t ho
  have hlen := ho.le
  have hn : rok t .no := fun _ => no_ne
  have hne : t ≠ [] := fun e => by rw [e] at h0; simp at h0
  have p19 : ((lim t.length ∧ rok t r ∧ em t r) ∧ t.length ≤ 11) ∧ t ≠ [] := ⟨⟨h1, by omega⟩, hne⟩
  have p28 : (Tn t ∧ rok t .no ∧ em t .no) ∧ rowR t t.length false = some l := ⟨⟨h, hn, fun e => by cases e⟩, hl⟩
  have p21 : lim t.length ∧ rok t r := ⟨h1.1, hr⟩
  have p39 : t.length ≤ 8 ∧ rok l .no ∧ lim l.length := ⟨h8, fun _ => no_ne, by simp only [lim]; omega⟩
  have p53 : Tn t ∧ rok t r := ⟨h, hr⟩
  have hc28 : aCall (Sof cs11) (.fn (.func 28) [] []) [ls t .no] .nil = some (.tup [ls l .no, I 0], .nil) := acall_hit (c := c28t.to) ((t, .no), l) _ rfl p28
  have lp := lp11 t l r h hr hl
  have hm : ((waysR t : Nat) : Int).tmod 2 = 1 := by
    rw [Int.tmod_eq_emod_of_nonneg (by omega)]; omega
  have hm2 : IntKind.i64.wrap (((waysR t : Nat) : Int).tmod 2) = 1 := by rw [hm]; rfl
  refine body_s ([Ans.o (Orc.val 8 (AV.sl (ints t) t.length Room.no) (H.mk [] [] [])), Ans.o (Orc.val 9 (AV.tup [AV.sl (ints l) l.length Room.no, I 0]) (H.mk [] [] [])), Ans.o Orc.dflt, Ans.o (Orc.val 16 (AV.bool true) (H.mk [] [] [])), Ans.o (Orc.val 26 (AV.bool true) (H.mk [] [] [])), Ans.loop [(0 : Nat), (3 : Nat), (5 : Nat)] [Out.mk Unit AX.ret [(2 : Nat)] (fun x => False) (fun x => [AV.bool false]) (fun x => H.nil) fun y => [], Out.mk Unit (AX.exit (0 : Nat)) [(0 : Nat)] (fun x => True) (fun x => [ls t r]) (fun x => H.nil) fun y => [Ans.o (Orc.val 50 (I (↑(waysR t) : Int)) (H.mk [] [] [])), Ans.o (Orc.b true), Ans.o (Orc.val 54 (AV.bool true) (H.mk [] [] []))]]]) (aCall (Sof cs11) (AV.fn (Fn.func (19 : Nat)) [] []) [AV.sl (ints t) t.length r] (H.mk [] [] []) = some (AV.sl (ints t) t.length Room.no, H.mk [] [] []) ∧ aCall (Sof cs11) (AV.fn (Fn.func (28 : Nat)) [] []) [AV.sl (ints t) t.length Room.no] (H.mk [] [] []) = some (AV.tup [AV.sl (ints l) l.length Room.no, I 0], H.mk [] [] []) ∧ aCall (Sof cs11) (AV.fn (Fn.func (21 : Nat)) [] []) [AV.sl (ints t) t.length r] (H.mk [] [] []) = some (AV.bool true, H.mk [] [] []) ∧ aCall (Sof cs11) (AV.fn (Fn.func (39 : Nat)) [] []) [AV.sl (ints t) t.length r, AV.sl (ints l) l.length Room.no] (H.mk [] [] []) = some (AV.bool true, H.mk [] [] []) ∧ LoopS (Env.mk Tryd.prog (Sof cs11) (Pof (P := Tryd.prog) []) H.nil.base (300 : Nat)) (loopAt Tryd.f11 (0 : Nat)) (56 : Nat) [(0 : Nat), (3 : Nat), (5 : Nat)] [AV.sl (ints t) t.length r, AV.sl (ints l) l.length Room.no, I 1] (H.mk [] [] []) [Out.mk Unit AX.ret [(2 : Nat)] (fun x => False) (fun x => [AV.bool false]) (fun x => H.nil) fun y => [], Out.mk Unit (AX.exit (0 : Nat)) [(0 : Nat)] (fun x => True) (fun x => [ls t r]) (fun x => H.nil) fun y => [Ans.o (Orc.val 50 (I (↑(waysR t) : Int)) (H.mk [] [] [])), Ans.o (Orc.b true), Ans.o (Orc.val 54 (AV.bool true) (H.mk [] [] []))]] ∧ (∀ (y : Unit), False → ∀ (u : Nat → AV), (AV.bool false, H.mk [] [] []) = (AV.bool true, H.mk [] [] [])) ∧ (∀ (y : Unit), True → ∀ (u : Nat → AV), aCall (Sof cs11) (AV.fn (Fn.func (53 : Nat)) [] []) [AV.sl (ints t) t.length r, I (-1 : Int), I 0] (H.mk [] [] []) = some (I (↑(waysR t) : Int), H.mk [] [] []) ∧ (2 : Int) ≠ (0 : Int) ∧ (↑(waysR t) : Int).tmod (2 : Int) = (1 : Int) ∧ aCall (Sof cs11) (AV.fn (Fn.func (24 : Nat)) [] []) [] (H.mk [] [] []) = some (AV.bool true, H.mk [] [] []) ∧ (AV.bool true, H.mk [] [] []) = (AV.bool true, H.mk [] [] [])) ∧ True) (by kernel_rfl) ?_
  refine ⟨acall_hit (c := c19q.to) (t, r) _ rfl p19, ?_⟩
  refine ⟨hc28, ?_⟩
  refine ⟨acall_b (acall_hit (c := c21.to) (t, r) _ rfl p21) hb, ?_⟩
  refine ⟨acall_b (acall_hit (c := c39x.to) ((t, r), l, .no) _ rfl p39) hob, ?_⟩
  refine ⟨lp, ?_⟩
  refine And.intro ?_ ?_
  · skip
    intro y
    intro w1
    intro u
    first | rfl | (exfalso; assumption)
  · skip
    refine And.intro ?_ ?_
    · skip
      intro y
      intro w1
      intro u
      refine ⟨acall_hit (c := c53a.to) (t, r) _ rfl p53, ?_⟩
      refine ⟨by first | with_reducible assumption | omega | assumption, ?_⟩
      refine ⟨by first | with_reducible assumption | omega | assumption, ?_⟩
      refine ⟨acall_hit (c := c24.to) () _ rfl trivial, ?_⟩
      first | rfl | (exfalso; assumption)
    · skip
      trivial
theorem r11f (t : List Int) (r : Room) (hp : pL t r) (h : ¬ Tn t) : Body (En6 [c19.to, c28f.to, c24.to]) none1 Tryd.f11 [ls t r] .nil (.bool true, .nil) := by
  obtain ⟨h1, h2⟩ := hp
  have p28 : (lim (cut t).length ∧ rok (cut t) (rcl r) ∧ inI (cut t)) ∧ ¬ Tn (cut t) := ⟨⟨cut_lim t, fun hne => rcl_rok h1.2.1 (fun e => hne (by rw [e]; rfl)), cut_in h2⟩, cut_tn h⟩
  refine body_s ([Ans.o (Orc.val 8 (AV.sl (ints (cut t)) (cut t).length (rcl r)) (H.mk [] [] [])), Ans.o (Orc.val 9 (AV.tup [AV.sl [] (0 : Nat) Room.nil, I 2]) (H.mk [] [] [])), Ans.o Orc.dflt, Ans.o Orc.dflt, Ans.o (Orc.val 22 (AV.bool true) (H.mk [] [] []))]) (aCall (Sof [c19.to, c28f.to, c24.to]) (AV.fn (Fn.func (19 : Nat)) [] []) [AV.sl (ints t) t.length r] (H.mk [] [] []) = some (AV.sl (ints (cut t)) (cut t).length (rcl r), H.mk [] [] []) ∧ aCall (Sof [c19.to, c28f.to, c24.to]) (AV.fn (Fn.func (28 : Nat)) [] []) [AV.sl (ints (cut t)) (cut t).length (rcl r)] (H.mk [] [] []) = some (AV.tup [AV.sl [] (0 : Nat) Room.nil, I 2], H.mk [] [] []) ∧ aCall (Sof [c19.to, c28f.to, c24.to]) (AV.fn (Fn.func (24 : Nat)) [] []) [] (H.mk [] [] []) = some (AV.bool true, H.mk [] [] []) ∧ (AV.bool true, H.mk [] [] []) = (AV.bool true, H.mk [] [] [])) (by kernel_rfl) ?_
  refine ⟨acall_hit (c := c19.to) (t, r) _ rfl h1, ?_⟩
  refine ⟨acall_hit (c := c28f.to) (cut t, rcl r) _ rfl p28, ?_⟩
  refine ⟨acall_hit (c := c24.to) () _ rfl trivial, ?_⟩
  first | with_reducible rfl | (refine bleaf_t ?_; omega) | (refine bleaf_f ?_; omega) | (refine ileaf ?_; omega) | rfl | (exfalso; omega)
end Go.Proofs.Rnk

