/- Layer 2: the law of players without a cycle. -/
import Derived.Test.YtnnhomkkggkkfaaDoorRkR
import Derived.Test.YtnnhomkkggkkfaaDoorRkK
import Derived.KernelRfl
set_option linter.unusedSimpArgs false
set_option linter.unusedVariables false
set_option linter.unnecessarySimpa false
set_option maxHeartbeats 4000000
set_option maxRecDepth 100000
namespace Go.Proofs.Rnk
open Go Go.VM
open Go.Proofs.Sur (andn andn_bit andn_le i_wrap i_and i_or i_andn i_shl i_shr bit_01)

theorem ok49 : FokM Tryd.prog none1 49 Tryd.f49 := ⟨mixed, by kernel_rfl, by kernel_rfl, by kernel_rfl, by kernel_rfl⟩
theorem r49t (t : List Int) (r : Room) (h : Tn t) (hr : rok t r) : Body (En6 cs49) none1 Tryd.f49 [ls t r] .nil (.tup [I (clr t : Nat), I 0], .nil) := by
  have h8 := h.s.2
  have hb := tn_t h
  have p56 : (lim t.length ∧ rok t r) ∧ inI t := ⟨⟨by simp only [lim]; omega, hr⟩, fun i _ => by have := h.s8 i; simp only [s8] at this; simp only [i64]; omega⟩
  have p77 : Tn t ∧ rok t r := ⟨h, hr⟩
  have p70 : t.length ≤ 8 ∧ rok t r := ⟨h8, hr⟩
  have ev0 : IntKind.i64.wrap (((alls t.length : Nat) : Int) + 1) = ((2 ^ t.length : Nat) : Int) := by
    have p8 := pow8 h8
    have p0 := Nat.two_pow_pos t.length
    have e : alls t.length = 2 ^ t.length - 1 := rfl
    rw [wr _ (by omega) (by omega)]; omega
  have lp := lp49 t h (cyc_al8 h) (cyc_rok t)
  refine body_s ([Ans.o (Orc.val 9 (AV.bool true) (H.mk [] [] [])), Ans.o (Orc.val 12 (AV.sl (trisA (cyc t)) (cyc t).length (rmz (3 : Nat) (cyc t)).wk) (H.mk [] [] [])), Ans.o (Orc.val 14 (I (↑(alls t.length) : Int)) (H.mk [] [] [])), Ans.o (Orc.val 15 (I (↑((2 : Nat) ^ t.length) : Int)) H.nil), Ans.loop [(4 : Nat), (5 : Nat), (15 : Nat), (16 : Nat)] [Out.mk Unit (AX.exit (0 : Nat)) [(5 : Nat)] (fun x => True) (fun x => [I (↑(clr t) : Int)]) (fun x => H.nil) fun y => []]]) (aCall (Sof cs49) (AV.fn (Fn.func (56 : Nat)) [] []) [AV.sl (ints t) t.length r] (H.mk [] [] []) = some (AV.bool true, H.mk [] [] []) ∧ aCall (Sof cs49) (AV.fn (Fn.func (77 : Nat)) [] []) [AV.sl (ints t) t.length r] (H.mk [] [] []) = some (AV.sl (trisA (cyc t)) (cyc t).length (rmz (3 : Nat) (cyc t)).wk, H.mk [] [] []) ∧ aCall (Sof cs49) (AV.fn (Fn.func (70 : Nat)) [] []) [AV.sl (ints t) t.length r] (H.mk [] [] []) = some (I (↑(alls t.length) : Int), H.mk [] [] []) ∧ aBin Tryd.prog BinOp.add (3 : Nat) (I (↑(alls t.length) : Int)) (I 1) = some (I (↑((2 : Nat) ^ t.length) : Int)) ∧ LoopS (Env.mk Tryd.prog (Sof cs49) (Pof (P := Tryd.prog) []) H.nil.base (300 : Nat)) (loopAt Tryd.f49 (0 : Nat)) (30 : Nat) [(4 : Nat), (5 : Nat), (15 : Nat), (16 : Nat)] [AV.sl (trisA (cyc t)) (cyc t).length (rmz (3 : Nat) (cyc t)).wk, I 0, I (↑((2 : Nat) ^ t.length) : Int), I 0] (H.mk [] [] []) [Out.mk Unit (AX.exit (0 : Nat)) [(5 : Nat)] (fun x => True) (fun x => [I (↑(clr t) : Int)]) (fun x => H.nil) fun y => []] ∧ (∀ (y : Unit), True → ∀ (u : Nat → AV), (AV.tup [I (↑(clr t) : Int), I 0], H.mk [] [] []) = (AV.tup [I (↑(clr t) : Int), I 0], H.mk [] [] [])) ∧ True) (by kernel_rfl) ?_
  refine ⟨acall_b (acall_hit (c := c56.to) (t, r) _ rfl p56) hb, ?_⟩
  refine ⟨acall_hit (c := c77.to) (t, r) _ rfl p77, ?_⟩
  refine ⟨acall_hit (c := c70.to) (t, r) _ rfl p70, ?_⟩
  refine ⟨told_add (by with_reducible assumption), ?_⟩
  refine ⟨lp, ?_⟩
  refine And.intro ?_ ?_
  · skip
    intro y
    intro w1
    intro u
    first | with_reducible rfl | (refine bleaf_t ?_; omega) | (refine bleaf_f ?_; omega) | (refine ileaf ?_; omega) | rfl | (exfalso; omega)
  · skip
    trivial
noncomputable def c49t : PCtr Tryd.prog := sctr ok49 (X := List Int × Room) (fun x => [ls x.1 x.2]) (fun x => Tn x.1 ∧ rok x.1 x.2) (fun x => .tup [I (clr x.1 : Nat), I 0]) (by intro x y e _ _; simp at e; simp [e]) (fun x => by simp [AV.bnds, AV.bnd, AV.wk, rm_wk_bnd]) (fun x => by first | rfl | simp [AV.bnd, AV.bnds]) (fun x hx => ⟨_, _, _, ct49, r49t x.1 x.2.wk hx.1 (by simpa using hx.2)⟩)
theorem ok49f : FokM Tryd.prog none1 49 Tryd.f49 := ⟨mixed, by kernel_rfl, by kernel_rfl, by kernel_rfl, by kernel_rfl⟩
theorem r49f (t : List Int) (r : Room) (hp : (lim t.length ∧ rok t r ∧ inI t) ∧ ¬ Tn t) : Body ⟨Tryd.prog, Sof (P := Tryd.prog) [c56.to], Pof (P := Tryd.prog) [], H.nil.base, 300⟩ none1 Tryd.f49 [ls t r] .nil (.tup [I 0, I 2], .nil) := by
  obtain ⟨⟨h1, hr, h3⟩, hn⟩ := hp
  have hb := tn_f hn
  have p56 : (lim t.length ∧ rok t r) ∧ inI t := ⟨⟨h1, hr⟩, h3⟩
  refine body_s ([Ans.o (Orc.val 9 (AV.bool false) (H.mk [] [] []))]) (aCall (Sof [c56.to]) (AV.fn (Fn.func (56 : Nat)) [] []) [AV.sl (ints t) t.length r] (H.mk [] [] []) = some (AV.bool false, H.mk [] [] []) ∧ (AV.tup [I 0, I 2], H.mk [] [] []) = (AV.tup [I 0, I 2], H.mk [] [] [])) (by kernel_rfl) ?_
  refine ⟨acall_b (acall_hit (c := c56.to) (t, r) _ rfl p56) hb, ?_⟩
  first | with_reducible rfl | (refine bleaf_t ?_; omega) | (refine bleaf_f ?_; omega) | (refine ileaf ?_; omega) | rfl | (exfalso; omega)
noncomputable def c49f : PCtr Tryd.prog := sctr ok49f (X := List Int × Room) (fun x => [ls x.1 x.2]) (fun x => (lim x.1.length ∧ rok x.1 x.2 ∧ inI x.1) ∧ ¬ Tn x.1) (fun x => .tup [I 0, I 2]) (by intro x y e _ _; simp [Int.natCast_inj] at e; simp [e]) (fun x => by simp [AV.bnds, AV.bnd, AV.wk, rm_wk_bnd]) (fun x => by first | rfl | (simp [AV.bnd, rm_wk_bnd]; done)  | (simp [AV.bnd, AV.bnds, rm_wk_bnd]; done) | simp [AV.bnd, AV.bnds, Room.bnd, rm_wk_bnd]) (fun x hx => ⟨_, _, _, .pure c56 (.nil), r49f (x.1) (x.2).wk (by first | exact hx | (simp only [rok_wk]; exact hx) | (simp only [rok_wk, lst_wk]; exact hx) | (simp only [rok_wk, lst_wk, lsn_wk]; exact hx))⟩)
end Go.Proofs.Rnk

