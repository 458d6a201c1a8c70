/- Layer 5: the law of the cycle of five, whole. -/
import Derived.Test.YtlomlnkafakloaaDoorSyG
import Derived.KernelRfl
set_option linter.unusedSimpArgs false
set_option linter.unusedVariables false
set_option linter.unnecessarySimpa false
set_option maxHeartbeats 4000000
set_option maxRecDepth 100000
namespace Go.Proofs.Sur
open Go Go.VM

theorem ok12 : FokM Tryd.prog none1 12 Tryd.f12 := ⟨mixed, by kernel_rfl, by kernel_rfl, by kernel_rfl, by kernel_rfl⟩
abbrev M19 : FuncId → Bool := (· == 19)
theorem ok12m : FokM Tryd.prog M19 12 Tryd.f12 := ⟨mixed, by kernel_rfl, by kernel_rfl, by kernel_rfl, by kernel_rfl⟩
theorem simp12m0 : allSimpleM M19 (loopAt Tryd.f12 0) = true := by kernel_rfl
theorem simp12m1 : allSimpleM M19 (loopAt Tryd.f12 1) = true := by kernel_rfl
theorem r12r (o : List Int) (q : RK) (hp : pl o q) (hno : ¬ ∀ i, i < o.length → okO o i) : Body (En6 [c23.to]) none1 Tryd.f12 [ls o (rr q)] .nil (.bool true, .nil) := by
  have lpr := lp12r o (rr q) (pl_rok hp) hp.1 hno
  refine body_s ([Ans.loop [(0 : Nat), (3 : Nat), (20 : Nat), (21 : Nat), (22 : Nat)] [Out.mk Unit AX.ret [(2 : Nat)] (fun x => True) (fun x => [AV.bool true]) (fun x => H.nil) fun y => []]]) (LoopS (Env.mk Tryd.prog (Sof [c23.to]) (Pof (P := Tryd.prog) []) H.nil.base (300 : Nat)) (loopAt Tryd.f12 (0 : Nat)) (152 : Nat) [(0 : Nat), (3 : Nat), (20 : Nat), (21 : Nat), (22 : Nat)] [AV.sl (ints o) o.length (rr q), I 0, AV.sl (ints o) o.length (rr q), I (↑o.length : Int), I 0] (H.mk [] [] []) [Out.mk Unit AX.ret [(2 : Nat)] (fun x => True) (fun x => [AV.bool true]) (fun x => H.nil) fun y => []] ∧ (∀ (y : Unit), True → ∀ (u : Nat → AV), (AV.bool true, H.mk [] [] []) = (AV.bool true, H.mk [] [] [])) ∧ True) (by kernel_rfl) ?_
  refine ⟨lpr, ?_⟩
  refine And.intro ?_ ?_
  · skip
    intro y
    intro w1
    intro u
    first | with_reducible rfl | (refine bleaf_t ?_; omega) | (refine bleaf_f ?_; omega) | (refine ileaf ?_; omega) | rfl | (exfalso; omega)
  · skip
    trivial
theorem r12n (o : List Int) (q : RK) (hp : pl o q) (hall : ∀ i, i < o.length → okO o i) (hn : mtF o o.length ≠ 31) : Body (En6 [c23.to]) none1 Tryd.f12 [ls o (rr q)] .nil (.bool true, .nil) := by
  have hR : Rests (En6 [c23.to]) none1 := rests mixed (.pure _ .nil)
  have lpe := lp12e hR simp12a o (rr q) (pl_rok hp) hp.1 hall
  have hn' : ((mtF o o.length : Nat) : Int) ≠ 31 := by omega
  refine body_s ([Ans.loop [(0 : Nat), (3 : Nat), (20 : Nat), (21 : Nat), (22 : Nat)] [Out.mk Unit (AX.exit (0 : Nat)) [(0 : Nat), (3 : Nat)] (fun x => True) (fun x => [ls o (rr q), I (↑(mtF o o.length) : Int)]) (fun x => H.nil) fun y => [Ans.o (Orc.b true), Ans.o (Orc.val 47 (AV.bool true) (H.mk [] [] []))]]]) (LoopS (Env.mk Tryd.prog (Sof [c23.to]) (Pof (P := Tryd.prog) []) H.nil.base (300 : Nat)) (loopAt Tryd.f12 (0 : Nat)) (152 : Nat) [(0 : Nat), (3 : Nat), (20 : Nat), (21 : Nat), (22 : Nat)] [AV.sl (ints o) o.length (rr q), I 0, AV.sl (ints o) o.length (rr q), I (↑o.length : Int), I 0] (H.mk [] [] []) [Out.mk Unit (AX.exit (0 : Nat)) [(0 : Nat), (3 : Nat)] (fun x => True) (fun x => [ls o (rr q), I (↑(mtF o o.length) : Int)]) (fun x => H.nil) fun y => [Ans.o (Orc.b true), Ans.o (Orc.val 47 (AV.bool true) (H.mk [] [] []))]] ∧ (∀ (y : Unit), True → ∀ (u : Nat → AV), (↑(mtF o o.length) : Int) ≠ (31 : Int) ∧ aCall (Sof [c23.to]) (AV.fn (Fn.func (23 : Nat)) [] []) [] (H.mk [] [] []) = some (AV.bool true, H.mk [] [] []) ∧ (AV.bool true, H.mk [] [] []) = (AV.bool true, H.mk [] [] [])) ∧ True) (by kernel_rfl) ?_
  refine ⟨lpe, ?_⟩
  refine And.intro ?_ ?_
  · skip
    intro y
    intro w1
    intro u
    refine ⟨by first | with_reducible assumption | omega | assumption, ?_⟩
    refine ⟨acall_hit (c := c23.to) () _ rfl trivial, ?_⟩
    first | with_reducible rfl | (refine bleaf_t ?_; omega) | (refine bleaf_f ?_; omega) | (refine ileaf ?_; omega) | rfl | (exfalso; omega)
  · skip
    trivial
theorem rests12 {G : List Int} (h5 : G.length = 5) (hF : Five G) : Rests (En6 [c23.to, c19n G h5, c28.to, (c33f G hF).to, (c40f G hF).to, c43n G hF]) M19 :=
  rests mixed (.pure _ (.eff _ rfl (.pure _ (.pure _ (.pure _ (.rd _ (c43n_reads G hF) .nil))))))
theorem r12y (o : List Int) (q : RK) (hp : pl o q) (hall : ∀ i, i < o.length → okO o i) (h31 : mtF o o.length = 31) (h5 : o.length = 5) (ho : ∀ i, i < 5 → 0 ≤ at_ o i ∧ at_ o i ≤ 4)
    (G : List Int) (hG : cyF o 5 = G) (hF : Five G) (hG5 : G.length = 5) :
    Body (En6 [c23.to, c19n G hG5, c28.to, (c33f G hF).to, (c40f G hF).to, c43n G hF]) M19 Tryd.f12 [ls o (rr q)] .nil (.bool true, .nil) := by
  have lpe := lp12e (rests12 hG5 hF) simp12m0 o (rr q) (pl_rok hp) hp.1 hall
  have lpg := lp12g (rests12 hG5 hF) simp12m1 o (rr q) (pl_rok hp) h5 ho
  rw [hG] at lpg
  have hn' : ((mtF o o.length : Nat) : Int) = 31 := by omega
  have d1 : rdE G 1 = 0 := (rd_some ⟨grB_t hF.gr, by omega, by omega⟩ rfl).1
  have d2 : rdE G 2 = 0 := (rd_some (w := prV (nrV G) (nrV G)) ⟨grB_t hF.gr, by omega, by omega⟩ (by
    show rdF G (2 - 1 : Int).toNat (nrV G) = _
    show (if 64 < (nrV G).length * G.length then none else rdF G 0 (prV (nrV G) (nrV G))) = _
    rw [nrV_len, hG5, if_neg (by decide)]; rfl)).1
  have l1 : ((coV G 1).length : Int) = 2 := by rw [hF.c1]; rfl
  have l2 : ((coV G 2).length : Int) = 5 := by rw [hF.c2]; rfl
  have hr : ∀ n z, rok G (.tok n z) := fun _ _ _ => by simp
  have hL : lim G.length := by show G.length ≤ _; omega
  refine body_s ([Ans.loop [(0 : Nat), (3 : Nat), (20 : Nat), (21 : Nat), (22 : Nat)] [Out.mk Unit (AX.exit (0 : Nat)) [(0 : Nat), (3 : Nat)] (fun x => True) (fun x => [ls o (rr q), I (↑(mtF o o.length) : Int)]) (fun x => H.nil) fun y => [Ans.o (Orc.b false), Ans.loop [(0 : Nat), (6 : Nat), (49 : Nat), (50 : Nat), (51 : Nat)] [Out.mk Unit (AX.exit (2 : Nat)) [(6 : Nat)] (fun x => True) (fun x => [AV.msl 0 0 (5 : Nat) (5 : Nat) (1 : Nat)]) (fun x => H.mk [ints G] [] []) fun y => [Ans.o (Orc.val 81 (AV.sl (ints G) G.length (Room.tok 0 1)) (H.mk [ints G] [G.length] [])), Ans.o (Orc.val 82 (AV.tup [AV.sl (ints (coV G (1 : Int))) (coV G (1 : Int)).length (rn (coV G (1 : Int))), I (rdE G (1 : Int))]) (H.mk [ints G] [G.length] [])), Ans.o (Orc.val 87 (AV.sl (ints G) G.length (Room.tok 1 1)) (H.mk [ints G] [G.length, G.length] [])), Ans.o (Orc.val 88 (AV.tup [AV.sl (ints (coV G (2 : Int))) (coV G (2 : Int)).length (rn (coV G (2 : Int))), I (rdE G (2 : Int))]) (H.mk [ints G] [G.length, G.length] [])), Ans.o (Orc.val 93 (AV.sl (ints G) G.length (Room.tok 2 1)) (H.mk [ints G] [G.length, G.length, G.length] [])), Ans.o (Orc.val 94 (AV.tup [AV.agg [I 5, I 2], I 0]) (H.mk [ints G] [G.length, G.length, G.length] [])), Ans.o (Orc.val 99 (AV.sl (ints G) G.length (Room.tok 3 1)) (H.mk [ints G, [I 5, I 2]] [G.length, G.length, G.length, G.length] [])), Ans.o (Orc.val 100 (AV.tup [I 3, I 0]) (H.mk [ints G, [I 5, I 2]] [G.length, G.length, G.length, G.length] [])), Ans.o (Orc.val 105 (AV.tup [I 3, I 0]) (H.mk [ints G, [I 5, I 2]] [G.length, G.length, G.length, G.length] [])), Ans.o (Orc.b true), Ans.o (Orc.b true), Ans.o Orc.dflt, Ans.o Orc.dflt, Ans.o Orc.dflt, Ans.o (Orc.b true), Ans.o (Orc.b true), Ans.o Orc.dflt, Ans.o Orc.dflt, Ans.o (Orc.val 150 (AV.bool true) (H.mk [ints G, [I 5, I 2]] [G.length, G.length, G.length, G.length] []))]]]]]) (LoopS (Env.mk Tryd.prog (Sof [c23.to, c19n G hG5, c28.to, (c33f G hF).to, (c40f G hF).to, c43n G hF]) (Pof (P := Tryd.prog) []) H.nil.base (300 : Nat)) (loopAt Tryd.f12 (0 : Nat)) (152 : Nat) [(0 : Nat), (3 : Nat), (20 : Nat), (21 : Nat), (22 : Nat)] [AV.sl (ints o) o.length (rr q), I 0, AV.sl (ints o) o.length (rr q), I (↑o.length : Int), I 0] (H.mk [] [] []) [Out.mk Unit (AX.exit (0 : Nat)) [(0 : Nat), (3 : Nat)] (fun x => True) (fun x => [ls o (rr q), I (↑(mtF o o.length) : Int)]) (fun x => H.nil) fun y => [Ans.o (Orc.b false), Ans.loop [(0 : Nat), (6 : Nat), (49 : Nat), (50 : Nat), (51 : Nat)] [Out.mk Unit (AX.exit (2 : Nat)) [(6 : Nat)] (fun x => True) (fun x => [AV.msl 0 0 (5 : Nat) (5 : Nat) (1 : Nat)]) (fun x => H.mk [ints G] [] []) fun y => [Ans.o (Orc.val 81 (AV.sl (ints G) G.length (Room.tok 0 1)) (H.mk [ints G] [G.length] [])), Ans.o (Orc.val 82 (AV.tup [AV.sl (ints (coV G (1 : Int))) (coV G (1 : Int)).length (rn (coV G (1 : Int))), I (rdE G (1 : Int))]) (H.mk [ints G] [G.length] [])), Ans.o (Orc.val 87 (AV.sl (ints G) G.length (Room.tok 1 1)) (H.mk [ints G] [G.length, G.length] [])), Ans.o (Orc.val 88 (AV.tup [AV.sl (ints (coV G (2 : Int))) (coV G (2 : Int)).length (rn (coV G (2 : Int))), I (rdE G (2 : Int))]) (H.mk [ints G] [G.length, G.length] [])), Ans.o (Orc.val 93 (AV.sl (ints G) G.length (Room.tok 2 1)) (H.mk [ints G] [G.length, G.length, G.length] [])), Ans.o (Orc.val 94 (AV.tup [AV.agg [I 5, I 2], I 0]) (H.mk [ints G] [G.length, G.length, G.length] [])), Ans.o (Orc.val 99 (AV.sl (ints G) G.length (Room.tok 3 1)) (H.mk [ints G, [I 5, I 2]] [G.length, G.length, G.length, G.length] [])), Ans.o (Orc.val 100 (AV.tup [I 3, I 0]) (H.mk [ints G, [I 5, I 2]] [G.length, G.length, G.length, G.length] [])), Ans.o (Orc.val 105 (AV.tup [I 3, I 0]) (H.mk [ints G, [I 5, I 2]] [G.length, G.length, G.length, G.length] [])), Ans.o (Orc.b true), Ans.o (Orc.b true), Ans.o Orc.dflt, Ans.o Orc.dflt, Ans.o Orc.dflt, Ans.o (Orc.b true), Ans.o (Orc.b true), Ans.o Orc.dflt, Ans.o Orc.dflt, Ans.o (Orc.val 150 (AV.bool true) (H.mk [ints G, [I 5, I 2]] [G.length, G.length, G.length, G.length] []))]]]] ∧ (∀ (y : Unit), True → ∀ (u : Nat → AV), (↑(mtF o o.length) : Int) = (31 : Int) ∧ LoopS (Env.mk Tryd.prog (Sof [c23.to, c19n G hG5, c28.to, (c33f G hF).to, (c40f G hF).to, c43n G hF]) (Pof (P := Tryd.prog) []) H.nil.base (300 : Nat)) (loopAt Tryd.f12 (1 : Nat)) (152 : Nat) [(0 : Nat), (6 : Nat), (49 : Nat), (50 : Nat), (51 : Nat)] [AV.sl (ints o) o.length (rr q), AV.msl 0 0 (5 : Nat) (5 : Nat) (1 : Nat), AV.sl (ints o) o.length (rr q), I (↑o.length : Int), I 0] (H.mk [[I 0, I 0, I 0, I 0, I 0]] [] []) [Out.mk Unit (AX.exit (2 : Nat)) [(6 : Nat)] (fun x => True) (fun x => [AV.msl 0 0 (5 : Nat) (5 : Nat) (1 : Nat)]) (fun x => H.mk [ints G] [] []) fun y => [Ans.o (Orc.val 81 (AV.sl (ints G) G.length (Room.tok 0 1)) (H.mk [ints G] [G.length] [])), Ans.o (Orc.val 82 (AV.tup [AV.sl (ints (coV G (1 : Int))) (coV G (1 : Int)).length (rn (coV G (1 : Int))), I (rdE G (1 : Int))]) (H.mk [ints G] [G.length] [])), Ans.o (Orc.val 87 (AV.sl (ints G) G.length (Room.tok 1 1)) (H.mk [ints G] [G.length, G.length] [])), Ans.o (Orc.val 88 (AV.tup [AV.sl (ints (coV G (2 : Int))) (coV G (2 : Int)).length (rn (coV G (2 : Int))), I (rdE G (2 : Int))]) (H.mk [ints G] [G.length, G.length] [])), Ans.o (Orc.val 93 (AV.sl (ints G) G.length (Room.tok 2 1)) (H.mk [ints G] [G.length, G.length, G.length] [])), Ans.o (Orc.val 94 (AV.tup [AV.agg [I 5, I 2], I 0]) (H.mk [ints G] [G.length, G.length, G.length] [])), Ans.o (Orc.val 99 (AV.sl (ints G) G.length (Room.tok 3 1)) (H.mk [ints G, [I 5, I 2]] [G.length, G.length, G.length, G.length] [])), Ans.o (Orc.val 100 (AV.tup [I 3, I 0]) (H.mk [ints G, [I 5, I 2]] [G.length, G.length, G.length, G.length] [])), Ans.o (Orc.val 105 (AV.tup [I 3, I 0]) (H.mk [ints G, [I 5, I 2]] [G.length, G.length, G.length, G.length] [])), Ans.o (Orc.b true), Ans.o (Orc.b true), Ans.o Orc.dflt, Ans.o Orc.dflt, Ans.o Orc.dflt, Ans.o (Orc.b true), Ans.o (Orc.b true), Ans.o Orc.dflt, Ans.o Orc.dflt, Ans.o (Orc.val 150 (AV.bool true) (H.mk [ints G, [I 5, I 2]] [G.length, G.length, G.length, G.length] []))]] ∧ (∀ (y : Unit), True → ∀ (u : Nat → AV), aCall (Sof [c23.to, c19n G hG5, c28.to, (c33f G hF).to, (c40f G hF).to, c43n G hF]) (AV.fn (Fn.func (19 : Nat)) [] []) [AV.msl 0 0 (5 : Nat) (5 : Nat) (1 : Nat)] (H.mk [ints G] [] []) = some (AV.sl (ints G) G.length (Room.tok 0 1), H.mk [ints G] [G.length] []) ∧ aCall (Sof [c23.to, c19n G hG5, c28.to, (c33f G hF).to, (c40f G hF).to, c43n G hF]) (AV.fn (Fn.func (28 : Nat)) [] []) [AV.sl (ints G) G.length (Room.tok 0 1), I 1] (H.mk [ints G] [G.length] []) = some (AV.tup [AV.sl (ints (coV G (1 : Int))) (coV G (1 : Int)).length (rn (coV G (1 : Int))), I (rdE G (1 : Int))], H.mk [ints G] [G.length] []) ∧ aCall (Sof [c23.to, c19n G hG5, c28.to, (c33f G hF).to, (c40f G hF).to, c43n G hF]) (AV.fn (Fn.func (19 : Nat)) [] []) [AV.msl 0 0 (5 : Nat) (5 : Nat) (1 : Nat)] (H.mk [ints G] [G.length] []) = some (AV.sl (ints G) G.length (Room.tok 1 1), H.mk [ints G] [G.length, G.length] []) ∧ aCall (Sof [c23.to, c19n G hG5, c28.to, (c33f G hF).to, (c40f G hF).to, c43n G hF]) (AV.fn (Fn.func (28 : Nat)) [] []) [AV.sl (ints G) G.length (Room.tok 1 1), I 2] (H.mk [ints G] [G.length, G.length] []) = some (AV.tup [AV.sl (ints (coV G (2 : Int))) (coV G (2 : Int)).length (rn (coV G (2 : Int))), I (rdE G (2 : Int))], H.mk [ints G] [G.length, G.length] []) ∧ aCall (Sof [c23.to, c19n G hG5, c28.to, (c33f G hF).to, (c40f G hF).to, c43n G hF]) (AV.fn (Fn.func (19 : Nat)) [] []) [AV.msl 0 0 (5 : Nat) (5 : Nat) (1 : Nat)] (H.mk [ints G] [G.length, G.length] []) = some (AV.sl (ints G) G.length (Room.tok 2 1), H.mk [ints G] [G.length, G.length, G.length] []) ∧ aCall (Sof [c23.to, c19n G hG5, c28.to, (c33f G hF).to, (c40f G hF).to, c43n G hF]) (AV.fn (Fn.func (33 : Nat)) [] []) [AV.sl (ints G) G.length (Room.tok 2 1)] (H.mk [ints G] [G.length, G.length, G.length] []) = some (AV.tup [AV.agg [I 5, I 2], I 0], H.mk [ints G] [G.length, G.length, G.length] []) ∧ aCall (Sof [c23.to, c19n G hG5, c28.to, (c33f G hF).to, (c40f G hF).to, c43n G hF]) (AV.fn (Fn.func (19 : Nat)) [] []) [AV.msl 0 0 (5 : Nat) (5 : Nat) (1 : Nat)] (H.mk [ints G, [I 5, I 2]] [G.length, G.length, G.length] []) = some (AV.sl (ints G) G.length (Room.tok 3 1), H.mk [ints G, [I 5, I 2]] [G.length, G.length, G.length, G.length] []) ∧ aCall (Sof [c23.to, c19n G hG5, c28.to, (c33f G hF).to, (c40f G hF).to, c43n G hF]) (AV.fn (Fn.func (40 : Nat)) [] []) [AV.sl (ints G) G.length (Room.tok 3 1)] (H.mk [ints G, [I 5, I 2]] [G.length, G.length, G.length, G.length] []) = some (AV.tup [I 3, I 0], H.mk [ints G, [I 5, I 2]] [G.length, G.length, G.length, G.length] []) ∧ aCall (Sof [c23.to, c19n G hG5, c28.to, (c33f G hF).to, (c40f G hF).to, c43n G hF]) (AV.fn (Fn.func (43 : Nat)) [] []) [AV.msl 0 0 (5 : Nat) (5 : Nat) (1 : Nat)] (H.mk [ints G, [I 5, I 2]] [G.length, G.length, G.length, G.length] []) = some (AV.tup [I 3, I 0], H.mk [ints G, [I 5, I 2]] [G.length, G.length, G.length, G.length] []) ∧ rdE G (1 : Int) = (0 : Int) ∧ rdE G (2 : Int) = (0 : Int) ∧ (↑(coV G (1 : Int)).length : Int) = (2 : Int) ∧ (↑(coV G (2 : Int)).length : Int) = (5 : Int) ∧ aCall (Sof [c23.to, c19n G hG5, c28.to, (c33f G hF).to, (c40f G hF).to, c43n G hF]) (AV.fn (Fn.func (23 : Nat)) [] []) [] (H.mk [ints G, [I 5, I 2]] [G.length, G.length, G.length, G.length] []) = some (AV.bool true, H.mk [ints G, [I 5, I 2]] [G.length, G.length, G.length, G.length] []) ∧ (AV.bool true, H.mk [] [] []) = (AV.bool true, H.mk [] [] [])) ∧ True) ∧ True) (by kernel_rfl) ?_
  refine ⟨lpe, ?_⟩
  refine And.intro ?_ ?_
  · skip
    intro y
    intro w1
    intro u
    refine ⟨by first | with_reducible assumption | omega | assumption, ?_⟩
    refine ⟨lpg, ?_⟩
    refine And.intro ?_ ?_
    · skip
      intro y
      intro w4
      intro u
      refine ⟨acall_hit (c := c19n G hG5) () _ rfl rfl, ?_⟩
      refine ⟨by first | exact acall_hit (c := c28.to) (G, .tok 0 1, 1) _ rfl ⟨hL, hr 0 1⟩ | exact acall_hit (c := c28.to) (G, .tok 1 1, 2) _ rfl ⟨hL, hr 1 1⟩, ?_⟩
      refine ⟨acall_hit (c := c19n G hG5) () _ rfl rfl, ?_⟩
      refine ⟨by first | exact acall_hit (c := c28.to) (G, .tok 0 1, 1) _ rfl ⟨hL, hr 0 1⟩ | exact acall_hit (c := c28.to) (G, .tok 1 1, 2) _ rfl ⟨hL, hr 1 1⟩, ?_⟩
      refine ⟨acall_hit (c := c19n G hG5) () _ rfl rfl, ?_⟩
      refine ⟨acall_hit (c := (c33f G hF).to) (.tok 2 1) _ rfl (hr 2 1), ?_⟩
      refine ⟨acall_hit (c := c19n G hG5) () _ rfl rfl, ?_⟩
      refine ⟨acall_hit (c := (c40f G hF).to) (.tok 3 1) _ rfl (hr 3 1), ?_⟩
      refine ⟨acall_hit (c := c43n G hF) () _ rfl rfl, ?_⟩
      refine ⟨by first | with_reducible assumption | omega | assumption, ?_⟩
      refine ⟨by first | with_reducible assumption | omega | assumption, ?_⟩
      refine ⟨by first | with_reducible assumption | omega | assumption, ?_⟩
      refine ⟨by first | with_reducible assumption | omega | assumption, ?_⟩
      refine ⟨acall_hit (c := c23.to) () _ rfl trivial, ?_⟩
      first | with_reducible rfl | (refine bleaf_t ?_; omega) | (refine bleaf_f ?_; omega) | (refine ileaf ?_; omega) | rfl | (exfalso; omega)
    · skip
      trivial
  · skip
    trivial
theorem five_ok (o : List Int) (q : RK) (h1 : lim o.length) (h2 : q.mt = true → o = []) : CallOk Tryd.prog 12 [ls o (rr q)] .nil (.bool true) .nil := by
  have hp : pl o q := ⟨h1, h2⟩
  by_cases hall : ∀ i, i < o.length → okO o i
  · by_cases h31 : mtF o o.length = 31
    · obtain ⟨h5, hn, ho⟩ := mt_all hall h31
      have hF := five_all h5 ho hn
      exact (r12y o q hp hall h31 h5 ho (cyF o 5) rfl hF hF.len).run ok12m (.pure _ (.eff _ rfl (.pure _ (.pure _ (.pure _ (.rd _ (c43n_reads _ hF) .nil)))))) rfl
    · exact (r12n o q hp hall h31).run ok12 (.pure _ .nil) rfl
  · exact (r12r o q hp hall).run ok12 (.pure _ .nil) rfl
end Go.Proofs.Sur

