/- Layer 2: the law of triples. -/
import Derived.Test.YtnnhomkkggkkfaaDoorRkV
import Derived.Test.YtnnhomkkggkkfaaDoorRkS
import Derived.KernelRfl
set_option linter.unusedSimpArgs false
set_option linter.unusedVariables false
set_option linter.unnecessarySimpa false
set_option maxHeartbeats 4000000
set_option maxRecDepth 100000
namespace Go.Proofs.Rnk
open Go Go.VM
open Go.Proofs.Sur (andn andn_bit andn_le i_wrap i_and i_or i_andn i_shl i_shr bit_01)

theorem ok10 : FokM Tryd.prog none1 10 Tryd.f10 := ⟨mixed, by kernel_rfl, by kernel_rfl, by kernel_rfl, by kernel_rfl⟩
theorem r10f (t : List Int) (r : Room) (hp : pL t r) (h : ¬ Tn t) : Body (En6 [c19.to, c41f.to, c18f.to, c24.to]) none1 Tryd.f10 [ls t r] .nil (.bool true, .nil) := by
  obtain ⟨h1, h2⟩ := hp
  have p49 : (lim (cut t).length ∧ rok (cut t) (rcl r) ∧ inI (cut t)) ∧ ¬ Tn (cut t) := ⟨⟨cut_lim t, fun hne => rcl_rok h1.2.1 (fun e => hne (by rw [e]; rfl)), cut_in h2⟩, cut_tn h⟩
  refine body_s ([Ans.o (Orc.val 13 (AV.sl (ints (cut t)) (cut t).length (rcl r)) (H.mk [] [] [])), Ans.o (Orc.val 14 (AV.tup [AV.sl [] (0 : Nat) Room.nil, I 2]) (H.mk [] [] [])), Ans.o (Orc.val 19 (AV.sl (ints (cut t)) (cut t).length (rcl r)) (H.mk [] [] [])), Ans.o (Orc.val 20 (AV.tup [AV.sl [] (0 : Nat) Room.nil, I 2]) (H.mk [] [] [])), Ans.o Orc.dflt, Ans.o Orc.dflt, Ans.o Orc.dflt, Ans.o (Orc.val 33 (AV.bool true) (H.mk [] [] []))]) (aCall (Sof [c19.to, c41f.to, c18f.to, c24.to]) (AV.fn (Fn.func (19 : Nat)) [] []) [AV.sl (ints t) t.length r] (H.mk [] [] []) = some (AV.sl (ints (cut t)) (cut t).length (rcl r), H.mk [] [] []) ∧ aCall (Sof [c19.to, c41f.to, c18f.to, c24.to]) (AV.fn (Fn.func (41 : Nat)) [] []) [AV.sl (ints (cut t)) (cut t).length (rcl r)] (H.mk [] [] []) = some (AV.tup [AV.sl [] (0 : Nat) Room.nil, I 2], H.mk [] [] []) ∧ aCall (Sof [c19.to, c41f.to, c18f.to, c24.to]) (AV.fn (Fn.func (19 : Nat)) [] []) [AV.sl (ints t) t.length r] (H.mk [] [] []) = some (AV.sl (ints (cut t)) (cut t).length (rcl r), H.mk [] [] []) ∧ aCall (Sof [c19.to, c41f.to, c18f.to, c24.to]) (AV.fn (Fn.func (18 : Nat)) [] []) [AV.sl (ints (cut t)) (cut t).length (rcl r)] (H.mk [] [] []) = some (AV.tup [AV.sl [] (0 : Nat) Room.nil, I 2], H.mk [] [] []) ∧ aCall (Sof [c19.to, c41f.to, c18f.to, c24.to]) (AV.fn (Fn.func (24 : Nat)) [] []) [] (H.mk [] [] []) = some (AV.bool true, H.mk [] [] []) ∧ (AV.bool true, H.mk [] [] []) = (AV.bool true, H.mk [] [] [])) (by kernel_rfl) ?_
  refine ⟨acall_hit (c := c19.to) (t, r) _ rfl h1, ?_⟩
  refine ⟨acall_hit (c := c41f.to) (cut t, rcl r) _ rfl p49, ?_⟩
  refine ⟨acall_hit (c := c19.to) (t, r) _ rfl h1, ?_⟩
  refine ⟨acall_hit (c := c18f.to) (cut t, rcl r) _ rfl p49, ?_⟩
  refine ⟨acall_hit (c := c24.to) () _ rfl trivial, ?_⟩
  first | with_reducible rfl | (refine bleaf_t ?_; omega) | (refine bleaf_f ?_; omega) | (refine ileaf ?_; omega) | rfl | (exfalso; omega)
noncomputable abbrev cs10 : List (Ctr Tryd.prog) := [c19s.to, c41t.to, c18t.to, c24.to]
theorem ct10 : Ctrs Tryd.prog none1 cs10 := .pure _ (.pure _ (.pure _ (.pure _ .nil)))
abbrev sl10 (t : List Int) : AV := .sl (ints (srt t)) t.length .full
abbrev o10 (t : List Int) (W : Int) : List Out := [.mk Unit (.exit 0) [3, 6, 8] (fun _ => True) (fun _ => [ct t, I 0, I (W - pS c2I (srt t) t.length)]) (fun _ => .nil) (fun _ => [])]
theorem simp10 : allSimpleM none1 (loopAt Tryd.f10 0) = true := by kernel_rfl
theorem pS_b {t : List Int} (h : Tn t) : ∀ j, j ≤ t.length → 0 ≤ pS c2I (srt t) j ∧ pS c2I (srt t) j ≤ 28 * j
  | 0, _ => by simp [pS]
  | j + 1, hj => by
    have ih := pS_b h j (by omega)
    have hb := srt_b h (j := j) (by omega)
    have := (c2_b ((srt t).getD j i0).toNat (by omega)).1
    simp only [pS, c2I]
    omega
theorem lp10 (t : List Int) (W : Int) (h : Tn t) (hW : 0 ≤ W ∧ W ≤ 1000) : LoopS (En6 cs10) (loopAt Tryd.f10 0) 70 [3, 6, 8, 45, 46, 47] [ct t, I 0, I W, sl10 t, I t.length, I 0] .nil (o10 t W) := by
  have hR : Rests (En6 cs10) none1 := rests mixed ct10
  have h8 := h.s.2
  have hl := srt_len t
  refine loop_s hR simp10 none (by intro _ h; cases h) (fun j vs h => h = .nil ∧ vs = [ct t, I 0, I (W - pS c2I (srt t) j), sl10 t, I t.length, I j]) t.length ⟨rfl, by simp [pS]⟩ (by intro _ h; cases h) ?_
  rintro j vs h' hj ⟨rfl, rfl⟩
  by_cases hz : (j : Int) < t.length
  · have hz' : j < t.length := by omega
    have hjl : j < (srt t).length := by omega
    have ev0 := wj1 (j := j) (by omega)
    have hb := srt_b h hz'
    obtain ⟨y, hy⟩ : ∃ y : Nat, (srt t).getD j i0 = y := ⟨((srt t).getD j i0).toNat, by omega⟩
    obtain ⟨k1, k2, k3, k4⟩ := c2_b y (by omega)
    have hpb := pS_b h j (by omega)
    have ev1 : IntKind.i64.wrap ((srt t).getD j i0 - 1) = (y : Int) - 1 := by rw [hy]; exact wr _ (by omega) (by omega)
    have ev2 : IntKind.i64.wrap ((srt t).getD j i0 * ((y : Int) - 1)) = (y : Int) * ((y : Int) - 1) := by rw [hy]; exact wr _ (by omega) (by omega)
    have n2 : (2 : Int) ≠ 0 := by decide
    have ev3 : IntKind.i64.wrap (W - pS c2I (srt t) j - ((y : Int) * ((y : Int) - 1)).tdiv 2) = W - pS c2I (srt t) (j + 1) := by
      have e : pS c2I (srt t) (j + 1) = pS c2I (srt t) j + ((c2 y : Nat) : Int) := by simp only [pS, c2I, hy, Int.toNat_natCast]
      rw [k2, e, wr _ (by omega) (by omega)]; omega
    refine ⟨[Ans.o (Orc.b true), Ans.o (Orc.val 49 (AV.cptr (ints (List.drop j (srt t)))) H.nil), Ans.o (Orc.val 50 (I ((srt t).getD j i0)) H.nil), Ans.o (Orc.val 54 (I ((↑y : Int) - (1 : Int))) H.nil), Ans.o (Orc.val 55 (I ((↑y : Int) * ((↑y : Int) - (1 : Int)))) H.nil), Ans.o (Orc.val 57 (I (W - pS c2I (srt t) (j + (1 : Nat)))) H.nil), Ans.o (Orc.val 58 (I (↑(j + (1 : Nat)) : Int)) H.nil)], fun u => of_eq ((↑j : Int) < (↑t.length : Int) ∧ aIndexAddr Tryd.prog (22 : Nat) (AV.sl (ints (srt t)) t.length Room.full) (I (↑j : Int)) = some (AV.cptr (ints (List.drop j (srt t)))) ∧ aLoad Tryd.prog (3 : Nat) (ints (List.drop j (srt t))) = some (I ((srt t).getD j i0)) ∧ aBin Tryd.prog BinOp.sub (3 : Nat) (I ((srt t).getD j i0)) (I 1) = some (I ((↑y : Int) - (1 : Int))) ∧ aBin Tryd.prog BinOp.mul (3 : Nat) (I ((srt t).getD j i0)) (I ((↑y : Int) - (1 : Int))) = some (I ((↑y : Int) * ((↑y : Int) - (1 : Int)))) ∧ (2 : Int) ≠ (0 : Int) ∧ IntKind.i64.wrap (((↑y : Int) * ((↑y : Int) - (1 : Int))).tdiv (2 : Int)) = ((↑y : Int) * ((↑y : Int) - (1 : Int))).tdiv (2 : Int) ∧ aBin Tryd.prog BinOp.sub (3 : Nat) (I (W - pS c2I (srt t) j)) (I (((↑y : Int) * ((↑y : Int) - (1 : Int))).tdiv (2 : Int))) = some (I (W - pS c2I (srt t) (j + (1 : Nat)))) ∧ aBin Tryd.prog BinOp.add (3 : Nat) (I (↑j : Int)) (I 1) = some (I (↑(j + (1 : Nat)) : Int)) ∧ (70 : Nat) = (70 : Nat) ∧ j < t.length ∧ Keep (H.mk [] [] [] = H.mk [] [] [] ∧ [AV.sl (trisA (cyc t)) (cyc t).length (cR t), I 0, I (W - pS c2I (srt t) (j + (1 : Nat))), AV.sl (ints (srt t)) t.length Room.full, I (↑t.length : Int), I (↑(j + (1 : Nat)) : Int)] = [AV.sl (trisA (cyc t)) (cyc t).length (cR t), I 0, I (W - pS c2I (srt t) (j + (1 : Nat))), AV.sl (ints (srt t)) t.length Room.full, I (↑t.length : Int), I (↑(j + (1 : Nat)) : Int)])) (by kernel_rfl) ?_⟩
    refine ⟨by first | with_reducible assumption | omega | assumption, ?_⟩
    refine ⟨ix_ints (by kernel_rfl) hz' (by decide), ?_⟩
    refine ⟨ld_ints (by kernel_rfl) (by kernel_rfl) hjl, ?_⟩
    refine ⟨told_sub (by with_reducible assumption), ?_⟩
    refine ⟨told_mul (by with_reducible assumption), ?_⟩
    refine ⟨by first | with_reducible assumption | omega | assumption, ?_⟩
    refine ⟨wr _ (by omega) (by omega), ?_⟩
    refine ⟨told_sub (by with_reducible assumption), ?_⟩
    refine ⟨told_add (by with_reducible assumption), ?_⟩
    refine ⟨by first | with_reducible assumption | omega | assumption, ?_⟩
    refine ⟨by first | with_reducible assumption | omega | assumption, ?_⟩
    exact ⟨rfl, rfl⟩
  · have hz : (t.length : Int) ≤ j := by omega
    have e : j = t.length := by omega
    subst e
    refine ⟨[Ans.o (Orc.b false)], fun u => of_eq ((↑t.length : Int) ≤ (↑t.length : Int) ∧ (70 : Nat) = (70 : Nat) ∧ hits [Out.mk Unit (AX.exit (0 : Nat)) [(3 : Nat), (6 : Nat), (8 : Nat)] (fun x => True) (fun x => [ct t, I 0, I (W - pS c2I (srt t) t.length)]) (fun x => H.nil) fun x => []] (AX.exit (0 : Nat)) [u (0 : Nat), u (1 : Nat), u (2 : Nat), AV.sl (trisA (cyc t)) (cyc t).length (cR t), u (4 : Nat), u (5 : Nat), I 0, u (7 : Nat), I (W - pS c2I (srt t) t.length), u (9 : Nat), u (10 : Nat), u (11 : Nat), u (12 : Nat), u (13 : Nat), u (14 : Nat), u (15 : Nat), u (16 : Nat), u (17 : Nat), u (18 : Nat), u (19 : Nat), u (20 : Nat), u (21 : Nat), u (22 : Nat), u (23 : Nat), u (24 : Nat), u (25 : Nat), u (26 : Nat), u (27 : Nat), u (28 : Nat), u (29 : Nat), u (30 : Nat), u (31 : Nat), u (32 : Nat), u (33 : Nat), u (34 : Nat), u (35 : Nat), u (36 : Nat), u (37 : Nat), u (38 : Nat), u (39 : Nat), u (40 : Nat), u (41 : Nat), u (42 : Nat), u (43 : Nat), u (44 : Nat), AV.sl (ints (srt t)) t.length Room.full, I (↑t.length : Int), I (↑t.length : Int), AV.bool false, u (49 : Nat), u (50 : Nat), u (51 : Nat), u (52 : Nat), u (53 : Nat), u (54 : Nat), u (55 : Nat), u (56 : Nat), u (57 : Nat), u (58 : Nat), u (59 : Nat), u (60 : Nat), u (61 : Nat), u (62 : Nat), u (63 : Nat), u (64 : Nat), u (65 : Nat), u (66 : Nat), u (67 : Nat), u (68 : Nat), u (69 : Nat)] (H.mk [] [] [])) (by kernel_rfl) ?_⟩
    refine ⟨by first | with_reducible assumption | omega | assumption, ?_⟩
    refine ⟨by first | with_reducible assumption | omega | assumption, ?_⟩
    exact .inl ⟨(), trivial, rfl, rfl, rfl⟩
theorem r10t (t : List Int) (r : Room) (hp : pL t r) (h : Tn t) : Body (En6 cs10) none1 Tryd.f10 [ls t r] .nil (.bool true, .nil) := by
  obtain ⟨h1, h2⟩ := hp
  have h8 := h.s.2
  have h0 := h.s.1
  have hr := h1.2.1
  have p19 : (lim t.length ∧ rok t r ∧ em t r) ∧ t.length ≤ 11 := ⟨h1, by omega⟩
  have p41 : Tn t ∧ rok t (rcl r) := ⟨h, rcl_rok hr⟩
  obtain ⟨k1, k2, ⟨k3, k4⟩, k5, k6⟩ := c3_b t.length (by omega) h0
  have ev1 : IntKind.i64.wrap ((t.length : Int) - 1) = (t.length : Int) - 1 := wr _ (by omega) (by omega)
  have ev2 : IntKind.i64.wrap ((t.length : Int) * ((t.length : Int) - 1)) = (t.length : Int) * ((t.length : Int) - 1) := wr _ (by omega) (by omega)
  have ev3 : IntKind.i64.wrap ((t.length : Int) - 2) = (t.length : Int) - 2 := wr _ (by omega) (by omega)
  have ev4 : IntKind.i64.wrap ((t.length : Int) * ((t.length : Int) - 1) * ((t.length : Int) - 2)) = (t.length : Int) * ((t.length : Int) - 1) * ((t.length : Int) - 2) := wr _ (by omega) (by omega)
  have n6 : (6 : Int) ≠ 0 := by decide
  have lp := lp10 t (((t.length : Int) * ((t.length : Int) - 1) * ((t.length : Int) - 2)).tdiv 6) h (by rw [k2]; omega)
  have hcnt := cyc_count h
  have hsum := srt_sum h
  have heq : ((cyc t).length : Int) = ((t.length : Int) * ((t.length : Int) - 1) * ((t.length : Int) - 2)).tdiv 6 - pS c2I (srt t) t.length := by
    rw [k2, hsum]; omega
  refine body_s ([Ans.o (Orc.val 13 (AV.sl (ints t) t.length (rcl r)) (H.mk [] [] [])), Ans.o (Orc.val 14 (AV.tup [AV.sl (trisA (cyc t)) (cyc t).length (cR t), I 0]) (H.mk [] [] [])), Ans.o (Orc.val 19 (AV.sl (ints t) t.length (rcl r)) (H.mk [] [] [])), Ans.o (Orc.val 20 (AV.tup [AV.sl (ints (srt t)) t.length Room.full, I 0]) (H.mk [] [] [])), Ans.o Orc.dflt, Ans.o (Orc.val 39 (I ((↑t.length : Int) - (1 : Int))) H.nil), Ans.o (Orc.val 40 (I ((↑t.length : Int) * ((↑t.length : Int) - (1 : Int)))) H.nil), Ans.o (Orc.val 42 (I ((↑t.length : Int) - (2 : Int))) H.nil), Ans.o (Orc.val 43 (I ((↑t.length : Int) * ((↑t.length : Int) - (1 : Int)) * ((↑t.length : Int) - (2 : Int)))) H.nil), Ans.loop [(3 : Nat), (6 : Nat), (8 : Nat), (45 : Nat), (46 : Nat), (47 : Nat)] [Out.mk Unit (AX.exit (0 : Nat)) [(3 : Nat), (6 : Nat), (8 : Nat)] (fun x => True) (fun x => [ct t, I 0, I (((↑t.length : Int) * ((↑t.length : Int) - (1 : Int)) * ((↑t.length : Int) - (2 : Int))).tdiv (6 : Int) - pS c2I (srt t) t.length)]) (fun x => H.nil) fun y => [Ans.o Orc.dflt, Ans.o (Orc.b true), Ans.o (Orc.val 68 (AV.bool true) (H.mk [] [] []))]]]) (aCall (Sof cs10) (AV.fn (Fn.func (19 : Nat)) [] []) [AV.sl (ints t) t.length r] (H.mk [] [] []) = some (AV.sl (ints t) t.length (rcl r), H.mk [] [] []) ∧ aCall (Sof cs10) (AV.fn (Fn.func (41 : Nat)) [] []) [AV.sl (ints t) t.length (rcl r)] (H.mk [] [] []) = some (AV.tup [AV.sl (trisA (cyc t)) (cyc t).length (cR t), I 0], H.mk [] [] []) ∧ aCall (Sof cs10) (AV.fn (Fn.func (19 : Nat)) [] []) [AV.sl (ints t) t.length r] (H.mk [] [] []) = some (AV.sl (ints t) t.length (rcl r), H.mk [] [] []) ∧ aCall (Sof cs10) (AV.fn (Fn.func (18 : Nat)) [] []) [AV.sl (ints t) t.length (rcl r)] (H.mk [] [] []) = some (AV.tup [AV.sl (ints (srt t)) t.length Room.full, I 0], H.mk [] [] []) ∧ aBin Tryd.prog BinOp.sub (3 : Nat) (I (↑t.length : Int)) (I 1) = some (I ((↑t.length : Int) - (1 : Int))) ∧ aBin Tryd.prog BinOp.mul (3 : Nat) (I (↑t.length : Int)) (I ((↑t.length : Int) - (1 : Int))) = some (I ((↑t.length : Int) * ((↑t.length : Int) - (1 : Int)))) ∧ aBin Tryd.prog BinOp.sub (3 : Nat) (I (↑t.length : Int)) (I 2) = some (I ((↑t.length : Int) - (2 : Int))) ∧ aBin Tryd.prog BinOp.mul (3 : Nat) (I ((↑t.length : Int) * ((↑t.length : Int) - (1 : Int)))) (I ((↑t.length : Int) - (2 : Int))) = some (I ((↑t.length : Int) * ((↑t.length : Int) - (1 : Int)) * ((↑t.length : Int) - (2 : Int)))) ∧ (6 : Int) ≠ (0 : Int) ∧ IntKind.i64.wrap (((↑t.length : Int) * ((↑t.length : Int) - (1 : Int)) * ((↑t.length : Int) - (2 : Int))).tdiv (6 : Int)) = ((↑t.length : Int) * ((↑t.length : Int) - (1 : Int)) * ((↑t.length : Int) - (2 : Int))).tdiv (6 : Int) ∧ LoopS (Env.mk Tryd.prog (Sof cs10) (Pof (P := Tryd.prog) []) H.nil.base (300 : Nat)) (loopAt Tryd.f10 (0 : Nat)) (70 : Nat) [(3 : Nat), (6 : Nat), (8 : Nat), (45 : Nat), (46 : Nat), (47 : Nat)] [AV.sl (trisA (cyc t)) (cyc t).length (cR t), I 0, I (((↑t.length : Int) * ((↑t.length : Int) - (1 : Int)) * ((↑t.length : Int) - (2 : Int))).tdiv (6 : Int)), AV.sl (ints (srt t)) t.length Room.full, I (↑t.length : Int), I 0] (H.mk [] [] []) [Out.mk Unit (AX.exit (0 : Nat)) [(3 : Nat), (6 : Nat), (8 : Nat)] (fun x => True) (fun x => [ct t, I 0, I (((↑t.length : Int) * ((↑t.length : Int) - (1 : Int)) * ((↑t.length : Int) - (2 : Int))).tdiv (6 : Int) - pS c2I (srt t) t.length)]) (fun x => H.nil) fun y => [Ans.o Orc.dflt, Ans.o (Orc.b true), Ans.o (Orc.val 68 (AV.bool true) (H.mk [] [] []))]] ∧ (∀ (y : Unit), True → ∀ (u : Nat → AV), (↑(cyc t).length : Int) = ((↑t.length : Int) * ((↑t.length : Int) - (1 : Int)) * ((↑t.length : Int) - (2 : Int))).tdiv (6 : Int) - pS c2I (srt t) t.length ∧ aCall (Sof cs10) (AV.fn (Fn.func (24 : Nat)) [] []) [] (H.mk [] [] []) = some (AV.bool true, H.mk [] [] []) ∧ (AV.bool true, H.mk [] [] []) = (AV.bool true, H.mk [] [] [])) ∧ True) (by kernel_rfl) ?_
  refine ⟨acall_hit (c := c19s.to) (t, r) _ rfl p19, ?_⟩
  refine ⟨acall_hit (c := c41t.to) (t, rcl r) _ rfl p41, ?_⟩
  refine ⟨acall_hit (c := c19s.to) (t, r) _ rfl p19, ?_⟩
  refine ⟨acall_hit (c := c18t.to) (t, rcl r) _ rfl p41, ?_⟩
  refine ⟨told_sub (by with_reducible assumption), ?_⟩
  refine ⟨told_mul (by with_reducible assumption), ?_⟩
  refine ⟨told_sub (by with_reducible assumption), ?_⟩
  refine ⟨told_mul (by with_reducible assumption), ?_⟩
  refine ⟨by first | with_reducible assumption | omega | assumption, ?_⟩
  refine ⟨wr _ (by omega) (by omega), ?_⟩
  refine ⟨lp, ?_⟩
  refine And.intro ?_ ?_
  · skip
    intro y
    intro w1
    intro u
    refine ⟨by first | with_reducible assumption | omega | assumption, ?_⟩
    refine ⟨acall_hit (c := c24.to) () _ rfl trivial, ?_⟩
    first | with_reducible rfl | (refine bleaf_t ?_; omega) | (refine bleaf_f ?_; omega) | (refine ileaf ?_; omega) | rfl | (exfalso; omega)
  · skip
    trivial
theorem triples_ok (t : List Int) (q : RK) (h1 : t.length ≤ Go.maxLen) (h2 : q.mt = true → t = []) (h3 : inI t) : CallOk Tryd.prog 10 [ls t (rr q)] .nil (.bool true) .nil := by
  have hp := pL_rr h1 h2 h3
  by_cases h : Tn t
  · exact (r10t t _ hp h).run ok10 ct10 rfl
  · exact (r10f t _ hp h).run ok10 (.pure _ (.pure _ (.pure _ (.pure _ .nil)))) rfl
end Go.Proofs.Rnk

