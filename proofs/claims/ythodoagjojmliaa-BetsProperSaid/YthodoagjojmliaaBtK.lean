/- Layer 9: forecasts and averages, by the reference. -/
import Derived.Test.YthodoagjojmliaaBtJ
import Derived.KernelRfl
set_option linter.unusedSimpArgs false
set_option linter.unusedVariables false
set_option linter.unnecessarySimpa false
set_option maxHeartbeats 4000000
set_option maxRecDepth 100000
namespace Go.Proofs.Bts
open Go Go.VM
open Go.Proofs.Sur (i_and i_shl i_shr bit_01)

theorem fcB_t {l : List Pr} (h : rdO l ∧ jOK l) : fcB l = decide (sI (ia (nums l)) l.length = (dn l l.length : Nat)) := by
  have : (nums l).length = l.length := nmL_len _ _
  unfold fcB; rw [if_pos h, this]
theorem fcB_f {l : List Pr} (h : ¬ (rdO l ∧ jOK l)) : fcB l = false := if_neg h
abbrev o49 (l : List Pr) (r : Room) : List Out :=
  [.mk (List (List AV)) .ret [2] (fun _ => ¬ smPs l) (fun _ => [.bool false]) (fun bs => ⟨bs, [], []⟩) (fun _ => []),
   .mk Unit (.exit 0) [0] (fun _ => smPs l) (fun _ => [pz l r]) (fun _ => .nil) (fun _ => [])]
theorem simp49 : allSimpleM none1 (loopAt Try.f49 0) = true := by kernel_rfl
theorem lp49 (l : List Pr) (r : Room) (hp : pM l r.wk) :
    LoopS (En6 [c25.to, c54.to, c78.to]) (loopAt Try.f49 0) 39 [0, 20, 21, 22] [pz l r.wk, pz l r.wk, I l.length, I 0] .nil (o49 l r.wk) := by
  have hR : Rests (En6 [c25.to, c54.to, c78.to]) none1 := rests mixed (.pure _ (.pure _ (.pure _ .nil)))
  refine loop_s hR simp49 (some 0) (by intro nb h; cases h; exact ⟨Nat.zero_le _, Nat.le_refl 0⟩) (fun j vs h => h = .nil ∧ vs = [pz l r.wk, pz l r.wk, I l.length, I (j : Nat)] ∧ ∀ i, i < j → (l.getD i pair0).2 ≤ 60) l.length ⟨rfl, rfl, fun i hi => absurd hi (by omega)⟩ (by rintro nb h j vs h' ⟨rfl, _⟩; cases h; exact Nat.le_refl 0) ?_
  obtain ⟨h1, h3, hR0⟩ := hp
  rintro j vs h hj ⟨rfl, rfl, ha⟩
  by_cases hz : (j : Int) < l.length
  · have hz' : j < l.length := by omega
    have hr := rok_idx h3 hz'
    have ev0 := wj1 (j := j) (by omega)
    have hcl : AV.bnds 0 0 0 [pz l r.wk, pz l r.wk, I l.length, I (j + 1 : Nat)] = true := by simp [AV.bnds, AV.bnd, rm_wk_bnd]
    by_cases x1 : 60 < (l.getD j pair0).2
    · have hn : ¬ smPs l := fun h => by have := h j hz'; omega
      refine ⟨[Ans.o (Orc.b true), Ans.o (Orc.val 24 (AV.cptr (pairsA (List.drop j l))) H.nil), Ans.o (Orc.val 25 (AV.agg [I (l.getD j pair0).fst, I (l.getD j pair0).snd]) H.nil), Ans.o (Orc.b true)], fun u => of_eq ((↑j : Int) < (↑l.length : Int) ∧ aIndexAddr Try.prog (23 : Nat) (AV.sl (pairsA l) l.length r.wk) (I (↑j : Int)) = some (AV.cptr (pairsA (List.drop j l))) ∧ aLoad Try.prog (47 : Nat) (pairsA (List.drop j l)) = some (AV.agg [I (l.getD j pair0).fst, I (l.getD j pair0).snd]) ∧ (60 : Int) < (l.getD j pair0).snd ∧ (39 : Nat) = (39 : Nat) ∧ hits [Out.mk (List (List AV)) AX.ret [(2 : Nat)] (fun x => ¬smPs l) (fun x => [AV.bool false]) (fun bs => H.mk bs [] []) fun x => [], Out.mk Unit (AX.exit (0 : Nat)) [(0 : Nat)] (fun x => smPs l) (fun x => [pz l r.wk]) (fun x => H.nil) fun x => []] AX.ret [AV.sl (pairsA l) l.length r.wk, u (1 : Nat), AV.bool false, u (3 : Nat), AV.ptr 0 0, u (5 : Nat), u (6 : Nat), u (7 : Nat), u (8 : Nat), u (9 : Nat), u (10 : Nat), u (11 : Nat), u (12 : Nat), u (13 : Nat), u (14 : Nat), u (15 : Nat), u (16 : Nat), u (17 : Nat), u (18 : Nat), u (19 : Nat), AV.sl (pairsA l) l.length r.wk, I (↑l.length : Int), I (↑j : Int), AV.bool true, AV.cptr (pairsA (List.drop j l)), AV.agg [I (l.getD j pair0).fst, I (l.getD j pair0).snd], AV.ptr 0 1, I (l.getD j pair0).snd, AV.bool true, u (29 : Nat), u (30 : Nat), u (31 : Nat), u (32 : Nat), u (33 : Nat), u (34 : Nat), u (35 : Nat), u (36 : Nat), u (37 : Nat), u (38 : Nat)] (H.mk [[I (l.getD j pair0).fst, I (l.getD j pair0).snd]] [] [])) (by kernel_rfl) ?_⟩
      refine ⟨by first | with_reducible assumption | omega | assumption, ?_⟩
      refine ⟨by first | exact ix_pairs (by kernel_rfl) (by omega) (by assumption) | exact ix_pairs (by kernel_rfl) (by omega) (rok_idx (by assumption) (by omega)), ?_⟩
      refine ⟨ld_pairs (by kernel_rfl) (by kernel_rfl) (by kernel_rfl) (by omega), ?_⟩
      refine ⟨by first | with_reducible assumption | omega | assumption, ?_⟩
      refine ⟨by first | with_reducible assumption | omega | assumption, ?_⟩
      exact .inl ⟨_, hn, rfl, rfl, rfl⟩
    · have x1 : (l.getD j pair0).2 ≤ 60 := by omega
      have hk := all_succ (q := fun i => (l.getD i pair0).2 ≤ 60) ha x1
      refine ⟨[Ans.o (Orc.b true), Ans.o (Orc.val 24 (AV.cptr (pairsA (List.drop j l))) H.nil), Ans.o (Orc.val 25 (AV.agg [I (l.getD j pair0).fst, I (l.getD j pair0).snd]) H.nil), Ans.o (Orc.b false), Ans.o (Orc.val 29 (I (↑(j + (1 : Nat)) : Int)) H.nil)], fun u => of_eq ((↑j : Int) < (↑l.length : Int) ∧ aIndexAddr Try.prog (23 : Nat) (AV.sl (pairsA l) l.length r.wk) (I (↑j : Int)) = some (AV.cptr (pairsA (List.drop j l))) ∧ aLoad Try.prog (47 : Nat) (pairsA (List.drop j l)) = some (AV.agg [I (l.getD j pair0).fst, I (l.getD j pair0).snd]) ∧ (l.getD j pair0).snd ≤ (60 : Int) ∧ aBin Try.prog BinOp.add (3 : Nat) (I (↑j : Int)) (I 1) = some (I (↑(j + (1 : Nat)) : Int)) ∧ (39 : Nat) = (39 : Nat) ∧ j < l.length ∧ Keep (AV.bnds (0 : Nat) (0 : Nat) (0 : Nat) [AV.sl (pairsA l) l.length r.wk, AV.sl (pairsA l) l.length r.wk, I (↑l.length : Int), I (↑(j + (1 : Nat)) : Int)] = true ∧ (H.mk [[I (l.getD j pair0).fst, I (l.getD j pair0).snd]] [] []).clean (0 : Nat) ∧ H.mk [] [] [] = H.mk [] [] [] ∧ [AV.sl (pairsA l) l.length r.wk, AV.sl (pairsA l) l.length r.wk, I (↑l.length : Int), I (↑(j + (1 : Nat)) : Int)] = [AV.sl (pairsA l) l.length r.wk, AV.sl (pairsA l) l.length r.wk, I (↑l.length : Int), I (↑(j + (1 : Nat)) : Int)] ∧ ∀ (i : Nat), i < j + (1 : Nat) → (l.getD i pair0).snd ≤ (60 : Int))) (by kernel_rfl) ?_⟩
      refine ⟨by first | with_reducible assumption | omega | assumption, ?_⟩
      refine ⟨by first | exact ix_pairs (by kernel_rfl) (by omega) (by assumption) | exact ix_pairs (by kernel_rfl) (by omega) (rok_idx (by assumption) (by omega)), ?_⟩
      refine ⟨ld_pairs (by kernel_rfl) (by kernel_rfl) (by kernel_rfl) (by omega), ?_⟩
      refine ⟨by first | with_reducible assumption | omega | assumption, ?_⟩
      refine ⟨told_add (by with_reducible assumption), ?_⟩
      refine ⟨by first | with_reducible assumption | omega | assumption, ?_⟩
      refine ⟨by first | with_reducible assumption | omega | assumption, ?_⟩
      exact ⟨hcl, clean0 _, rfl, rfl, hk⟩
  · have hz : (l.length : Int) ≤ j := by omega
    have hk : smPs l := fun i hi => ha i (by omega)
    refine ⟨[Ans.o (Orc.b false)], fun u => of_eq ((↑l.length : Int) ≤ (↑j : Int) ∧ (39 : Nat) = (39 : Nat) ∧ hits [Out.mk (List (List AV)) AX.ret [(2 : Nat)] (fun x => ¬smPs l) (fun x => [AV.bool false]) (fun bs => H.mk bs [] []) fun x => [], Out.mk Unit (AX.exit (0 : Nat)) [(0 : Nat)] (fun x => smPs l) (fun x => [pz l r.wk]) (fun x => H.nil) fun x => []] (AX.exit (0 : Nat)) [AV.sl (pairsA l) l.length r.wk, u (1 : Nat), u (2 : Nat), u (3 : Nat), u (4 : Nat), u (5 : Nat), u (6 : Nat), u (7 : Nat), u (8 : Nat), u (9 : Nat), u (10 : Nat), u (11 : Nat), u (12 : Nat), u (13 : Nat), u (14 : Nat), u (15 : Nat), u (16 : Nat), u (17 : Nat), u (18 : Nat), u (19 : Nat), AV.sl (pairsA l) l.length r.wk, I (↑l.length : Int), I (↑j : Int), AV.bool false, u (24 : Nat), u (25 : Nat), u (26 : Nat), u (27 : Nat), u (28 : Nat), u (29 : Nat), u (30 : Nat), u (31 : Nat), u (32 : Nat), u (33 : Nat), u (34 : Nat), u (35 : Nat), u (36 : Nat), u (37 : Nat), u (38 : Nat)] (H.mk [] [] [])) (by kernel_rfl) ?_⟩
    refine ⟨by first | with_reducible assumption | omega | assumption, ?_⟩
    refine ⟨by first | with_reducible assumption | omega | assumption, ?_⟩
    exact .inr (.inl ⟨(), hk, rfl, rfl, rfl⟩)
abbrev pW (l : List Pr) (r : Room) : Prop := lim l.length ∧ rok l r ∧ inR l
theorem ok49 : FokM Try.prog none1 49 Try.f49 := ⟨mixed, by kernel_rfl, by kernel_rfl, by kernel_rfl, by kernel_rfl⟩
theorem r49 (l : List Pr) (r : Room) (hp : pW l r.wk) : Body ⟨Try.prog, Sof (P := Try.prog) [c25.to, c54.to, c78.to], Pof (P := Try.prog) [], H.nil.base, 300⟩ none1 Try.f49 [pz l r.wk] .nil (.bool (fcB l), .nil) := by
  by_cases h1 : l.length < 2
  · have h1' : (l.length : Int) < 2 := by omega
    rw [fcB_f (fun q => by have := q.1.1; omega)]
    refine body_s ([Ans.o (Orc.b true)]) ((↑l.length : Int) < (2 : Int) ∧ (AV.bool false, H.mk [] [] []) = (AV.bool false, H.mk [] [] [])) (by kernel_rfl) ?_
    refine ⟨by first | with_reducible assumption | omega | assumption, ?_⟩
    rfl
  have h1' : (2 : Int) ≤ l.length := by omega
  by_cases h2 : 5 < l.length
  · have h2' : (5 : Int) < l.length := by omega
    rw [fcB_f (fun q => by have := q.1.1; omega)]
    refine body_s ([Ans.o (Orc.b false), Ans.o (Orc.b true)]) ((2 : Int) ≤ (↑l.length : Int) ∧ (5 : Int) < (↑l.length : Int) ∧ (AV.bool false, H.mk [] [] []) = (AV.bool false, H.mk [] [] [])) (by kernel_rfl) ?_
    refine ⟨by first | with_reducible assumption | omega | assumption, ?_⟩
    refine ⟨by first | with_reducible assumption | omega | assumption, ?_⟩
    rfl
  have h2' : (l.length : Int) ≤ 5 := by omega
  have hp : pM l r.wk := ⟨by omega, hp.2⟩
  have hl := lp49 l r hp
  by_cases h3 : jOK l
  · have hc : chB (l.length : Int) l = true := chB_t ⟨⟨rfl, (jOK_iff.1 h3).1⟩, (jOK_iff.1 h3).2⟩
    have h2 : 2 ^ l.length ≤ 2 ^ 60 := Nat.pow_le_pow_right (by decide) (by omega)
    have h0 : 1 ≤ 2 ^ l.length := Nat.one_le_two_pow
    have ev0 : IntKind.i64.wrap (1 * 2 ^ min ((l.length : Int)).toNat IntKind.i64.bits) = ((2 ^ l.length : Nat) : Int) := by
      have := i_shl (a := 1) (n := l.length) (by omega) (by omega)
      rw [Nat.one_mul] at this
      exact this
    have ev1 : IntKind.i64.wrap (((2 ^ l.length : Nat) : Int) - 1) = ((2 ^ l.length - 1 : Nat) : Int) := by rw [wr _ (by omega) (by omega)]; omega
    have p78 : pQ l r.wk (2 ^ l.length - 1) := ⟨⟨hp, by omega⟩, h3, by omega⟩
    have e := mul_t (jOK_iff.1 h3).1
    have es := sS_all (nums l) l.length (Nat.le_refl l.length)
    refine body_s ([Ans.o (Orc.b false), Ans.o (Orc.b false), Ans.o (Orc.val 17 (AV.bool true) (H.mk [] [] [])), Ans.loop [(0 : Nat), (20 : Nat), (21 : Nat), (22 : Nat)] [Out.mk (List (List AV)) AX.ret [(2 : Nat)] (fun x => ¬smPs l) (fun x => [AV.bool false]) (fun bs => H.mk bs [] []) fun y => [], Out.mk Unit (AX.exit (0 : Nat)) [(0 : Nat)] (fun x => smPs l) (fun x => [pz l r.wk]) (fun x => H.nil) fun y => [Ans.o (Orc.val 33 (I (↑((2 : Nat) ^ l.length) : Int)) H.nil), Ans.o (Orc.val 34 (I (↑((2 : Nat) ^ l.length - (1 : Nat)) : Int)) H.nil), Ans.o (Orc.val 35 (I (sS (nums l) ((2 : Nat) ^ l.length - (1 : Nat)) l.length)) (H.mk [] [] [])), Ans.o (Orc.val 37 (I (↑(mul l) : Int)) (H.mk [] [] [])), Ans.fork [] []]]]) ((2 : Int) ≤ (↑l.length : Int) ∧ (↑l.length : Int) ≤ (5 : Int) ∧ aCall (Sof [c25.to, c54.to, c78.to]) (AV.fn (Fn.func (25 : Nat)) [] []) [I (↑l.length : Int), AV.sl (pairsA l) l.length r.wk] (H.mk [] [] []) = some (AV.bool true, H.mk [] [] []) ∧ LoopS (Env.mk Try.prog (Sof [c25.to, c54.to, c78.to]) (Pof (P := Try.prog) []) H.nil.base (300 : Nat)) (loopAt Try.f49 (0 : Nat)) (39 : Nat) [(0 : Nat), (20 : Nat), (21 : Nat), (22 : Nat)] [AV.sl (pairsA l) l.length r.wk, AV.sl (pairsA l) l.length r.wk, I (↑l.length : Int), I 0] (H.mk [] [] []) [Out.mk (List (List AV)) AX.ret [(2 : Nat)] (fun x => ¬smPs l) (fun x => [AV.bool false]) (fun bs => H.mk bs [] []) fun y => [], Out.mk Unit (AX.exit (0 : Nat)) [(0 : Nat)] (fun x => smPs l) (fun x => [pz l r.wk]) (fun x => H.nil) fun y => [Ans.o (Orc.val 33 (I (↑((2 : Nat) ^ l.length) : Int)) H.nil), Ans.o (Orc.val 34 (I (↑((2 : Nat) ^ l.length - (1 : Nat)) : Int)) H.nil), Ans.o (Orc.val 35 (I (sS (nums l) ((2 : Nat) ^ l.length - (1 : Nat)) l.length)) (H.mk [] [] [])), Ans.o (Orc.val 37 (I (↑(mul l) : Int)) (H.mk [] [] [])), Ans.fork [] []]] ∧ (∀ (y : List (List AV)), ¬smPs l → ∀ (u : Nat → AV), (AV.bool false, H.mk [] [] []) = (AV.bool (fcB l), H.mk [] [] [])) ∧ (∀ (y : Unit), (∀ (i : Nat), i < l.length → (l.getD i pair0).snd ≤ (60 : Int)) → ∀ (u : Nat → AV), aBin Try.prog BinOp.shl (3 : Nat) (I 1) (I (↑l.length : Int)) = some (I (↑((2 : Nat) ^ l.length) : Int)) ∧ aBin Try.prog BinOp.sub (3 : Nat) (I (↑((2 : Nat) ^ l.length) : Int)) (I 1) = some (I (↑((2 : Nat) ^ l.length - (1 : Nat)) : Int)) ∧ aCall (Sof [c25.to, c54.to, c78.to]) (AV.fn (Fn.func (78 : Nat)) [] []) [AV.sl (pairsA l) l.length r.wk, I (↑((2 : Nat) ^ l.length - (1 : Nat)) : Int)] (H.mk [] [] []) = some (I (sS (nums l) ((2 : Nat) ^ l.length - (1 : Nat)) l.length), H.mk [] [] []) ∧ aCall (Sof [c25.to, c54.to, c78.to]) (AV.fn (Fn.func (54 : Nat)) [] []) [AV.sl (pairsA l) l.length r.wk] (H.mk [] [] []) = some (I (↑(mul l) : Int), H.mk [] [] []) ∧ (sS (nums l) ((2 : Nat) ^ l.length - (1 : Nat)) l.length = (↑(mul l) : Int) → (AV.bool true, H.mk [] [] []) = (AV.bool (fcB l), H.mk [] [] [])) ∧ (sS (nums l) ((2 : Nat) ^ l.length - (1 : Nat)) l.length ≠ (↑(mul l) : Int) → (AV.bool false, H.mk [] [] []) = (AV.bool (fcB l), H.mk [] [] []))) ∧ True) (by kernel_rfl) ?_
    refine ⟨by first | with_reducible assumption | omega | assumption, ?_⟩
    refine ⟨by first | with_reducible assumption | omega | assumption, ?_⟩
    refine ⟨acall_b (acall_hit (c := c25.to) ((l.length : Int), l, r.wk) _ rfl hp) hc, ?_⟩
    refine ⟨hl, ?_⟩
    refine And.intro ?_ ?_
    · skip
      intro y
      intro w1
      intro u
      first | (rw [fcB_t ⟨⟨⟨by omega, by omega⟩, by assumption⟩, h3⟩, ← es, ← e, decide_eq_true (by assumption)]) | (rw [fcB_t ⟨⟨⟨by omega, by omega⟩, by assumption⟩, h3⟩, ← es, ← e, decide_eq_false (by assumption)]) | (rw [fcB_f (fun q => absurd q.1.2 (by assumption))])
    · skip
      refine And.intro ?_ ?_
      · skip
        intro y
        intro w1
        intro u
        refine ⟨by first | exact told_shl (by first | exact Int.natCast_nonneg _ | omega) (by with_reducible assumption) | exact told_shl (by omega) rfl, ?_⟩
        refine ⟨told_sub (by with_reducible assumption), ?_⟩
        refine ⟨acall_hit (c := c78.to) (l, r.wk, 2 ^ l.length - 1) _ rfl p78, ?_⟩
        refine ⟨acall_hit (c := c54.to) (l, r.wk) _ rfl hp, ?_⟩
        refine And.intro ?_ ?_
        · skip
          intro w3
          first | (rw [fcB_t ⟨⟨⟨by omega, by omega⟩, by assumption⟩, h3⟩, ← es, ← e, decide_eq_true (by assumption)]) | (rw [fcB_t ⟨⟨⟨by omega, by omega⟩, by assumption⟩, h3⟩, ← es, ← e, decide_eq_false (by assumption)]) | (rw [fcB_f (fun q => absurd q.1.2 (by assumption))])
        · skip
          intro w3
          first | (rw [fcB_t ⟨⟨⟨by omega, by omega⟩, by assumption⟩, h3⟩, ← es, ← e, decide_eq_true (by assumption)]) | (rw [fcB_t ⟨⟨⟨by omega, by omega⟩, by assumption⟩, h3⟩, ← es, ← e, decide_eq_false (by assumption)]) | (rw [fcB_f (fun q => absurd q.1.2 (by assumption))])
      · skip
        trivial
  · have hc : chB (l.length : Int) l = false := chB_f (fun q => h3 (jOK_iff.2 ⟨q.1.2, q.2⟩))
    rw [fcB_f (fun q => h3 q.2)]
    refine body_s ([Ans.o (Orc.b false), Ans.o (Orc.b false), Ans.o (Orc.val 17 (AV.bool false) (H.mk [] [] []))]) ((2 : Int) ≤ (↑l.length : Int) ∧ (↑l.length : Int) ≤ (5 : Int) ∧ aCall (Sof [c25.to, c54.to, c78.to]) (AV.fn (Fn.func (25 : Nat)) [] []) [I (↑l.length : Int), AV.sl (pairsA l) l.length r.wk] (H.mk [] [] []) = some (AV.bool false, H.mk [] [] []) ∧ (AV.bool false, H.mk [] [] []) = (AV.bool false, H.mk [] [] [])) (by kernel_rfl) ?_
    refine ⟨by first | with_reducible assumption | omega | assumption, ?_⟩
    refine ⟨by first | with_reducible assumption | omega | assumption, ?_⟩
    refine ⟨acall_b (acall_hit (c := c25.to) ((l.length : Int), l, r.wk) _ rfl hp) hc, ?_⟩
    rfl
noncomputable def c49 : PCtr Try.prog := sctr ok49 (X := List Pr × Room) (fun x => [pz x.1 x.2]) (fun x => pW x.1 x.2) (fun x => .bool (fcB x.1)) (by intro x y e _ _; simp [Int.natCast_inj] at e; simp [e]) (fun x => by simp [AV.bnds, AV.bnd, AV.wk, rm_wk_bnd]) (fun x => by first | rfl | (simp [AV.bnd, rm_wk_bnd]; done)  | (simp [AV.bnd, AV.bnds, rm_wk_bnd]; done) | simp [AV.bnd, AV.bnds, Room.bnd, rm_wk_bnd]) (fun x hx => ⟨_, _, _, .pure c25 (.pure c54 (.pure c78 (.nil))), r49 (x.1) (x.2) (by first | exact hx | (simp only [pM, pW, rok_wk] at hx ⊢; exact hx))⟩)
end Go.Proofs.Bts

