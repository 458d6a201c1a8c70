/- Layer 9: chances and forecasts, by the reference. -/
import Derived.Test.YthodoagjojmliaaBtI
import Derived.KernelRfl
set_option linter.unusedSimpArgs false
set_option linter.unusedVariables false
set_option linter.unnecessarySimpa false
set_option maxHeartbeats 4000000
set_option maxRecDepth 100000
namespace Go.Proofs.Bts
open Go Go.VM
open Go.Proofs.Sur (i_and i_shl i_shr bit_01)

theorem mul_t {l : List Pr} (h : mOK l) : mul l = dn l l.length := if_pos h
theorem mul_f {l : List Pr} (h : ¬ mOK l) : mul l = 0 := if_neg h
theorem ok54 : FokM Try.prog none1 54 Try.f54 := ⟨mixed, by kernel_rfl, by kernel_rfl, by kernel_rfl, by kernel_rfl⟩
theorem r54 (l : List Pr) (r : Room) (hp : pM l r.wk) : Body ⟨Try.prog, Sof (P := Try.prog) [c94.to], Pof (P := Try.prog) [], H.nil.base, 300⟩ none1 Try.f54 [pz l r.wk] .nil (I (mul l : Nat), .nil) := by
  have hl := lp54 l r hp
  refine body_s ([Ans.loop [(3 : Nat), (8 : Nat), (9 : Nat), (10 : Nat)] [Out.mk (List (List AV)) AX.ret [(2 : Nat)] (fun x => ¬mOK l) (fun x => [I 0]) (fun bs => H.mk bs [] []) fun y => [], Out.mk Unit (AX.exit (0 : Nat)) [(3 : Nat)] (fun x => mOK l) (fun x => [I (↑(dn l l.length) : Int)]) (fun x => H.nil) fun y => []]]) (LoopS (Env.mk Try.prog (Sof [c94.to]) (Pof (P := Try.prog) []) H.nil.base (300 : Nat)) (loopAt Try.f54 (0 : Nat)) (60 : Nat) [(3 : Nat), (8 : Nat), (9 : Nat), (10 : Nat)] [I 1, AV.sl (pairsA l) l.length r.wk, I (↑l.length : Int), I 0] (H.mk [] [] []) [Out.mk (List (List AV)) AX.ret [(2 : Nat)] (fun x => ¬mOK l) (fun x => [I 0]) (fun bs => H.mk bs [] []) fun y => [], Out.mk Unit (AX.exit (0 : Nat)) [(3 : Nat)] (fun x => mOK l) (fun x => [I (↑(dn l l.length) : Int)]) (fun x => H.nil) fun y => []] ∧ (∀ (y : List (List AV)), ¬mOK l → ∀ (u : Nat → AV), (I 0, H.mk [] [] []) = (I (↑(mul l) : Int), H.mk [] [] [])) ∧ (∀ (y : Unit), (∀ (i : Nat), i < l.length → ((1 : Int) ≤ (l.getD i pair0).snd ∧ (l.getD i pair0).snd ≤ (10000000000 : Int)) ∧ (0 : Int) ≤ (l.getD i pair0).fst ∧ gcI (l.getD i pair0).fst (l.getD i pair0).snd = (1 : Int)) ∧ dn l l.length ≤ (10000000000 : Nat) → ∀ (u : Nat → AV), (I (↑(dn l l.length) : Int), H.mk [] [] []) = (I (↑(mul l) : Int), H.mk [] [] [])) ∧ True) (by kernel_rfl) ?_
  refine ⟨hl, ?_⟩
  refine And.intro ?_ ?_
  · skip
    intro y
    intro w1
    intro u
    first | (rw [mul_t (by assumption)]) | (rw [mul_f (by assumption)]; rfl)
  · skip
    refine And.intro ?_ ?_
    · skip
      intro y
      intro w1
      intro u
      first | (rw [mul_t (by assumption)]) | (rw [mul_f (by assumption)]; rfl)
    · skip
      trivial
noncomputable def c54 : PCtr Try.prog := sctr ok54 (X := List Pr × Room) (fun x => [pz x.1 x.2]) (fun x => pM x.1 x.2) (fun x => I (mul x.1 : Nat)) (by intro x y e _ _; simp [Int.natCast_inj] at e; simp [e]) (fun x => by simp [AV.bnds, AV.bnd, AV.wk, rm_wk_bnd]) (fun x => by first | rfl | (simp [AV.bnd, rm_wk_bnd]; done)  | (simp [AV.bnd, AV.bnds, rm_wk_bnd]; done) | simp [AV.bnd, AV.bnds, Room.bnd, rm_wk_bnd]) (fun x hx => ⟨_, _, _, .pure c94 (.nil), r54 (x.1) (x.2) (by first | exact hx | (simp only [pM, rok_wk] at hx ⊢; exact hx))⟩)
abbrev leP (l : List Pr) : Prop := ∀ i, i < l.length → (l.getD i pair0).1 ≤ (l.getD i pair0).2
abbrev chO (n : Int) (l : List Pr) : Prop := ((l.length : Int) = n ∧ mOK l) ∧ leP l
open Classical in
noncomputable def chB (n : Int) (l : List Pr) : Bool := decide (chO n l)
theorem chB_t {n : Int} {l : List Pr} (h : chO n l) : chB n l = true := by simp only [chB, decide_eq_true_eq]; exact h
theorem chB_f {n : Int} {l : List Pr} (h : ¬ chO n l) : chB n l = false := by simp only [chB, decide_eq_false_iff_not]; exact h
abbrev o25 (l : List Pr) : List Out :=
  [.mk (List (List AV)) .ret [4] (fun _ => ¬ leP l) (fun _ => [.bool false]) (fun bs => ⟨bs, [], []⟩) (fun _ => []),
   .mk Unit (.exit 0) [] (fun _ => leP l) (fun _ => []) (fun _ => .nil) (fun _ => [])]
theorem simp25 : allSimpleM none1 (loopAt Try.f25 0) = true := by kernel_rfl
theorem lp25 (l : List Pr) (r : Room) (hp : pM l r.wk) :
    LoopS (En6 [c54.to]) (loopAt Try.f25 0) 28 [16, 17, 18] [pz l r.wk, I l.length, I 0] .nil (o25 l) := by
  have hR : Rests (En6 [c54.to]) none1 := rests mixed (.pure _ .nil)
  refine loop_s hR simp25 (some 0) (by intro nb h; cases h; exact ⟨Nat.zero_le _, Nat.le_refl 0⟩) (fun j vs h => h = .nil ∧ vs = [pz l r.wk, I l.length, I (j : Nat)] ∧ ∀ i, i < j → (l.getD i pair0).1 ≤ (l.getD i pair0).2) l.length ⟨rfl, rfl, fun i hi => absurd hi (by omega)⟩ (by rintro nb h j vs h' ⟨rfl, _⟩; cases h; exact Nat.le_refl 0) ?_
  obtain ⟨h1, h3, hR0⟩ := hp
  rintro j vs h hj ⟨rfl, rfl, ha⟩
  by_cases hz : (j : Int) < l.length
  · have hz' : j < l.length := by omega
    have hr := rok_idx h3 hz'
    have ev0 := wj1 (j := j) (by omega)
    have hcl : AV.bnds 0 0 0 [pz l r.wk, I l.length, I (j + 1 : Nat)] = true := by simp [AV.bnds, AV.bnd, rm_wk_bnd]
    by_cases x1 : (l.getD j pair0).2 < (l.getD j pair0).1
    · have hn : ¬ leP l := fun h => by have := h j hz'; omega
      refine ⟨[Ans.o (Orc.b true), Ans.o (Orc.val 20 (AV.cptr (pairsA (List.drop j l))) H.nil), Ans.o (Orc.val 21 (AV.agg [I (l.getD j pair0).fst, I (l.getD j pair0).snd]) H.nil), Ans.o (Orc.b true)], fun u => of_eq ((↑j : Int) < (↑l.length : Int) ∧ aIndexAddr Try.prog (23 : Nat) (AV.sl (pairsA l) l.length r.wk) (I (↑j : Int)) = some (AV.cptr (pairsA (List.drop j l))) ∧ aLoad Try.prog (47 : Nat) (pairsA (List.drop j l)) = some (AV.agg [I (l.getD j pair0).fst, I (l.getD j pair0).snd]) ∧ (l.getD j pair0).snd < (l.getD j pair0).fst ∧ (28 : Nat) = (28 : Nat) ∧ hits [Out.mk (List (List AV)) AX.ret [(4 : Nat)] (fun x => ¬leP l) (fun x => [AV.bool false]) (fun bs => H.mk bs [] []) fun x => [], Out.mk Unit (AX.exit (0 : Nat)) [] (fun x => leP l) (fun x => []) (fun x => H.nil) fun x => []] AX.ret [u (0 : Nat), u (1 : Nat), u (2 : Nat), u (3 : Nat), AV.bool false, u (5 : Nat), AV.ptr 0 0, u (7 : Nat), u (8 : Nat), u (9 : Nat), u (10 : Nat), u (11 : Nat), u (12 : Nat), u (13 : Nat), u (14 : Nat), u (15 : Nat), AV.sl (pairsA l) l.length r.wk, I (↑l.length : Int), I (↑j : Int), AV.bool true, AV.cptr (pairsA (List.drop j l)), AV.agg [I (l.getD j pair0).fst, I (l.getD j pair0).snd], AV.ptr 0 0, I (l.getD j pair0).fst, AV.ptr 0 1, I (l.getD j pair0).snd, AV.bool true, u (27 : Nat)] (H.mk [[I (l.getD j pair0).fst, I (l.getD j pair0).snd]] [] [])) (by kernel_rfl) ?_⟩
      refine ⟨by first | with_reducible assumption | omega | assumption, ?_⟩
      refine ⟨by first | exact ix_pairs (by kernel_rfl) (by omega) (by assumption) | exact ix_pairs (by kernel_rfl) (by omega) (rok_idx (by assumption) (by omega)), ?_⟩
      refine ⟨ld_pairs (by kernel_rfl) (by kernel_rfl) (by kernel_rfl) (by omega), ?_⟩
      refine ⟨by first | with_reducible assumption | omega | assumption, ?_⟩
      refine ⟨by first | with_reducible assumption | omega | assumption, ?_⟩
      exact .inl ⟨_, hn, rfl, rfl, rfl⟩
    · have x1 : (l.getD j pair0).1 ≤ (l.getD j pair0).2 := by omega
      have hk := all_succ (q := fun i => (l.getD i pair0).1 ≤ (l.getD i pair0).2) ha x1
      refine ⟨[Ans.o (Orc.b true), Ans.o (Orc.val 20 (AV.cptr (pairsA (List.drop j l))) H.nil), Ans.o (Orc.val 21 (AV.agg [I (l.getD j pair0).fst, I (l.getD j pair0).snd]) H.nil), Ans.o (Orc.b false), Ans.o (Orc.val 27 (I (↑(j + (1 : Nat)) : Int)) H.nil)], fun u => of_eq ((↑j : Int) < (↑l.length : Int) ∧ aIndexAddr Try.prog (23 : Nat) (AV.sl (pairsA l) l.length r.wk) (I (↑j : Int)) = some (AV.cptr (pairsA (List.drop j l))) ∧ aLoad Try.prog (47 : Nat) (pairsA (List.drop j l)) = some (AV.agg [I (l.getD j pair0).fst, I (l.getD j pair0).snd]) ∧ (l.getD j pair0).fst ≤ (l.getD j pair0).snd ∧ aBin Try.prog BinOp.add (3 : Nat) (I (↑j : Int)) (I 1) = some (I (↑(j + (1 : Nat)) : Int)) ∧ (28 : Nat) = (28 : Nat) ∧ j < l.length ∧ Keep (AV.bnds (0 : Nat) (0 : Nat) (0 : Nat) [AV.sl (pairsA l) l.length r.wk, I (↑l.length : Int), I (↑(j + (1 : Nat)) : Int)] = true ∧ (H.mk [[I (l.getD j pair0).fst, I (l.getD j pair0).snd]] [] []).clean (0 : Nat) ∧ H.mk [] [] [] = H.mk [] [] [] ∧ [AV.sl (pairsA l) l.length r.wk, I (↑l.length : Int), I (↑(j + (1 : Nat)) : Int)] = [AV.sl (pairsA l) l.length r.wk, I (↑l.length : Int), I (↑(j + (1 : Nat)) : Int)] ∧ ∀ (i : Nat), i < j + (1 : Nat) → (l.getD i pair0).fst ≤ (l.getD i pair0).snd)) (by kernel_rfl) ?_⟩
      refine ⟨by first | with_reducible assumption | omega | assumption, ?_⟩
      refine ⟨by first | exact ix_pairs (by kernel_rfl) (by omega) (by assumption) | exact ix_pairs (by kernel_rfl) (by omega) (rok_idx (by assumption) (by omega)), ?_⟩
      refine ⟨ld_pairs (by kernel_rfl) (by kernel_rfl) (by kernel_rfl) (by omega), ?_⟩
      refine ⟨by first | with_reducible assumption | omega | assumption, ?_⟩
      refine ⟨told_add (by with_reducible assumption), ?_⟩
      refine ⟨by first | with_reducible assumption | omega | assumption, ?_⟩
      refine ⟨by first | with_reducible assumption | omega | assumption, ?_⟩
      exact ⟨hcl, clean0 _, rfl, rfl, hk⟩
  · have hz : (l.length : Int) ≤ j := by omega
    have hk : leP l := fun i hi => ha i (by omega)
    refine ⟨[Ans.o (Orc.b false)], fun u => of_eq ((↑l.length : Int) ≤ (↑j : Int) ∧ (28 : Nat) = (28 : Nat) ∧ hits [Out.mk (List (List AV)) AX.ret [(4 : Nat)] (fun x => ¬leP l) (fun x => [AV.bool false]) (fun bs => H.mk bs [] []) fun x => [], Out.mk Unit (AX.exit (0 : Nat)) [] (fun x => leP l) (fun x => []) (fun x => H.nil) fun x => []] (AX.exit (0 : Nat)) [u (0 : Nat), u (1 : Nat), u (2 : Nat), u (3 : Nat), u (4 : Nat), u (5 : Nat), u (6 : Nat), u (7 : Nat), u (8 : Nat), u (9 : Nat), u (10 : Nat), u (11 : Nat), u (12 : Nat), u (13 : Nat), u (14 : Nat), u (15 : Nat), AV.sl (pairsA l) l.length r.wk, I (↑l.length : Int), I (↑j : Int), AV.bool false, u (20 : Nat), u (21 : Nat), u (22 : Nat), u (23 : Nat), u (24 : Nat), u (25 : Nat), u (26 : Nat), u (27 : Nat)] (H.mk [] [] [])) (by kernel_rfl) ?_⟩
    refine ⟨by first | with_reducible assumption | omega | assumption, ?_⟩
    refine ⟨by first | with_reducible assumption | omega | assumption, ?_⟩
    exact .inr (.inl ⟨(), hk, rfl, rfl, rfl⟩)
theorem ok25 : FokM Try.prog none1 25 Try.f25 := ⟨mixed, by kernel_rfl, by kernel_rfl, by kernel_rfl, by kernel_rfl⟩
theorem r25 (n : Int) (l : List Pr) (r : Room) (hp : pM l r.wk) : Body ⟨Try.prog, Sof (P := Try.prog) [c54.to], Pof (P := Try.prog) [], H.nil.base, 300⟩ none1 Try.f25 [I n, pz l r.wk] .nil (.bool (chB n l), .nil) := by
  have hl := lp25 l r hp
  by_cases h1 : (l.length : Int) = n
  · by_cases h2 : mOK l
    · have e := mul_t h2
      have h0 : ((mul l : Nat) : Int) ≠ 0 := by have := dn_pos' (l := l) (j := l.length) h2.1; omega
      refine body_s ([Ans.o (Orc.b false), Ans.o (Orc.val 13 (I (↑(mul l) : Int)) (H.mk [] [] [])), Ans.o (Orc.b false), Ans.loop [(16 : Nat), (17 : Nat), (18 : Nat)] [Out.mk (List (List AV)) AX.ret [(4 : Nat)] (fun x => ¬leP l) (fun x => [AV.bool false]) (fun bs => H.mk bs [] []) fun y => [], Out.mk Unit (AX.exit (0 : Nat)) [] (fun x => leP l) (fun x => []) (fun x => H.nil) fun y => []]]) ((↑l.length : Int) = n ∧ aCall (Sof [c54.to]) (AV.fn (Fn.func (54 : Nat)) [] []) [AV.sl (pairsA l) l.length r.wk] (H.mk [] [] []) = some (I (↑(mul l) : Int), H.mk [] [] []) ∧ (↑(mul l) : Int) ≠ (0 : Int) ∧ LoopS (Env.mk Try.prog (Sof [c54.to]) (Pof (P := Try.prog) []) H.nil.base (300 : Nat)) (loopAt Try.f25 (0 : Nat)) (28 : Nat) [(16 : Nat), (17 : Nat), (18 : Nat)] [AV.sl (pairsA l) l.length r.wk, I (↑l.length : Int), I 0] (H.mk [] [] []) [Out.mk (List (List AV)) AX.ret [(4 : Nat)] (fun x => ¬leP l) (fun x => [AV.bool false]) (fun bs => H.mk bs [] []) fun y => [], Out.mk Unit (AX.exit (0 : Nat)) [] (fun x => leP l) (fun x => []) (fun x => H.nil) fun y => []] ∧ (∀ (y : List (List AV)), ¬leP l → ∀ (u : Nat → AV), (AV.bool false, H.mk [] [] []) = (AV.bool (chB n l), H.mk [] [] [])) ∧ (∀ (y : Unit), (∀ (i : Nat), i < l.length → (l.getD i pair0).fst ≤ (l.getD i pair0).snd) → ∀ (u : Nat → AV), (AV.bool true, H.mk [] [] []) = (AV.bool (chB n l), H.mk [] [] [])) ∧ True) (by kernel_rfl) ?_
      refine ⟨by first | with_reducible assumption | omega | assumption, ?_⟩
      refine ⟨acall_hit (c := c54.to) (l, r.wk) _ rfl hp, ?_⟩
      refine ⟨by first | with_reducible assumption | omega | assumption, ?_⟩
      refine ⟨hl, ?_⟩
      refine And.intro ?_ ?_
      · skip
        intro y
        intro w1
        intro u
        first | rw [chB_t ⟨⟨h1, h2⟩, by assumption⟩] | rw [chB_f (fun q => absurd q.2 (by assumption))]
      · skip
        refine And.intro ?_ ?_
        · skip
          intro y
          intro w1
          intro u
          first | rw [chB_t ⟨⟨h1, h2⟩, by assumption⟩] | rw [chB_f (fun q => absurd q.2 (by assumption))]
        · skip
          trivial
    · have e := mul_f h2
      have h0 : ((mul l : Nat) : Int) = 0 := by omega
      rw [chB_f (fun q => h2 q.1.2)]
      refine body_s ([Ans.o (Orc.b false), Ans.o (Orc.val 13 (I (↑(mul l) : Int)) (H.mk [] [] [])), Ans.o (Orc.b true)]) ((↑l.length : Int) = n ∧ aCall (Sof [c54.to]) (AV.fn (Fn.func (54 : Nat)) [] []) [AV.sl (pairsA l) l.length r.wk] (H.mk [] [] []) = some (I (↑(mul l) : Int), H.mk [] [] []) ∧ (↑(mul l) : Int) = (0 : Int) ∧ (AV.bool false, H.mk [] [] []) = (AV.bool false, H.mk [] [] [])) (by kernel_rfl) ?_
      refine ⟨by first | with_reducible assumption | omega | assumption, ?_⟩
      refine ⟨acall_hit (c := c54.to) (l, r.wk) _ rfl hp, ?_⟩
      refine ⟨by first | with_reducible assumption | omega | assumption, ?_⟩
      rfl
  · have h1 : (l.length : Int) ≠ n := h1
    rw [chB_f (fun q => h1 q.1.1)]
    refine body_s ([Ans.o (Orc.b true)]) ((↑l.length : Int) ≠ n ∧ (AV.bool false, H.mk [] [] []) = (AV.bool false, H.mk [] [] [])) (by kernel_rfl) ?_
    refine ⟨by first | with_reducible assumption | omega | assumption, ?_⟩
    rfl
noncomputable def c25 : PCtr Try.prog := sctr ok25 (X := Int × List Pr × Room) (fun x => [I x.1, pz x.2.1 x.2.2]) (fun x => pM x.2.1 x.2.2) (fun x => .bool (chB x.1 x.2.1)) (by intro x y e _ _; simp [Int.natCast_inj] at e; simp [e]) (fun x => by simp [AV.bnds, AV.bnd, AV.wk, rm_wk_bnd]) (fun x => by first | rfl | (simp [AV.bnd, rm_wk_bnd]; done)  | (simp [AV.bnd, AV.bnds, rm_wk_bnd]; done) | simp [AV.bnd, AV.bnds, Room.bnd, rm_wk_bnd]) (fun x hx => ⟨_, _, _, .pure c54 (.nil), r25 (x.1) (x.2.1) (x.2.2) (by first | exact hx | (simp only [pM, rok_wk] at hx ⊢; exact hx))⟩)
theorem jOK_iff {l : List Pr} : jOK l ↔ mOK l ∧ leP l := by
  constructor
  · rintro ⟨h1, h2⟩
    refine ⟨⟨fun i hi => ?_, h2⟩, fun i hi => (h1 i hi).2.1.2⟩
    obtain ⟨q1, q2, q3⟩ := h1 i hi
    have hd := dn_dvd l hi
    have := Nat.le_of_dvd (dn_pos h1 (Nat.le_refl _)) hd
    exact ⟨⟨q1, by omega⟩, q2.1, q3⟩
  · rintro ⟨⟨h1, h2⟩, h3⟩
    exact ⟨fun i hi => ⟨(h1 i hi).1.1, ⟨(h1 i hi).2.1, h3 i hi⟩, (h1 i hi).2.2⟩, h2⟩
abbrev o78 (l : List Pr) (s : Nat) : List Out := [.mk Unit (.exit 0) [6] (fun _ => True) (fun _ => [I (sS (nums l) s l.length)]) (fun _ => .nil) (fun _ => [])]
theorem simp78 : allSimpleM none1 (loopAt Try.f78 0) = true := by kernel_rfl
abbrev pQ (l : List Pr) (r : Room) (s : Nat) : Prop := (pM l r ∧ l.length ≤ 60) ∧ jOK l ∧ s < 4611686018427387904
theorem nums_b {l : List Pr} (h : jOK l) : bnI (nums l) (dn l l.length : Nat) := fun i hi => by
  rw [nmL_len] at hi
  have e : ia (nums l) i = nm l i := nmL_get l hi
  rw [e]; exact (nm_ok h.1 hi).2
theorem lp78 (l : List Pr) (r : Room) (s : Nat) (hp : pQ l r.wk s) :
    LoopS (En6 [c54.to]) (loopAt Try.f78 0) 34 [1, 5, 6, 11, 12, 13] [I s, I (dn l l.length : Nat), I 0, pz l r.wk, I l.length, I 0] .nil (o78 l s) := by
  have hR : Rests (En6 [c54.to]) none1 := rests mixed (.pure _ .nil)
  refine loop_s hR simp78 (some 0) (by intro nb h; cases h; exact ⟨Nat.zero_le _, Nat.le_refl 0⟩) (fun j vs h => h = .nil ∧ vs = [I s, I (dn l l.length : Nat), I (sS (nums l) s j), pz l r.wk, I l.length, I (j : Nat)]) l.length ⟨rfl, rfl⟩ (by rintro nb h j vs h' ⟨rfl, _⟩; cases h; exact Nat.le_refl 0) ?_
  obtain ⟨⟨⟨h1, h3, hR0⟩, h6⟩, hJ, hs⟩ := hp
  rintro j vs h hj ⟨rfl, rfl⟩
  by_cases hz : (j : Int) < l.length
  · have hz' : j < l.length := by omega
    have hr := rok_idx h3 hz'
    have ev0 := wj1 (j := j) (by omega)
    have ev1 : Int.fdiv (s : Int) (2 ^ min ((j : Int)).toNat IntKind.i64.bits) = ((s >>> j : Nat) : Int) := i_shr (by omega)
    have hle : s >>> j ≤ s := Nat.shiftRight_le s j
    have ev2 : IntKind.i64.wrap ((BitVec.ofInt IntKind.i64.bits ((s >>> j : Nat) : Int) &&& BitVec.ofInt IntKind.i64.bits 1).toNat : Int) = ((s.testBit j).toNat : Int) := by
      have := i_and (a := s >>> j) (b := 1) (by omega) (by decide)
      rw [bit_01] at this; exact this
    have hcl : ∀ v w : Int, AV.bnds 0 0 0 [I s, I v, I w, pz l r.wk, I l.length, I (j + 1 : Nat)] = true := fun v w => by simp [AV.bnds, AV.bnd, rm_wk_bnd]
    have hb := nums_b hJ
    have hD := hJ.2
    have h4 := sS_b hb s (j := j) (by rw [nmL_len]; omega)
    have h5 := sS_b hb s (j := j + 1) (by rw [nmL_len]; omega)
    have m1 : (j : Int) * (dn l l.length : Nat) ≤ 60 * 10000000000 := Int.mul_le_mul (by omega) (by omega) (by omega) (by decide)
    have m2 : ((j + 1 : Nat) : Int) * (dn l l.length : Nat) ≤ 60 * 10000000000 := Int.mul_le_mul (by omega) (by omega) (by omega) (by decide)
    have e1 : sS (nums l) s (j + 1) = sS (nums l) s j + ia (nums l) j * ((s.testBit j).toNat : Int) := rfl
    have e2 : ia (nums l) j = nm l j := nmL_get l hz'
    obtain ⟨⟨n1, n2, n3⟩, n4, n5⟩ := nm_ok hJ.1 hz'
    have hd0 : (l.getD j pair0).2 ≠ 0 := by have := (hJ.1 j hz').1; omega
    have ev4 : IntKind.i64.wrap (((dn l l.length : Nat) : Int).tdiv (l.getD j pair0).2) = ((dn l l.length : Nat) : Int).tdiv (l.getD j pair0).2 := wr _ (by omega) (by omega)
    have ev5 : IntKind.i64.wrap (((dn l l.length : Nat) : Int).tdiv (l.getD j pair0).2 * (l.getD j pair0).1) = nm l j := wr _ (by show _ ≤ nm l j; omega) (by show nm l j ≤ _; omega)
    rcases Bool.eq_false_or_eq_true (s.testBit j) with hbt | hbt
    · have ev2' : ((s.testBit j).toNat : Int) = 1 := by rw [hbt]; rfl
      rw [ev2'] at ev2
      have ev6 : IntKind.i64.wrap (sS (nums l) s j + nm l j) = sS (nums l) s (j + 1) := by
        rw [e1, ev2', e2, Int.mul_one]; rw [e1, ev2', e2, Int.mul_one] at h5; exact wr _ (by omega) (by omega)
      refine ⟨[Ans.o (Orc.b true), Ans.o (Orc.val 16 (AV.cptr (pairsA (List.drop j l))) H.nil), Ans.o (Orc.val 17 (AV.agg [I (l.getD j pair0).fst, I (l.getD j pair0).snd]) H.nil), Ans.o (Orc.val 20 (I (↑(s >>> j) : Int)) H.nil), Ans.o (Orc.val 21 (I 1) H.nil), Ans.o Orc.dflt, Ans.o (Orc.val 30 (I (nm l j)) H.nil), Ans.o (Orc.val 31 (I (sS (nums l) s (j + (1 : Nat)))) H.nil), Ans.o (Orc.val 32 (I (↑(j + (1 : Nat)) : Int)) H.nil)], fun u => of_eq ((↑j : Int) < (↑l.length : Int) ∧ aIndexAddr Try.prog (23 : Nat) (AV.sl (pairsA l) l.length r.wk) (I (↑j : Int)) = some (AV.cptr (pairsA (List.drop j l))) ∧ aLoad Try.prog (47 : Nat) (pairsA (List.drop j l)) = some (AV.agg [I (l.getD j pair0).fst, I (l.getD j pair0).snd]) ∧ aBin Try.prog BinOp.shr (3 : Nat) (I (↑s : Int)) (I (↑j : Int)) = some (I (↑(s >>> j) : Int)) ∧ aBin Try.prog BinOp.and (3 : Nat) (I (↑(s >>> j) : Int)) (I 1) = some (I 1) ∧ (l.getD j pair0).snd ≠ (0 : Int) ∧ IntKind.i64.wrap ((↑(dn l l.length) : Int).tdiv (l.getD j pair0).snd) = (↑(dn l l.length) : Int).tdiv (l.getD j pair0).snd ∧ aBin Try.prog BinOp.mul (3 : Nat) (I ((↑(dn l l.length) : Int).tdiv (l.getD j pair0).snd)) (I (l.getD j pair0).fst) = some (I (nm l j)) ∧ aBin Try.prog BinOp.add (3 : Nat) (I (sS (nums l) s j)) (I (nm l j)) = some (I (sS (nums l) s (j + (1 : Nat)))) ∧ aBin Try.prog BinOp.add (3 : Nat) (I (↑j : Int)) (I 1) = some (I (↑(j + (1 : Nat)) : Int)) ∧ (34 : Nat) = (34 : Nat) ∧ j < l.length ∧ Keep (AV.bnds (0 : Nat) (0 : Nat) (0 : Nat) [I (↑s : Int), I (↑(dn l l.length) : Int), I (sS (nums l) s (j + (1 : Nat))), AV.sl (pairsA l) l.length r.wk, I (↑l.length : Int), I (↑(j + (1 : Nat)) : Int)] = true ∧ (H.mk [[I (l.getD j pair0).fst, I (l.getD j pair0).snd]] [] []).clean (0 : Nat) ∧ H.mk [] [] [] = H.mk [] [] [] ∧ [I (↑s : Int), I (↑(dn l l.length) : Int), I (sS (nums l) s (j + (1 : Nat))), AV.sl (pairsA l) l.length r.wk, I (↑l.length : Int), I (↑(j + (1 : Nat)) : Int)] = [I (↑s : Int), I (↑(dn l l.length) : Int), I (sS (nums l) s (j + (1 : Nat))), AV.sl (pairsA l) l.length r.wk, I (↑l.length : Int), I (↑(j + (1 : Nat)) : Int)])) (by kernel_rfl) ?_⟩
      refine ⟨by first | with_reducible assumption | omega | assumption, ?_⟩
      refine ⟨by first | exact ix_pairs (by kernel_rfl) (by omega) (by assumption) | exact ix_pairs (by kernel_rfl) (by omega) (rok_idx (by assumption) (by omega)), ?_⟩
      refine ⟨ld_pairs (by kernel_rfl) (by kernel_rfl) (by kernel_rfl) (by omega), ?_⟩
      refine ⟨by first | exact told_shr (by first | exact Int.natCast_nonneg _ | omega) (by with_reducible assumption) | exact told_shr (by omega) rfl, ?_⟩
      refine ⟨told_and (by with_reducible assumption), ?_⟩
      refine ⟨by first | with_reducible assumption | omega | assumption, ?_⟩
      refine ⟨wr _ (by omega) (by omega), ?_⟩
      refine ⟨told_mul (by with_reducible assumption), ?_⟩
      refine ⟨told_add (by with_reducible assumption), ?_⟩
      refine ⟨told_add (by with_reducible assumption), ?_⟩
      refine ⟨by first | with_reducible assumption | omega | assumption, ?_⟩
      refine ⟨by first | with_reducible assumption | omega | assumption, ?_⟩
      exact ⟨hcl _ _, clean0 _, rfl, rfl⟩
    · have ev2' : ((s.testBit j).toNat : Int) = 0 := by rw [hbt]; rfl
      rw [ev2'] at ev2
      have e3 : sS (nums l) s (j + 1) = sS (nums l) s j := by rw [e1, ev2']; simp
      refine ⟨[Ans.o (Orc.b true), Ans.o (Orc.val 16 (AV.cptr (pairsA (List.drop j l))) H.nil), Ans.o (Orc.val 17 (AV.agg [I (l.getD j pair0).fst, I (l.getD j pair0).snd]) H.nil), Ans.o (Orc.val 20 (I (↑(s >>> j) : Int)) H.nil), Ans.o (Orc.val 21 (I 0) H.nil), Ans.o Orc.dflt, Ans.o (Orc.val 32 (I (↑(j + (1 : Nat)) : Int)) H.nil)], fun u => of_eq ((↑j : Int) < (↑l.length : Int) ∧ aIndexAddr Try.prog (23 : Nat) (AV.sl (pairsA l) l.length r.wk) (I (↑j : Int)) = some (AV.cptr (pairsA (List.drop j l))) ∧ aLoad Try.prog (47 : Nat) (pairsA (List.drop j l)) = some (AV.agg [I (l.getD j pair0).fst, I (l.getD j pair0).snd]) ∧ aBin Try.prog BinOp.shr (3 : Nat) (I (↑s : Int)) (I (↑j : Int)) = some (I (↑(s >>> j) : Int)) ∧ aBin Try.prog BinOp.and (3 : Nat) (I (↑(s >>> j) : Int)) (I 1) = some (I 0) ∧ aBin Try.prog BinOp.add (3 : Nat) (I (↑j : Int)) (I 1) = some (I (↑(j + (1 : Nat)) : Int)) ∧ (34 : Nat) = (34 : Nat) ∧ j < l.length ∧ Keep (AV.bnds (0 : Nat) (0 : Nat) (0 : Nat) [I (↑s : Int), I (↑(dn l l.length) : Int), I (sS (nums l) s j), AV.sl (pairsA l) l.length r.wk, I (↑l.length : Int), I (↑(j + (1 : Nat)) : Int)] = true ∧ (H.mk [[I (l.getD j pair0).fst, I (l.getD j pair0).snd]] [] []).clean (0 : Nat) ∧ H.mk [] [] [] = H.mk [] [] [] ∧ [I (↑s : Int), I (↑(dn l l.length) : Int), I (sS (nums l) s j), AV.sl (pairsA l) l.length r.wk, I (↑l.length : Int), I (↑(j + (1 : Nat)) : Int)] = [I (↑s : Int), I (↑(dn l l.length) : Int), I (sS (nums l) s (j + (1 : Nat))), AV.sl (pairsA l) l.length r.wk, I (↑l.length : Int), I (↑(j + (1 : Nat)) : Int)])) (by kernel_rfl) ?_⟩
      refine ⟨by first | with_reducible assumption | omega | assumption, ?_⟩
      refine ⟨by first | exact ix_pairs (by kernel_rfl) (by omega) (by assumption) | exact ix_pairs (by kernel_rfl) (by omega) (rok_idx (by assumption) (by omega)), ?_⟩
      refine ⟨ld_pairs (by kernel_rfl) (by kernel_rfl) (by kernel_rfl) (by omega), ?_⟩
      refine ⟨by first | exact told_shr (by first | exact Int.natCast_nonneg _ | omega) (by with_reducible assumption) | exact told_shr (by omega) rfl, ?_⟩
      refine ⟨told_and (by with_reducible assumption), ?_⟩
      refine ⟨told_add (by with_reducible assumption), ?_⟩
      refine ⟨by first | with_reducible assumption | omega | assumption, ?_⟩
      refine ⟨by first | with_reducible assumption | omega | assumption, ?_⟩
      exact ⟨hcl _ _, clean0 _, rfl, by rw [e3]⟩
  · have hz : (l.length : Int) ≤ j := by omega
    have e : j = l.length := by omega
    subst e
    refine ⟨[Ans.o (Orc.b false)], fun u => of_eq ((↑l.length : Int) ≤ (↑l.length : Int) ∧ (34 : Nat) = (34 : Nat) ∧ hits [Out.mk Unit (AX.exit (0 : Nat)) [(6 : Nat)] (fun x => True) (fun x => [I (sS (nums l) s l.length)]) (fun x => H.nil) fun x => []] (AX.exit (0 : Nat)) [u (0 : Nat), I (↑s : Int), u (2 : Nat), u (3 : Nat), u (4 : Nat), I (↑(dn l l.length) : Int), I (sS (nums l) s l.length), u (7 : Nat), u (8 : Nat), u (9 : Nat), u (10 : Nat), AV.sl (pairsA l) l.length r.wk, I (↑l.length : Int), I (↑l.length : Int), AV.bool false, u (15 : Nat), u (16 : Nat), u (17 : Nat), u (18 : Nat), u (19 : Nat), u (20 : Nat), u (21 : Nat), u (22 : Nat), u (23 : Nat), u (24 : Nat), u (25 : Nat), u (26 : Nat), u (27 : Nat), u (28 : Nat), u (29 : Nat), u (30 : Nat), u (31 : Nat), u (32 : Nat), u (33 : Nat)] (H.mk [] [] [])) (by kernel_rfl) ?_⟩
    refine ⟨by first | with_reducible assumption | omega | assumption, ?_⟩
    refine ⟨by first | with_reducible assumption | omega | assumption, ?_⟩
    exact .inl ⟨(), trivial, rfl, rfl, rfl⟩
theorem ok78 : FokM Try.prog none1 78 Try.f78 := ⟨mixed, by kernel_rfl, by kernel_rfl, by kernel_rfl, by kernel_rfl⟩
theorem r78 (l : List Pr) (r : Room) (s : Nat) (hp : pQ l r.wk s) : Body ⟨Try.prog, Sof (P := Try.prog) [c54.to], Pof (P := Try.prog) [], H.nil.base, 300⟩ none1 Try.f78 [pz l r.wk, I s] .nil (I (sS (nums l) s l.length), .nil) := by
  have hl := lp78 l r s hp
  have e := mul_t (jOK_iff.1 hp.2.1).1
  rw [← e] at hl
  refine body_s ([Ans.o (Orc.val 10 (I (↑(mul l) : Int)) (H.mk [] [] [])), Ans.loop [(1 : Nat), (5 : Nat), (6 : Nat), (11 : Nat), (12 : Nat), (13 : Nat)] [Out.mk Unit (AX.exit (0 : Nat)) [(6 : Nat)] (fun x => True) (fun x => [I (sS (nums l) s l.length)]) (fun x => H.nil) fun y => []]]) (aCall (Sof [c54.to]) (AV.fn (Fn.func (54 : Nat)) [] []) [AV.sl (pairsA l) l.length r.wk] (H.mk [] [] []) = some (I (↑(mul l) : Int), H.mk [] [] []) ∧ LoopS (Env.mk Try.prog (Sof [c54.to]) (Pof (P := Try.prog) []) H.nil.base (300 : Nat)) (loopAt Try.f78 (0 : Nat)) (34 : Nat) [(1 : Nat), (5 : Nat), (6 : Nat), (11 : Nat), (12 : Nat), (13 : Nat)] [I (↑s : Int), I (↑(mul l) : Int), I 0, AV.sl (pairsA l) l.length r.wk, I (↑l.length : Int), I 0] (H.mk [] [] []) [Out.mk Unit (AX.exit (0 : Nat)) [(6 : Nat)] (fun x => True) (fun x => [I (sS (nums l) s l.length)]) (fun x => H.nil) fun y => []] ∧ (∀ (y : Unit), True → ∀ (u : Nat → AV), (I (sS (nums l) s l.length), H.mk [] [] []) = (I (sS (nums l) s l.length), H.mk [] [] [])) ∧ True) (by kernel_rfl) ?_
  refine ⟨acall_hit (c := c54.to) (l, r.wk) _ rfl hp.1.1, ?_⟩
  refine ⟨hl, ?_⟩
  refine And.intro ?_ ?_
  · skip
    intro y
    intro w1
    intro u
    rfl
  · skip
    trivial
noncomputable def c78 : PCtr Try.prog := sctr ok78 (X := List Pr × Room × Nat) (fun x => [pz x.1 x.2.1, I x.2.2]) (fun x => pQ x.1 x.2.1 x.2.2) (fun x => I (sS (nums x.1) x.2.2 x.1.length)) (by intro x y e _ _; simp [Int.natCast_inj] at e; simp [e]) (fun x => by simp [AV.bnds, AV.bnd, AV.wk, rm_wk_bnd]) (fun x => by first | rfl | (simp [AV.bnd, rm_wk_bnd]; done)  | (simp [AV.bnd, AV.bnds, rm_wk_bnd]; done) | simp [AV.bnd, AV.bnds, Room.bnd, rm_wk_bnd]) (fun x hx => ⟨_, _, _, .pure c54 (.nil), r78 (x.1) (x.2.1) (x.2.2) (by first | exact hx | (simp only [pM, pQ, rok_wk] at hx ⊢; exact hx))⟩)
end Go.Proofs.Bts

