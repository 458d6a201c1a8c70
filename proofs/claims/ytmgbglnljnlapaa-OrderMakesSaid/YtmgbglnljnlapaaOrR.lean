/- Layer 7: the least order with pairs, by the program. -/
import Derived.Test.YtmgbglnljnlapaaOrQ
import Derived.Test.YtmgbglnljnlapaaVm6
import Derived.KernelRfl
set_option linter.unusedSimpArgs false
set_option linter.unusedVariables false
set_option linter.unnecessarySimpa false
set_option maxHeartbeats 4000000
set_option maxRecDepth 100000
namespace Go.Proofs.Ord
open Go Go.VM
open Go.Proofs.Sur (andn andn_bit andn_le i_wrap i_and i_or i_andn i_shl i_shr bit_01)

abbrev pz (l : List Pr) (r : Room) : AV := .sl (pairsA l) l.length r
abbrev prK (N : Nat) (l : List Pr) (k : Nat) : Prop := (0 ≤ (l.getD k pair0).1 ∧ (l.getD k pair0).1 < N) ∧ 0 ≤ (l.getD k pair0).2 ∧ (l.getD k pair0).2 < N
abbrev prA (N : Nat) (l : List Pr) : Prop := ∀ k, k < l.length → prK N l k
theorem Pn_step (l : List Pr) (k : Nat) : Pn l (k + 1) = P1 (Pn l k) (l.getD k pair0).1.toNat (l.getD k pair0).2.toNat := rfl
theorem pn_rg {N : Nat} {l : List Pr} {j : Nat} (h : ∀ k, k < j → prK N l k) : Rg N (Pn l j) := by
  induction j with
  | zero => exact zero_rg N
  | succ j ih =>
    have := h j (by omega)
    rw [Pn_step]
    exact P1_rg (ih fun k hk => h k (by omega)) (by omega) (by omega)
theorem clean1 (cs x : List AV) (h : AV.bnds 1 0 0 cs = true) : H.clean ⟨[cs, x], [], []⟩ 1 := by
  intro c hc
  simp at hc
  subst hc; exact h
theorem pw_shlI {x : Int} (h0 : 0 ≤ x) (h : x < 6) : IntKind.i64.wrap (1 * 2 ^ min x.toNat IntKind.i64.bits) = ((2 ^ x.toNat : Nat) : Int) := by
  obtain ⟨n, rfl⟩ : ∃ n : Nat, x = n := ⟨x.toNat, by omega⟩
  exact pw_shl (n := n) (by omega)
theorem p2_lt {x : Int} (h : x < 6) : 2 ^ x.toNat < 64 := Nat.lt_of_lt_of_le (Nat.pow_lt_pow_right (by decide) (show x.toNat < 6 by omega)) (by decide)
abbrev o17 (N : Nat) (l : List Pr) : List Out :=
  [.mk (List (List AV)) .ret [4, 5] (fun _ => ¬ prA N l) (fun _ => [.sl [] 0 .nil, I 2]) (fun bs => ⟨bs, [], []⟩) (fun _ => []), .mk Unit (.exit 0) [6] (fun _ => prA N l) (fun _ => [.ptr 0 0]) (fun _ => b7 N (Pn l l.length)) (fun _ => [])]
abbrev o17t (N : Nat) (l : List Pr) : List Out := [.mk Unit (.exit 0) [6] (fun _ => prA N l) (fun _ => [.ptr 0 0]) (fun _ => b7 N (Pn l l.length)) (fun _ => [])]
abbrev o17a (N : Nat) (l : List Pr) : List Out := [.mk (List (List AV)) .ret [4, 5] (fun _ => ¬ prA N l) (fun _ => [.sl [] 0 .nil, I 2]) (fun bs => ⟨bs, [], []⟩) (fun _ => [])]
theorem simp17 : allSimpleM none1 (loopAt Try.f17 0) = true := by kernel_rfl
theorem lp17 (N : Nat) (l : List Pr) (r : Room) (h1 : N ≤ 6) (h2 : l.length ≤ 30) (h3 : rok l r.wk) :
    LoopS (En6 [c64.to, c65.to, c66.to, c67.to, c68.to]) (loopAt Try.f17 0) 50 [6, 19, 20, 21] [.ptr 0 0, pz l r.wk, I l.length, I 0] (b7 N zeroR) (o17 N l) := by
  have hR : Rests (En6 [c64.to, c65.to, c66.to, c67.to, c68.to]) none1 := rests mixed (.pure _ (.pure _ (.pure _ (.pure _ (.pure _ .nil)))))
  refine loop_s hR simp17 (some 1) (by intro nb h; cases h; exact ⟨Nat.zero_le _, Nat.le_refl 1⟩) (fun k vs H => H = b7 N (Pn l k) ∧ vs = [.ptr 0 0, pz l r.wk, I l.length, I (k : Nat)] ∧ ∀ i, i < k → prK N l i) l.length ⟨rfl, rfl, fun i hi => absurd hi (by omega)⟩ (by rintro nb h j vs h' ⟨rfl, _⟩; cases h; exact Nat.le_refl 1) ?_
  rintro k vs H hk ⟨rfl, rfl, ha⟩
  by_cases hz : (k : Int) < l.length
  · have hz' : k < l.length := by omega
    have hr := rok_idx h3 hz'
    have ev0 := wj1 (j := k) (by omega)
    have hg := pn_rg ha
    have hp : pO N (Pn l k) := ⟨hg, h1⟩
    have hcl : AV.bnds 1 0 0 [.ptr 0 0, pz l r.wk, I l.length, I (k + 1 : Nat)] = true := by simp [AV.bnds, AV.bnd, rm_wk_bnd]
    by_cases c1 : prK N l k
    · have b65 : decide ((0 ≤ (l.getD k pair0).1 ∧ (l.getD k pair0).1 < N) ∧ 0 ≤ (l.getD k pair0).2 ∧ (l.getD k pair0).2 < N) = true := decide_eq_true c1
      have d0 := c1.1.1
      have d1 : (l.getD k pair0).1 < 6 := by have := c1.1.2; omega
      have d2 := c1.2.1
      have d3 : (l.getD k pair0).2 < 6 := by have := c1.2.2; omega
      have d4 : (l.getD k pair0).1.toNat < N := by have := c1.1.2; omega
      have d5 : (l.getD k pair0).2.toNat < N := by have := c1.2.2; omega
      have ev1 := pw_shlI d2 d3
      have ev2 := i_orv (oo_b hg h1 d4).1 (show ((2 ^ (l.getD k pair0).2.toNat : Nat) : Int) = ((2 ^ (l.getD k pair0).2.toNat : Nat) : Int) from rfl) (rg_lt hg h1 _) (p2_lt d3)
      have hs := o7_set N (Pn l k) (Pn l (k + 1)) (k := (l.getD k pair0).1.toNat) (by omega) (fun i hi => by rw [Pn_step, P1, if_neg hi])
      rw [show Pn l (k + 1) (l.getD k pair0).1.toNat = Pn l k (l.getD k pair0).1.toNat ||| 2 ^ (l.getD k pair0).2.toNat from by rw [Pn_step, P1, if_pos rfl]] at hs
      have hk2 := all_succ (q := prK N l) ha c1
      refine ⟨[Ans.o (Orc.b true), Ans.o (Orc.val 23 (AV.cptr (pairsA (List.drop k l))) H.nil), Ans.o (Orc.val 24 (AV.agg [I (l.getD k pair0).fst, I (l.getD k pair0).snd]) H.nil), Ans.o (Orc.val 30 (AV.bool true) (H.mk [ints (o7 N (Pn l k)), [I (l.getD k pair0).fst, I (l.getD k pair0).snd]] [] [])), Ans.o (Orc.val 35 (AV.ptr 0 ((1 : Nat) + (l.getD k pair0).fst.toNat)) H.nil), Ans.o (Orc.val 36 (I ((o7 N (Pn l k)).getD ((1 : Nat) + (l.getD k pair0).fst.toNat) i0)) H.nil), Ans.o (Orc.val 39 (I (↑((2 : Nat) ^ (l.getD k pair0).snd.toNat) : Int)) H.nil), Ans.o (Orc.val 40 (I (↑(Pn l k (l.getD k pair0).fst.toNat ||| (2 : Nat) ^ (l.getD k pair0).snd.toNat) : Int)) H.nil), Ans.o (Orc.val 42 (AV.ptr 0 ((1 : Nat) + (l.getD k pair0).fst.toNat)) H.nil), Ans.o (Orc.val 9999 (AV.tup []) (H.mk [ints ((o7 N (Pn l k)).set ((1 : Nat) + (l.getD k pair0).fst.toNat) (↑(Pn l k (l.getD k pair0).fst.toNat ||| (2 : Nat) ^ (l.getD k pair0).snd.toNat) : Int)), [I (l.getD k pair0).fst, I (l.getD k pair0).snd]] [] [])), Ans.o (Orc.val 43 (I (↑(k + (1 : Nat)) : Int)) H.nil)], fun u => of_eq ((↑k : Int) < (↑l.length : Int) ∧ aIndexAddr Try.prog (22 : Nat) (AV.sl (pairsA l) l.length r.wk) (I (↑k : Int)) = some (AV.cptr (pairsA (List.drop k l))) ∧ aLoad Try.prog (54 : Nat) (pairsA (List.drop k l)) = some (AV.agg [I (l.getD k pair0).fst, I (l.getD k pair0).snd]) ∧ aCall (Sof [c64.to, c65.to, c66.to, c67.to, c68.to]) (AV.fn (Fn.func (65 : Nat)) [] []) [AV.agg [I (↑N : Int), I (↑(Pn l k (nat_lit 0)) : Int), I (↑(Pn l k (nat_lit 1)) : Int), I (↑(Pn l k (nat_lit 2)) : Int), I (↑(Pn l k (nat_lit 3)) : Int), I (↑(Pn l k (nat_lit 4)) : Int), I (↑(Pn l k (nat_lit 5)) : Int)], I (l.getD k pair0).fst, I (l.getD k pair0).snd] (H.mk [ints (o7 N (Pn l k)), [I (l.getD k pair0).fst, I (l.getD k pair0).snd]] [] []) = some (AV.bool true, H.mk [ints (o7 N (Pn l k)), [I (l.getD k pair0).fst, I (l.getD k pair0).snd]] [] []) ∧ aIndexAddr Try.prog (77 : Nat) (AV.ptr 0 1) (I (l.getD k pair0).fst) = some (AV.ptr 0 ((1 : Nat) + (l.getD k pair0).fst.toNat)) ∧ aLoad Try.prog (3 : Nat) (List.drop ((1 : Nat) + (l.getD k pair0).fst.toNat) (ints (o7 N (Pn l k)))) = some (I ((o7 N (Pn l k)).getD ((1 : Nat) + (l.getD k pair0).fst.toNat) i0)) ∧ aBin Try.prog BinOp.shl (3 : Nat) (I 1) (I (l.getD k pair0).snd) = some (I (↑((2 : Nat) ^ (l.getD k pair0).snd.toNat) : Int)) ∧ aBin Try.prog BinOp.or (3 : Nat) (I ((o7 N (Pn l k)).getD ((1 : Nat) + (l.getD k pair0).fst.toNat) i0)) (I (↑((2 : Nat) ^ (l.getD k pair0).snd.toNat) : Int)) = some (I (↑(Pn l k (l.getD k pair0).fst.toNat ||| (2 : Nat) ^ (l.getD k pair0).snd.toNat) : Int)) ∧ aIndexAddr Try.prog (77 : Nat) (AV.ptr 0 1) (I (l.getD k pair0).fst) = some (AV.ptr 0 ((1 : Nat) + (l.getD k pair0).fst.toNat)) ∧ aStore Try.prog H.nil.base (3 : Nat) (AV.ptr 0 ((1 : Nat) + (l.getD k pair0).fst.toNat)) (I (↑(Pn l k (l.getD k pair0).fst.toNat ||| (2 : Nat) ^ (l.getD k pair0).snd.toNat) : Int)) (H.mk [ints (o7 N (Pn l k)), [I (l.getD k pair0).fst, I (l.getD k pair0).snd]] [] []) = some (H.mk [ints ((o7 N (Pn l k)).set ((1 : Nat) + (l.getD k pair0).fst.toNat) (↑(Pn l k (l.getD k pair0).fst.toNat ||| (2 : Nat) ^ (l.getD k pair0).snd.toNat) : Int)), [I (l.getD k pair0).fst, I (l.getD k pair0).snd]] [] []) ∧ aBin Try.prog BinOp.add (3 : Nat) (I (↑k : Int)) (I 1) = some (I (↑(k + (1 : Nat)) : Int)) ∧ (50 : Nat) = (50 : Nat) ∧ k < l.length ∧ Keep (AV.bnds (1 : Nat) (0 : Nat) (0 : Nat) [AV.ptr 0 0, AV.sl (pairsA l) l.length r.wk, I (↑l.length : Int), I (↑(k + (1 : Nat)) : Int)] = true ∧ (H.mk [ints ((o7 N (Pn l k)).set ((1 : Nat) + (l.getD k pair0).fst.toNat) (↑(Pn l k (l.getD k pair0).fst.toNat ||| (2 : Nat) ^ (l.getD k pair0).snd.toNat) : Int)), [I (l.getD k pair0).fst, I (l.getD k pair0).snd]] [] []).clean (1 : Nat) ∧ H.mk [ints ((o7 N (Pn l k)).set ((1 : Nat) + (l.getD k pair0).fst.toNat) (↑(Pn l k (l.getD k pair0).fst.toNat ||| (2 : Nat) ^ (l.getD k pair0).snd.toNat) : Int))] [] [] = H.mk [ints (o7 N (Pn l (k + (1 : Nat))))] [] [] ∧ [AV.ptr 0 0, AV.sl (pairsA l) l.length r.wk, I (↑l.length : Int), I (↑(k + (1 : Nat)) : Int)] = [AV.ptr 0 0, AV.sl (pairsA l) l.length r.wk, I (↑l.length : Int), I (↑(k + (1 : Nat)) : Int)] ∧ ∀ (i : Nat), i < k + (1 : Nat) → prK N l i)) (by kernel_rfl) ?_⟩
      refine ⟨by first | with_reducible assumption | omega | assumption, ?_⟩
      refine ⟨ix_pairs (by kernel_rfl) hz' hr, ?_⟩
      refine ⟨ld_pairs (by kernel_rfl) (by kernel_rfl) (by kernel_rfl) (by omega), ?_⟩
      refine ⟨acall_b (acall_hit (c := c65.to) ((N, Pn l k), (l.getD k pair0).1, (l.getD k pair0).2) _ rfl hp) b65, ?_⟩
      refine ⟨ixa_int (n := 6) (by kernel_rfl) d0 (by omega), ?_⟩
      refine ⟨ldm_ints (by kernel_rfl) (by kernel_rfl) (by rw [o7_len]; omega), ?_⟩
      refine ⟨by first | exact told_shl (by first | exact Int.natCast_nonneg _ | omega) (by with_reducible assumption) | exact told_shl (by omega) rfl, ?_⟩
      refine ⟨told_or (by with_reducible assumption), ?_⟩
      refine ⟨ixa_int (n := 6) (by kernel_rfl) d0 (by omega), ?_⟩
      refine ⟨st_ints (by kernel_rfl) rfl (by rw [o7_len]; omega), ?_⟩
      refine ⟨told_add (by with_reducible assumption), ?_⟩
      refine ⟨by first | with_reducible assumption | omega | assumption, ?_⟩
      refine ⟨by first | with_reducible assumption | omega | assumption, ?_⟩
      exact ⟨hcl, clean1 _ _ (ints_bnds _ _ _ _), by rw [hs], rfl, hk2⟩
    · have b65 : decide ((0 ≤ (l.getD k pair0).1 ∧ (l.getD k pair0).1 < N) ∧ 0 ≤ (l.getD k pair0).2 ∧ (l.getD k pair0).2 < N) = false := decide_eq_false c1
      have hn : ¬ prA N l := fun h => c1 (h k hz')
      refine ⟨[Ans.o (Orc.b true), Ans.o (Orc.val 23 (AV.cptr (pairsA (List.drop k l))) H.nil), Ans.o (Orc.val 24 (AV.agg [I (l.getD k pair0).fst, I (l.getD k pair0).snd]) H.nil), Ans.o (Orc.val 30 (AV.bool false) (H.mk [ints (o7 N (Pn l k)), [I (l.getD k pair0).fst, I (l.getD k pair0).snd]] [] []))], fun u => of_eq ((↑k : Int) < (↑l.length : Int) ∧ aIndexAddr Try.prog (22 : Nat) (AV.sl (pairsA l) l.length r.wk) (I (↑k : Int)) = some (AV.cptr (pairsA (List.drop k l))) ∧ aLoad Try.prog (54 : Nat) (pairsA (List.drop k l)) = some (AV.agg [I (l.getD k pair0).fst, I (l.getD k pair0).snd]) ∧ aCall (Sof [c64.to, c65.to, c66.to, c67.to, c68.to]) (AV.fn (Fn.func (65 : Nat)) [] []) [AV.agg [I (↑N : Int), I (↑(Pn l k (nat_lit 0)) : Int), I (↑(Pn l k (nat_lit 1)) : Int), I (↑(Pn l k (nat_lit 2)) : Int), I (↑(Pn l k (nat_lit 3)) : Int), I (↑(Pn l k (nat_lit 4)) : Int), I (↑(Pn l k (nat_lit 5)) : Int)], I (l.getD k pair0).fst, I (l.getD k pair0).snd] (H.mk [ints (o7 N (Pn l k)), [I (l.getD k pair0).fst, I (l.getD k pair0).snd]] [] []) = some (AV.bool false, H.mk [ints (o7 N (Pn l k)), [I (l.getD k pair0).fst, I (l.getD k pair0).snd]] [] []) ∧ (50 : Nat) = (50 : Nat) ∧ hits [Out.mk (List (List AV)) AX.ret [(4 : Nat), (5 : Nat)] (fun x => ¬prA N l) (fun x => [AV.sl [] (0 : Nat) Room.nil, I 2]) (fun bs => H.mk bs [] []) fun x => [], Out.mk Unit (AX.exit (0 : Nat)) [(6 : Nat)] (fun x => prA N l) (fun x => [AV.ptr 0 0]) (fun x => b7 N (Pn l l.length)) fun x => []] AX.ret [u (0 : Nat), u (1 : Nat), u (2 : Nat), u (3 : Nat), AV.sl [] (0 : Nat) Room.nil, I 2, AV.ptr 0 0, u (7 : Nat), AV.ptr 1 0, u (9 : Nat), u (10 : Nat), u (11 : Nat), u (12 : Nat), u (13 : Nat), u (14 : Nat), u (15 : Nat), u (16 : Nat), u (17 : Nat), u (18 : Nat), AV.sl (pairsA l) l.length r.wk, I (↑l.length : Int), I (↑k : Int), AV.bool true, AV.cptr (pairsA (List.drop k l)), AV.agg [I (l.getD k pair0).fst, I (l.getD k pair0).snd], AV.agg [I (↑N : Int), I (↑(Pn l k (nat_lit 0)) : Int), I (↑(Pn l k (nat_lit 1)) : Int), I (↑(Pn l k (nat_lit 2)) : Int), I (↑(Pn l k (nat_lit 3)) : Int), I (↑(Pn l k (nat_lit 4)) : Int), I (↑(Pn l k (nat_lit 5)) : Int)], AV.ptr 1 0, I (l.getD k pair0).fst, AV.ptr 1 1, I (l.getD k pair0).snd, AV.bool false, AV.bool true, u (32 : Nat), u (33 : Nat), u (34 : Nat), u (35 : Nat), u (36 : Nat), u (37 : Nat), u (38 : Nat), u (39 : Nat), u (40 : Nat), u (41 : Nat), u (42 : Nat), u (43 : Nat), u (44 : Nat), u (45 : Nat), u (46 : Nat), u (47 : Nat), u (48 : Nat), u (49 : Nat)] (H.mk [ints (o7 N (Pn l k)), [I (l.getD k pair0).fst, I (l.getD k pair0).snd]] [] [])) (by kernel_rfl) ?_⟩
      refine ⟨by first | with_reducible assumption | omega | assumption, ?_⟩
      refine ⟨ix_pairs (by kernel_rfl) hz' hr, ?_⟩
      refine ⟨ld_pairs (by kernel_rfl) (by kernel_rfl) (by kernel_rfl) (by omega), ?_⟩
      refine ⟨acall_b (acall_hit (c := c65.to) ((N, Pn l k), (l.getD k pair0).1, (l.getD k pair0).2) _ rfl hp) b65, ?_⟩
      refine ⟨by first | with_reducible assumption | omega | assumption, ?_⟩
      exact .inl ⟨_, hn, rfl, rfl, rfl⟩
  · have hz : (l.length : Int) ≤ k := by omega
    have hk' : k = l.length := by omega
    subst hk'
    refine ⟨[Ans.o (Orc.b false)], fun u => of_eq ((↑l.length : Int) ≤ (↑l.length : Int) ∧ (50 : Nat) = (50 : Nat) ∧ hits [Out.mk (List (List AV)) AX.ret [(4 : Nat), (5 : Nat)] (fun x => ¬prA N l) (fun x => [AV.sl [] (0 : Nat) Room.nil, I 2]) (fun bs => H.mk bs [] []) fun x => [], Out.mk Unit (AX.exit (0 : Nat)) [(6 : Nat)] (fun x => prA N l) (fun x => [AV.ptr 0 0]) (fun x => b7 N (Pn l l.length)) fun x => []] (AX.exit (0 : Nat)) [u (0 : Nat), u (1 : Nat), u (2 : Nat), u (3 : Nat), u (4 : Nat), u (5 : Nat), AV.ptr 0 0, u (7 : Nat), u (8 : Nat), u (9 : Nat), u (10 : Nat), u (11 : Nat), u (12 : Nat), u (13 : Nat), u (14 : Nat), u (15 : Nat), u (16 : Nat), u (17 : Nat), u (18 : Nat), AV.sl (pairsA l) l.length r.wk, I (↑l.length : Int), I (↑l.length : Int), AV.bool false, u (23 : Nat), u (24 : Nat), u (25 : Nat), u (26 : Nat), u (27 : Nat), u (28 : Nat), u (29 : Nat), u (30 : Nat), u (31 : Nat), u (32 : Nat), u (33 : Nat), u (34 : Nat), u (35 : Nat), u (36 : Nat), u (37 : Nat), u (38 : Nat), u (39 : Nat), u (40 : Nat), u (41 : Nat), u (42 : Nat), u (43 : Nat), u (44 : Nat), u (45 : Nat), u (46 : Nat), u (47 : Nat), u (48 : Nat), u (49 : Nat)] (H.mk [ints (o7 N (Pn l l.length))] [] [])) (by kernel_rfl) ?_⟩
    refine ⟨by first | with_reducible assumption | omega | assumption, ?_⟩
    refine ⟨by first | with_reducible assumption | omega | assumption, ?_⟩
    exact .inr (.inl ⟨(), ha, rfl, rfl, rfl⟩)
theorem ok17 : FokM Try.prog none1 17 Try.f17 := ⟨mixed, by kernel_rfl, by kernel_rfl, by kernel_rfl, by kernel_rfl⟩
/-- the closure of pairs -/
abbrev clR (N : Nat) (l : List Pr) : Rel := Wn (Pn l l.length) N
theorem r17t (N : Nat) (l : List Pr) (r : Room) (h0 : 1 ≤ N) (h1 : N ≤ 6) (h2 : l.length ≤ 30) (h3 : rok l r.wk) (ha : prA N l) (hi : Irr (clR N l)) : Body (En6 [c64.to, c65.to, c66.to, c67.to, c68.to]) none1 Try.f17 [I N, pz l r.wk] .nil (.tup [ls (rl N (clR N l)) .full, I 0], .nil) := by
  have t64 : True := trivial
  have b64 : decide (1 ≤ (N : Int) ∧ (N : Int) ≤ 6) = true := by rw [decide_eq_true_eq]; omega
  have c1 : (l.length : Int) ≤ 30 := by omega
  have hl := lp17 N l r h1 h2 h3
  have hl1 : LoopS (En6 [c64.to, c65.to, c66.to, c67.to, c68.to]) (loopAt Try.f17 0) 50 [6, 19, 20, 21] [.ptr 0 0, pz l r.wk, I l.length, I 0] (b7 N zeroR) (o17t N l) := fun A hA hs => (hl A hA hs).mono fun x A' H' ⟨k, hh⟩ => ⟨k, by
    rcases hh with ⟨_, hc, _⟩ | hh | hh
    · exact absurd ha hc
    · exact .inl hh
    · exact hh.elim⟩
  have hg := Pn_rg ha l.length (Nat.le_refl _)
  have hp : pO N (Pn l l.length) := ⟨hg, h1⟩
  have hq : pO N (clR N l) := ⟨Wn_rg hg N, h1⟩
  have b67 : cyB (clR N l) = false := by simpa [cyB] using hi
  refine body_s ([Ans.o (Orc.val 10 (AV.bool true) (H.mk [] [] [])), Ans.o (Orc.b false), Ans.loop [(6 : Nat), (19 : Nat), (20 : Nat), (21 : Nat)] [Out.mk Unit (AX.exit (0 : Nat)) [(6 : Nat)] (fun x => prA N l) (fun x => [AV.ptr 0 0]) (fun x => b7 N (Pn l l.length)) fun y => [Ans.o (Orc.val 45 (AV.agg (ints (o7 N (Wn (Pn l l.length) N)))) (H.mk [ints (o7 N (Pn l l.length))] [] [])), Ans.o (Orc.val 47 (AV.bool false) (H.mk [[I (↑N : Int), I (↑(Wn (Pn l l.length) N (nat_lit 0)) : Int), I (↑(Wn (Pn l l.length) N (nat_lit 1)) : Int), I (↑(Wn (Pn l l.length) N (nat_lit 2)) : Int), I (↑(Wn (Pn l l.length) N (nat_lit 3)) : Int), I (↑(Wn (Pn l l.length) N (nat_lit 4)) : Int), I (↑(Wn (Pn l l.length) N (nat_lit 5)) : Int)]] [] [])), Ans.o (Orc.val 49 (AV.sl (ints (rl N (Wn (Pn l l.length) N))) (rl N (Wn (Pn l l.length) N)).length Room.full) (H.mk [[I (↑N : Int), I (↑(Wn (Pn l l.length) N (nat_lit 0)) : Int), I (↑(Wn (Pn l l.length) N (nat_lit 1)) : Int), I (↑(Wn (Pn l l.length) N (nat_lit 2)) : Int), I (↑(Wn (Pn l l.length) N (nat_lit 3)) : Int), I (↑(Wn (Pn l l.length) N (nat_lit 4)) : Int), I (↑(Wn (Pn l l.length) N (nat_lit 5)) : Int)]] [] []))]]]) (aCall (Sof [c64.to, c65.to, c66.to, c67.to, c68.to]) (AV.fn (Fn.func (64 : Nat)) [] []) [I (↑N : Int)] (H.mk [] [] []) = some (AV.bool true, H.mk [] [] []) ∧ (↑l.length : Int) ≤ (30 : Int) ∧ LoopS (Env.mk Try.prog (Sof [c64.to, c65.to, c66.to, c67.to, c68.to]) (Pof (P := Try.prog) []) H.nil.base (300 : Nat)) (loopAt Try.f17 (0 : Nat)) (50 : Nat) [(6 : Nat), (19 : Nat), (20 : Nat), (21 : Nat)] [AV.ptr 0 0, AV.sl (pairsA l) l.length r.wk, I (↑l.length : Int), I 0] (H.mk [[I (↑N : Int), I 0, I 0, I 0, I 0, I 0, I 0]] [] []) [Out.mk Unit (AX.exit (0 : Nat)) [(6 : Nat)] (fun x => prA N l) (fun x => [AV.ptr 0 0]) (fun x => b7 N (Pn l l.length)) fun y => [Ans.o (Orc.val 45 (AV.agg (ints (o7 N (Wn (Pn l l.length) N)))) (H.mk [ints (o7 N (Pn l l.length))] [] [])), Ans.o (Orc.val 47 (AV.bool false) (H.mk [[I (↑N : Int), I (↑(Wn (Pn l l.length) N (nat_lit 0)) : Int), I (↑(Wn (Pn l l.length) N (nat_lit 1)) : Int), I (↑(Wn (Pn l l.length) N (nat_lit 2)) : Int), I (↑(Wn (Pn l l.length) N (nat_lit 3)) : Int), I (↑(Wn (Pn l l.length) N (nat_lit 4)) : Int), I (↑(Wn (Pn l l.length) N (nat_lit 5)) : Int)]] [] [])), Ans.o (Orc.val 49 (AV.sl (ints (rl N (Wn (Pn l l.length) N))) (rl N (Wn (Pn l l.length) N)).length Room.full) (H.mk [[I (↑N : Int), I (↑(Wn (Pn l l.length) N (nat_lit 0)) : Int), I (↑(Wn (Pn l l.length) N (nat_lit 1)) : Int), I (↑(Wn (Pn l l.length) N (nat_lit 2)) : Int), I (↑(Wn (Pn l l.length) N (nat_lit 3)) : Int), I (↑(Wn (Pn l l.length) N (nat_lit 4)) : Int), I (↑(Wn (Pn l l.length) N (nat_lit 5)) : Int)]] [] []))]] ∧ (∀ (y : Unit), (∀ (k : Nat), k < l.length → ((0 : Int) ≤ (l.getD k pair0).fst ∧ (l.getD k pair0).fst < (↑N : Int)) ∧ (0 : Int) ≤ (l.getD k pair0).snd ∧ (l.getD k pair0).snd < (↑N : Int)) → ∀ (u : Nat → AV), aCall (Sof [c64.to, c65.to, c66.to, c67.to, c68.to]) (AV.fn (Fn.func (66 : Nat)) [] []) [AV.agg [I (↑N : Int), I (↑(Pn l l.length (nat_lit 0)) : Int), I (↑(Pn l l.length (nat_lit 1)) : Int), I (↑(Pn l l.length (nat_lit 2)) : Int), I (↑(Pn l l.length (nat_lit 3)) : Int), I (↑(Pn l l.length (nat_lit 4)) : Int), I (↑(Pn l l.length (nat_lit 5)) : Int)]] (H.mk [ints (o7 N (Pn l l.length))] [] []) = some (AV.agg (ints (o7 N (Wn (Pn l l.length) N))), H.mk [ints (o7 N (Pn l l.length))] [] []) ∧ aCall (Sof [c64.to, c65.to, c66.to, c67.to, c68.to]) (AV.fn (Fn.func (67 : Nat)) [] []) [AV.agg [I (↑N : Int), I (↑(Wn (Pn l l.length) N (nat_lit 0)) : Int), I (↑(Wn (Pn l l.length) N (nat_lit 1)) : Int), I (↑(Wn (Pn l l.length) N (nat_lit 2)) : Int), I (↑(Wn (Pn l l.length) N (nat_lit 3)) : Int), I (↑(Wn (Pn l l.length) N (nat_lit 4)) : Int), I (↑(Wn (Pn l l.length) N (nat_lit 5)) : Int)]] (H.mk [[I (↑N : Int), I (↑(Wn (Pn l l.length) N (nat_lit 0)) : Int), I (↑(Wn (Pn l l.length) N (nat_lit 1)) : Int), I (↑(Wn (Pn l l.length) N (nat_lit 2)) : Int), I (↑(Wn (Pn l l.length) N (nat_lit 3)) : Int), I (↑(Wn (Pn l l.length) N (nat_lit 4)) : Int), I (↑(Wn (Pn l l.length) N (nat_lit 5)) : Int)]] [] []) = some (AV.bool false, H.mk [[I (↑N : Int), I (↑(Wn (Pn l l.length) N (nat_lit 0)) : Int), I (↑(Wn (Pn l l.length) N (nat_lit 1)) : Int), I (↑(Wn (Pn l l.length) N (nat_lit 2)) : Int), I (↑(Wn (Pn l l.length) N (nat_lit 3)) : Int), I (↑(Wn (Pn l l.length) N (nat_lit 4)) : Int), I (↑(Wn (Pn l l.length) N (nat_lit 5)) : Int)]] [] []) ∧ aCall (Sof [c64.to, c65.to, c66.to, c67.to, c68.to]) (AV.fn (Fn.func (68 : Nat)) [] []) [AV.agg [I (↑N : Int), I (↑(Wn (Pn l l.length) N (nat_lit 0)) : Int), I (↑(Wn (Pn l l.length) N (nat_lit 1)) : Int), I (↑(Wn (Pn l l.length) N (nat_lit 2)) : Int), I (↑(Wn (Pn l l.length) N (nat_lit 3)) : Int), I (↑(Wn (Pn l l.length) N (nat_lit 4)) : Int), I (↑(Wn (Pn l l.length) N (nat_lit 5)) : Int)]] (H.mk [[I (↑N : Int), I (↑(Wn (Pn l l.length) N (nat_lit 0)) : Int), I (↑(Wn (Pn l l.length) N (nat_lit 1)) : Int), I (↑(Wn (Pn l l.length) N (nat_lit 2)) : Int), I (↑(Wn (Pn l l.length) N (nat_lit 3)) : Int), I (↑(Wn (Pn l l.length) N (nat_lit 4)) : Int), I (↑(Wn (Pn l l.length) N (nat_lit 5)) : Int)]] [] []) = some (AV.sl (ints (rl N (Wn (Pn l l.length) N))) (rl N (Wn (Pn l l.length) N)).length Room.full, H.mk [[I (↑N : Int), I (↑(Wn (Pn l l.length) N (nat_lit 0)) : Int), I (↑(Wn (Pn l l.length) N (nat_lit 1)) : Int), I (↑(Wn (Pn l l.length) N (nat_lit 2)) : Int), I (↑(Wn (Pn l l.length) N (nat_lit 3)) : Int), I (↑(Wn (Pn l l.length) N (nat_lit 4)) : Int), I (↑(Wn (Pn l l.length) N (nat_lit 5)) : Int)]] [] []) ∧ leave (Base.mk H.nil.blk.length H.nil.toks.length H.nil.maps.length) (AV.tup [AV.sl (ints (rl N (Wn (Pn l l.length) N))) (rl N (Wn (Pn l l.length) N)).length Room.full, I 0]) (H.mk [[I (↑N : Int), I (↑(Wn (Pn l l.length) N (nat_lit 0)) : Int), I (↑(Wn (Pn l l.length) N (nat_lit 1)) : Int), I (↑(Wn (Pn l l.length) N (nat_lit 2)) : Int), I (↑(Wn (Pn l l.length) N (nat_lit 3)) : Int), I (↑(Wn (Pn l l.length) N (nat_lit 4)) : Int), I (↑(Wn (Pn l l.length) N (nat_lit 5)) : Int)]] [] []) = (AV.tup [AV.sl (ints (rl N (clR N l))) (rl N (clR N l)).length Room.full, I 0], H.mk [] [] [])) ∧ True) (by kernel_rfl) ?_
  refine ⟨acall_b (acall_hit (c := c64.to) (N : Int) _ rfl t64) b64, ?_⟩
  refine ⟨by first | with_reducible assumption | omega | assumption, ?_⟩
  refine ⟨hl1, ?_⟩
  refine And.intro ?_ ?_
  · skip
    intro y
    intro w1
    intro u
    refine ⟨acall_hit (c := c66.to) (N, Pn l l.length) _ rfl hp, ?_⟩
    refine ⟨acall_b (acall_hit (c := c67.to) (N, clR N l) _ rfl hq) b67, ?_⟩
    refine ⟨acall_hit (c := c68.to) (N, clR N l) _ rfl ⟨hq, h0⟩, ?_⟩
    exact leave_bs _ (by simp [AV.bnd, AV.bnds, Room.bnd])
  · skip
    trivial
theorem r17n (N : Nat) (l : List Pr) (r : Room) (h0 : 1 ≤ N) (h1 : N ≤ 6) (h2 : l.length ≤ 30) (h3 : rok l r.wk) (ha : prA N l) (hi : ¬ Irr (clR N l)) : Body (En6 [c64.to, c65.to, c66.to, c67.to, c68.to]) none1 Try.f17 [I N, pz l r.wk] .nil (.tup [.sl [] 0 .nil, I 4], .nil) := by
  have t64 : True := trivial
  have b64 : decide (1 ≤ (N : Int) ∧ (N : Int) ≤ 6) = true := by rw [decide_eq_true_eq]; omega
  have c1 : (l.length : Int) ≤ 30 := by omega
  have hl := lp17 N l r h1 h2 h3
  have hl1 : LoopS (En6 [c64.to, c65.to, c66.to, c67.to, c68.to]) (loopAt Try.f17 0) 50 [6, 19, 20, 21] [.ptr 0 0, pz l r.wk, I l.length, I 0] (b7 N zeroR) (o17t N l) := fun A hA hs => (hl A hA hs).mono fun x A' H' ⟨k, hh⟩ => ⟨k, by
    rcases hh with ⟨_, hc, _⟩ | hh | hh
    · exact absurd ha hc
    · exact .inl hh
    · exact hh.elim⟩
  have hg := Pn_rg ha l.length (Nat.le_refl _)
  have hp : pO N (Pn l l.length) := ⟨hg, h1⟩
  have hq : pO N (clR N l) := ⟨Wn_rg hg N, h1⟩
  have b67 : cyB (clR N l) = true := by simpa [cyB] using hi
  refine body_s ([Ans.o (Orc.val 10 (AV.bool true) (H.mk [] [] [])), Ans.o (Orc.b false), Ans.loop [(6 : Nat), (19 : Nat), (20 : Nat), (21 : Nat)] [Out.mk Unit (AX.exit (0 : Nat)) [(6 : Nat)] (fun x => prA N l) (fun x => [AV.ptr 0 0]) (fun x => b7 N (Pn l l.length)) fun y => [Ans.o (Orc.val 45 (AV.agg (ints (o7 N (Wn (Pn l l.length) N)))) (H.mk [ints (o7 N (Pn l l.length))] [] [])), Ans.o (Orc.val 47 (AV.bool true) (H.mk [[I (↑N : Int), I (↑(Wn (Pn l l.length) N (nat_lit 0)) : Int), I (↑(Wn (Pn l l.length) N (nat_lit 1)) : Int), I (↑(Wn (Pn l l.length) N (nat_lit 2)) : Int), I (↑(Wn (Pn l l.length) N (nat_lit 3)) : Int), I (↑(Wn (Pn l l.length) N (nat_lit 4)) : Int), I (↑(Wn (Pn l l.length) N (nat_lit 5)) : Int)]] [] []))]]]) (aCall (Sof [c64.to, c65.to, c66.to, c67.to, c68.to]) (AV.fn (Fn.func (64 : Nat)) [] []) [I (↑N : Int)] (H.mk [] [] []) = some (AV.bool true, H.mk [] [] []) ∧ (↑l.length : Int) ≤ (30 : Int) ∧ LoopS (Env.mk Try.prog (Sof [c64.to, c65.to, c66.to, c67.to, c68.to]) (Pof (P := Try.prog) []) H.nil.base (300 : Nat)) (loopAt Try.f17 (0 : Nat)) (50 : Nat) [(6 : Nat), (19 : Nat), (20 : Nat), (21 : Nat)] [AV.ptr 0 0, AV.sl (pairsA l) l.length r.wk, I (↑l.length : Int), I 0] (H.mk [[I (↑N : Int), I 0, I 0, I 0, I 0, I 0, I 0]] [] []) [Out.mk Unit (AX.exit (0 : Nat)) [(6 : Nat)] (fun x => prA N l) (fun x => [AV.ptr 0 0]) (fun x => b7 N (Pn l l.length)) fun y => [Ans.o (Orc.val 45 (AV.agg (ints (o7 N (Wn (Pn l l.length) N)))) (H.mk [ints (o7 N (Pn l l.length))] [] [])), Ans.o (Orc.val 47 (AV.bool true) (H.mk [[I (↑N : Int), I (↑(Wn (Pn l l.length) N (nat_lit 0)) : Int), I (↑(Wn (Pn l l.length) N (nat_lit 1)) : Int), I (↑(Wn (Pn l l.length) N (nat_lit 2)) : Int), I (↑(Wn (Pn l l.length) N (nat_lit 3)) : Int), I (↑(Wn (Pn l l.length) N (nat_lit 4)) : Int), I (↑(Wn (Pn l l.length) N (nat_lit 5)) : Int)]] [] []))]] ∧ (∀ (y : Unit), (∀ (k : Nat), k < l.length → ((0 : Int) ≤ (l.getD k pair0).fst ∧ (l.getD k pair0).fst < (↑N : Int)) ∧ (0 : Int) ≤ (l.getD k pair0).snd ∧ (l.getD k pair0).snd < (↑N : Int)) → ∀ (u : Nat → AV), aCall (Sof [c64.to, c65.to, c66.to, c67.to, c68.to]) (AV.fn (Fn.func (66 : Nat)) [] []) [AV.agg [I (↑N : Int), I (↑(Pn l l.length (nat_lit 0)) : Int), I (↑(Pn l l.length (nat_lit 1)) : Int), I (↑(Pn l l.length (nat_lit 2)) : Int), I (↑(Pn l l.length (nat_lit 3)) : Int), I (↑(Pn l l.length (nat_lit 4)) : Int), I (↑(Pn l l.length (nat_lit 5)) : Int)]] (H.mk [ints (o7 N (Pn l l.length))] [] []) = some (AV.agg (ints (o7 N (Wn (Pn l l.length) N))), H.mk [ints (o7 N (Pn l l.length))] [] []) ∧ aCall (Sof [c64.to, c65.to, c66.to, c67.to, c68.to]) (AV.fn (Fn.func (67 : Nat)) [] []) [AV.agg [I (↑N : Int), I (↑(Wn (Pn l l.length) N (nat_lit 0)) : Int), I (↑(Wn (Pn l l.length) N (nat_lit 1)) : Int), I (↑(Wn (Pn l l.length) N (nat_lit 2)) : Int), I (↑(Wn (Pn l l.length) N (nat_lit 3)) : Int), I (↑(Wn (Pn l l.length) N (nat_lit 4)) : Int), I (↑(Wn (Pn l l.length) N (nat_lit 5)) : Int)]] (H.mk [[I (↑N : Int), I (↑(Wn (Pn l l.length) N (nat_lit 0)) : Int), I (↑(Wn (Pn l l.length) N (nat_lit 1)) : Int), I (↑(Wn (Pn l l.length) N (nat_lit 2)) : Int), I (↑(Wn (Pn l l.length) N (nat_lit 3)) : Int), I (↑(Wn (Pn l l.length) N (nat_lit 4)) : Int), I (↑(Wn (Pn l l.length) N (nat_lit 5)) : Int)]] [] []) = some (AV.bool true, H.mk [[I (↑N : Int), I (↑(Wn (Pn l l.length) N (nat_lit 0)) : Int), I (↑(Wn (Pn l l.length) N (nat_lit 1)) : Int), I (↑(Wn (Pn l l.length) N (nat_lit 2)) : Int), I (↑(Wn (Pn l l.length) N (nat_lit 3)) : Int), I (↑(Wn (Pn l l.length) N (nat_lit 4)) : Int), I (↑(Wn (Pn l l.length) N (nat_lit 5)) : Int)]] [] []) ∧ (AV.tup [AV.sl [] (0 : Nat) Room.nil, I 4], H.mk [] [] []) = (AV.tup [AV.sl [] (0 : Nat) Room.nil, I 4], H.mk [] [] [])) ∧ True) (by kernel_rfl) ?_
  refine ⟨acall_b (acall_hit (c := c64.to) (N : Int) _ rfl t64) b64, ?_⟩
  refine ⟨by first | with_reducible assumption | omega | assumption, ?_⟩
  refine ⟨hl1, ?_⟩
  refine And.intro ?_ ?_
  · skip
    intro y
    intro w1
    intro u
    refine ⟨acall_hit (c := c66.to) (N, Pn l l.length) _ rfl hp, ?_⟩
    refine ⟨acall_b (acall_hit (c := c67.to) (N, clR N l) _ rfl hq) b67, ?_⟩
    rfl
  · skip
    trivial
theorem r17a (N : Nat) (l : List Pr) (r : Room) (h0 : 1 ≤ N) (h1 : N ≤ 6) (h2 : l.length ≤ 30) (h3 : rok l r.wk) (ha : ¬ prA N l) : Body (En6 [c64.to, c65.to, c66.to, c67.to, c68.to]) none1 Try.f17 [I N, pz l r.wk] .nil (.tup [.sl [] 0 .nil, I 2], .nil) := by
  have t64 : True := trivial
  have b64 : decide (1 ≤ (N : Int) ∧ (N : Int) ≤ 6) = true := by rw [decide_eq_true_eq]; omega
  have c1 : (l.length : Int) ≤ 30 := by omega
  have hl := lp17 N l r h1 h2 h3
  have hl1 : LoopS (En6 [c64.to, c65.to, c66.to, c67.to, c68.to]) (loopAt Try.f17 0) 50 [6, 19, 20, 21] [.ptr 0 0, pz l r.wk, I l.length, I 0] (b7 N zeroR) (o17a N l) := fun A hA hs => (hl A hA hs).mono fun x A' H' ⟨k, hh⟩ => ⟨k, by
    rcases hh with hh | ⟨_, hc, _⟩ | hh
    · exact .inl hh
    · exact absurd hc ha
    · exact hh.elim⟩
  refine body_s ([Ans.o (Orc.val 10 (AV.bool true) (H.mk [] [] [])), Ans.o (Orc.b false), Ans.loop [(6 : Nat), (19 : Nat), (20 : Nat), (21 : Nat)] [Out.mk (List (List AV)) AX.ret [(4 : Nat), (5 : Nat)] (fun x => ¬prA N l) (fun x => [AV.sl [] (0 : Nat) Room.nil, I 2]) (fun bs => H.mk bs [] []) fun y => []]]) (aCall (Sof [c64.to, c65.to, c66.to, c67.to, c68.to]) (AV.fn (Fn.func (64 : Nat)) [] []) [I (↑N : Int)] (H.mk [] [] []) = some (AV.bool true, H.mk [] [] []) ∧ (↑l.length : Int) ≤ (30 : Int) ∧ LoopS (Env.mk Try.prog (Sof [c64.to, c65.to, c66.to, c67.to, c68.to]) (Pof (P := Try.prog) []) H.nil.base (300 : Nat)) (loopAt Try.f17 (0 : Nat)) (50 : Nat) [(6 : Nat), (19 : Nat), (20 : Nat), (21 : Nat)] [AV.ptr 0 0, AV.sl (pairsA l) l.length r.wk, I (↑l.length : Int), I 0] (H.mk [[I (↑N : Int), I 0, I 0, I 0, I 0, I 0, I 0]] [] []) [Out.mk (List (List AV)) AX.ret [(4 : Nat), (5 : Nat)] (fun x => ¬prA N l) (fun x => [AV.sl [] (0 : Nat) Room.nil, I 2]) (fun bs => H.mk bs [] []) fun y => []] ∧ (∀ (y : List (List AV)), ¬prA N l → ∀ (u : Nat → AV), (AV.tup [AV.sl [] (0 : Nat) Room.nil, I 2], H.mk [] [] []) = (AV.tup [AV.sl [] (0 : Nat) Room.nil, I 2], H.mk [] [] [])) ∧ True) (by kernel_rfl) ?_
  refine ⟨acall_b (acall_hit (c := c64.to) (N : Int) _ rfl t64) b64, ?_⟩
  refine ⟨by first | with_reducible assumption | omega | assumption, ?_⟩
  refine ⟨hl1, ?_⟩
  refine And.intro ?_ ?_
  · skip
    intro y
    intro w1
    intro u
    rfl
  · skip
    trivial
theorem r17z (n : Int) (l : List Pr) (r : Room) (h : ¬ ((1 ≤ n ∧ n ≤ 6) ∧ l.length ≤ 30)) : Body (En6 [c64.to]) none1 Try.f17 [I n, pz l r.wk] .nil (.tup [.sl [] 0 .nil, I 2], .nil) := by
  have t64 : True := trivial
  by_cases h1 : 1 ≤ n ∧ n ≤ 6
  · have b64 : decide (1 ≤ n ∧ n ≤ 6) = true := decide_eq_true h1
    have c1 : 30 < (l.length : Int) := by omega
    refine body_s ([Ans.o (Orc.val 10 (AV.bool true) (H.mk [] [] [])), Ans.o (Orc.b true)]) (aCall (Sof [c64.to]) (AV.fn (Fn.func (64 : Nat)) [] []) [I n] (H.mk [] [] []) = some (AV.bool true, H.mk [] [] []) ∧ (30 : Int) < (↑l.length : Int) ∧ (AV.tup [AV.sl [] (0 : Nat) Room.nil, I 2], H.mk [] [] []) = (AV.tup [AV.sl [] (0 : Nat) Room.nil, I 2], H.mk [] [] [])) (by kernel_rfl) ?_
    refine ⟨acall_b (acall_hit (c := c64.to) n _ rfl t64) b64, ?_⟩
    refine ⟨by first | with_reducible assumption | omega | assumption, ?_⟩
    rfl
  · have b64 : decide (1 ≤ n ∧ n ≤ 6) = false := decide_eq_false h1
    refine body_s ([Ans.o (Orc.val 10 (AV.bool false) (H.mk [] [] []))]) (aCall (Sof [c64.to]) (AV.fn (Fn.func (64 : Nat)) [] []) [I n] (H.mk [] [] []) = some (AV.bool false, H.mk [] [] []) ∧ (AV.tup [AV.sl [] (0 : Nat) Room.nil, I 2], H.mk [] [] []) = (AV.tup [AV.sl [] (0 : Nat) Room.nil, I 2], H.mk [] [] [])) (by kernel_rfl) ?_
    refine ⟨acall_b (acall_hit (c := c64.to) n _ rfl t64) b64, ?_⟩
    rfl
/-- n elements and pairs of them -/
abbrev clOK (n : Int) (l : List Pr) : Prop := ((1 ≤ n ∧ n ≤ 6) ∧ l.length ≤ 30) ∧ prA n.toNat l
theorem pz_wk (n : Int) (l : List Pr) (r : Room) : AV.bnds 0 0 0 [AV.wk (I n), AV.wk (pz l r)] = true := by
  simp [AV.bnds, AV.bnd, AV.wk, rm_wk_bnd]
noncomputable def c17t : PCtr Try.prog := sctr ok17 (X := Nat × List Pr × Room) (fun x => [I x.1, pz x.2.1 x.2.2]) (fun x => (clOK x.1 x.2.1 ∧ Irr (clR x.1 x.2.1)) ∧ rok x.2.1 x.2.2) (fun x => .tup [ls (rl x.1 (clR x.1 x.2.1)) .full, I 0])
  (by rintro ⟨n, l, r⟩ ⟨m, k, s⟩ e _ _; simp only [List.cons.injEq, AV.int.injEq, AV.sl.injEq, true_and, and_true, Int.natCast_inj] at e; obtain ⟨rfl, e, _⟩ := e; rw [pairsA_inj e]) (fun x => pz_wk _ _ _) (fun x => by simp [AV.bnd, AV.bnds, Room.bnd])
  (fun x hx => ⟨_, _, _, .pure _ (.pure _ (.pure _ (.pure _ (.pure _ .nil)))), r17t x.1 x.2.1 x.2.2 (by have := hx.1.1.1; omega) (by have := hx.1.1.1; omega) hx.1.1.1.2 (by simpa using hx.2) hx.1.1.2 hx.1.2⟩)
noncomputable def c17n : PCtr Try.prog := sctr ok17 (X := Nat × List Pr × Room) (fun x => [I x.1, pz x.2.1 x.2.2]) (fun x => (clOK x.1 x.2.1 ∧ ¬ Irr (clR x.1 x.2.1)) ∧ rok x.2.1 x.2.2) (fun x => .tup [.sl [] 0 .nil, I 4])
  (fun _ _ _ _ _ => rfl) (fun x => pz_wk _ _ _) (fun x => rfl)
  (fun x hx => ⟨_, _, _, .pure _ (.pure _ (.pure _ (.pure _ (.pure _ .nil)))), r17n x.1 x.2.1 x.2.2 (by have := hx.1.1.1; omega) (by have := hx.1.1.1; omega) hx.1.1.1.2 (by simpa using hx.2) hx.1.1.2 hx.1.2⟩)
open Classical in
noncomputable def c17f : PCtr Try.prog := sctr ok17 (X := Int × List Pr × Room) (fun x => [I x.1, pz x.2.1 x.2.2]) (fun x => ¬ clOK x.1 x.2.1 ∧ rok x.2.1 x.2.2) (fun x => .tup [.sl [] 0 .nil, I 2])
  (fun _ _ _ _ _ => rfl) (fun x => pz_wk _ _ _) (fun x => rfl)
  (fun x hx => if h : (1 ≤ x.1 ∧ x.1 ≤ 6) ∧ x.2.1.length ≤ 30 then by
      obtain ⟨n, l, r⟩ := x
      obtain ⟨N, rfl⟩ : ∃ N : Nat, n = N := ⟨n.toNat, by have := h.1.1; simp only at this; omega⟩
      exact ⟨_, _, _, .pure _ (.pure _ (.pure _ (.pure _ (.pure _ .nil)))), r17a N l r (by have := h.1; simp only at this; omega) (by have := h.1; simp only at this; omega) h.2 (by simpa using hx.2) (fun k => hx.1 ⟨h, k⟩)⟩
    else ⟨_, _, _, .pure _ .nil, r17z x.1 x.2.1 x.2.2 h⟩)
end Go.Proofs.Ord

