/- Layer 8: by the reference: sizes, tables, what is a family. -/
import Derived.Test.YtjobibaeklbkmaaDoorEdI
import Derived.Test.YtjobibaeklbkmaaDoorVm7
import Derived.KernelRfl
set_option linter.unusedSimpArgs false
set_option linter.unusedVariables false
set_option linter.unnecessarySimpa false
set_option maxHeartbeats 4000000
set_option maxRecDepth 100000
namespace Go.Proofs.Evd
open Go Go.VM
open Go.Proofs.Sur (W w_wrap w_nat w_inj w_eq0 w_and w_or w_andn w_shl w_shr neg_nat sub_nat tz tz_ok cl bits_cons bits_0 bits_len andn andn_bit andn_le i_wrap i_and i_or i_andn i_shl i_shr bit_01)

/-! ### the size of a set -/
/-! ### the sum -/
theorem ia_ic {l : List Nat} {i : Nat} (h : i < l.length) : ia (ic l) i = ((l.getD i 0 : Nat) : Int) := by
  simp [ic, List.getD_eq_getElem?_getD, h]
theorem take_s {l : List Nat} {i : Nat} (h : i < l.length) : l.take (i + 1) = l.take i ++ [l.getD i 0] := by
  rw [List.take_add_one, List.getElem?_eq_getElem h]
  simp [List.getD_eq_getElem?_getD, h]
/-- lists of sets below 64 -/
abbrev sml (l : List Nat) : Prop := ∀ i, i < l.length → l.getD i 0 < 64
theorem elts_sml (F : W) : sml (elts F) := fun i h => by
  have := Go.Proofs.Sur.mem_bits.1 (List.getElem_mem h)
  have := hs_lt this
  simpa [List.getD_eq_getElem?_getD, h] using this
@[simp] theorem lst_inj (F G : W) : (ic (elts F) = ic (elts G)) ↔ F = G := ⟨fun h => bits_inj (ic_inj h), fun h => h ▸ rfl⟩
/-! ### sets -/
theorem ok71 : FokM Tryd.prog none1 71 Tryd.f71 := ⟨mixed, by kernel_rfl, by kernel_rfl, by kernel_rfl, by kernel_rfl⟩
theorem r71 (n : Int) (hp : True) : Body ⟨Tryd.prog, Sof (P := Tryd.prog) [], Pof (P := Tryd.prog) [], H.nil.base, 300⟩ none1 Tryd.f71 [I n] .nil (.bool (decide (1 ≤ n ∧ n ≤ 6)), .nil) := by
  refine body_s ([Ans.fork [Ans.fork [] []] []]) (((1 : Int) ≤ n → (n ≤ (6 : Int) → (AV.bool true, H.mk [] [] []) = (AV.bool (decide ((1 : Int) ≤ n ∧ n ≤ (6 : Int))), H.mk [] [] [])) ∧ ((6 : Int) < n → (AV.bool false, H.mk [] [] []) = (AV.bool (decide ((1 : Int) ≤ n ∧ n ≤ (6 : Int))), H.mk [] [] []))) ∧ (n < (1 : Int) → (AV.bool false, H.mk [] [] []) = (AV.bool (decide ((1 : Int) ≤ n ∧ n ≤ (6 : Int))), H.mk [] [] []))) (by kernel_rfl) ?_
  refine And.intro ?_ ?_
  · skip
    intro w0
    refine And.intro ?_ ?_
    · skip
      intro w1
      first | with_reducible rfl | (refine bleaf_t ?_; omega) | (refine bleaf_f ?_; omega) | (refine ileaf ?_; omega) | rfl | (exfalso; omega)
    · skip
      intro w1
      first | with_reducible rfl | (refine bleaf_t ?_; omega) | (refine bleaf_f ?_; omega) | (refine ileaf ?_; omega) | rfl | (exfalso; omega)
  · skip
    intro w0
    first | with_reducible rfl | (refine bleaf_t ?_; omega) | (refine bleaf_f ?_; omega) | (refine ileaf ?_; omega) | rfl | (exfalso; omega)
noncomputable def c71 : PCtr Tryd.prog := sctr ok71 (X := Int) (fun x => [I x]) (fun x => True) (fun x => .bool (decide (1 ≤ x ∧ x ≤ 6))) (by intro x y e _ _; simp [Int.natCast_inj] at e; simp [e]) (fun x => by simp [AV.bnds, AV.bnd, AV.wk, rm_wk_bnd]) (fun x => by first | rfl | (simp [AV.bnd, rm_wk_bnd]; done)  | (simp [AV.bnd, AV.bnds, rm_wk_bnd]; done) | simp [AV.bnd, AV.bnds, Room.bnd, rm_wk_bnd]) (fun x hx => ⟨_, _, _, .nil, r71 (x) hx⟩)
abbrev o21 (n : Nat) (l : List Int) : List Out :=
  [.mk Unit .ret [4] (fun _ => ¬ oks n l) (fun _ => [.bool false]) (fun _ => .nil) (fun _ => []),
   .mk Unit (.exit 0) [] (fun _ => oks n l) (fun _ => []) (fun _ => .nil) (fun _ => [])]
theorem simp21 : allSimpleM none1 (loopAt Tryd.f21 0) = true := by kernel_rfl
theorem lp21 (n : Nat) (l : List Int) (r : Room) (hn : n ≤ 6) (h0 : lim l.length) (h1 : rok l r) :
    LoopS (En6 []) (loopAt Tryd.f21 0) 30 [0, 15, 16, 17] [I n, ls l r, I l.length, I 0] .nil (o21 n l) := by
  have hR : Rests (En6 []) none1 := rests mixed .nil
  refine loop_s hR simp21 none (by intro _ h; cases h) (fun j vs h => h = .nil ∧ vs = [I n, ls l r, I l.length, I j] ∧ ∀ i, i < j → 0 ≤ ia l i ∧ ia l i < ((2 ^ n : Nat) : Int)) l.length ⟨rfl, rfl, fun i hi => absurd hi (Nat.not_lt_zero _)⟩ (by intro _ h; cases h) ?_
  rintro j vs h hj ⟨rfl, rfl, hI⟩
  have ev0 := pw_shl (n := n) (by omega)
  by_cases hz : (j : Int) < l.length
  · have hz' : j < l.length := by omega
    have hr := rok_idx h1 hz'
    have ev1 : IntKind.i64.wrap ((j : Int) + 1) = ((j + 1 : Nat) : Int) := by rw [wr _ (by omega) (by omega)]; omega
    by_cases hq : 0 ≤ ia l j ∧ ia l j < ((2 ^ n : Nat) : Int)
    · obtain ⟨q1, q2⟩ := hq
      have hI' : ∀ i, i < j + 1 → 0 ≤ ia l i ∧ ia l i < ((2 ^ n : Nat) : Int) := fun i hi => by
        by_cases e : i = j
        · subst e; exact ⟨q1, q2⟩
        · exact hI i (by omega)
      refine ⟨[Ans.o (Orc.b true), Ans.o (Orc.val 19 (AV.cptr (ints (List.drop j l))) H.nil), Ans.o (Orc.val 20 (I (l.getD j i0)) H.nil), Ans.o (Orc.b false), Ans.o (Orc.val 26 (I (↑((2 : Nat) ^ n) : Int)) H.nil), Ans.o (Orc.b false), Ans.o (Orc.val 29 (I (↑(j + (1 : Nat)) : Int)) H.nil)], fun u => of_eq ((↑j : Int) < (↑l.length : Int) ∧ aIndexAddr Tryd.prog (22 : Nat) (AV.sl (ints l) l.length r) (I (↑j : Int)) = some (AV.cptr (ints (List.drop j l))) ∧ aLoad Tryd.prog (3 : Nat) (ints (List.drop j l)) = some (I (l.getD j i0)) ∧ (0 : Int) ≤ l.getD j i0 ∧ aBin Tryd.prog BinOp.shl (3 : Nat) (I 1) (I (↑n : Int)) = some (I (↑((2 : Nat) ^ n) : Int)) ∧ l.getD j i0 < (↑((2 : Nat) ^ n) : Int) ∧ aBin Tryd.prog BinOp.add (3 : Nat) (I (↑j : Int)) (I 1) = some (I (↑(j + (1 : Nat)) : Int)) ∧ (30 : Nat) = (30 : Nat) ∧ j < l.length ∧ Keep (H.mk [] [] [] = H.mk [] [] [] ∧ [I (↑n : Int), AV.sl (ints l) l.length r, I (↑l.length : Int), I (↑(j + (1 : Nat)) : Int)] = [I (↑n : Int), AV.sl (ints l) l.length r, I (↑l.length : Int), I (↑(j + (1 : Nat)) : Int)] ∧ ∀ (i : Nat), i < j + (1 : Nat) → (0 : Int) ≤ ia l i ∧ ia l i < (↑((2 : Nat) ^ n) : Int))) (by kernel_rfl) ?_⟩
      refine ⟨by first | with_reducible assumption | omega | assumption, ?_⟩
      refine ⟨ix_ints (by kernel_rfl) (by omega) hr, ?_⟩
      refine ⟨by first | exact ld_ints (by kernel_rfl) (by kernel_rfl) (by omega) | exact ldm_ints (by kernel_rfl) (by kernel_rfl) (by first | omega | (simp; omega)), ?_⟩
      refine ⟨by first | with_reducible assumption | omega | assumption, ?_⟩
      refine ⟨by first | exact told_shl (by first | exact Int.natCast_nonneg _ | omega) (by with_reducible assumption) | exact told_shl (by omega) rfl, ?_⟩
      refine ⟨by first | with_reducible assumption | omega | assumption, ?_⟩
      refine ⟨told_add (by with_reducible assumption), ?_⟩
      refine ⟨by first | with_reducible assumption | omega | assumption, ?_⟩
      refine ⟨by first | with_reducible assumption | omega | assumption, ?_⟩
      exact ⟨rfl, rfl, hI'⟩
    · have hbad : ¬ oks n l := fun h => hq (h j hz')
      by_cases q1 : ia l j < 0
      · refine ⟨[Ans.o (Orc.b true), Ans.o (Orc.val 19 (AV.cptr (ints (List.drop j l))) H.nil), Ans.o (Orc.val 20 (I (l.getD j i0)) H.nil), Ans.o (Orc.b true)], fun u => of_eq ((↑j : Int) < (↑l.length : Int) ∧ aIndexAddr Tryd.prog (22 : Nat) (AV.sl (ints l) l.length r) (I (↑j : Int)) = some (AV.cptr (ints (List.drop j l))) ∧ aLoad Tryd.prog (3 : Nat) (ints (List.drop j l)) = some (I (l.getD j i0)) ∧ l.getD j i0 < (0 : Int) ∧ (30 : Nat) = (30 : Nat) ∧ hits [Out.mk Unit AX.ret [(4 : Nat)] (fun x => ¬oks n l) (fun x => [AV.bool false]) (fun x => H.nil) fun x => [], Out.mk Unit (AX.exit (0 : Nat)) [] (fun x => oks n l) (fun x => []) (fun x => H.nil) fun x => []] AX.ret [I (↑n : Int), u (1 : Nat), u (2 : Nat), u (3 : Nat), AV.bool false, u (5 : Nat), I (l.getD j i0), u (7 : Nat), u (8 : Nat), u (9 : Nat), u (10 : Nat), u (11 : Nat), u (12 : Nat), u (13 : Nat), u (14 : Nat), AV.sl (ints l) l.length r, I (↑l.length : Int), I (↑j : Int), AV.bool true, AV.cptr (ints (List.drop j l)), I (l.getD j i0), I (l.getD j i0), AV.bool true, AV.bool true, AV.tup [], AV.tup [], AV.tup [], AV.tup [], AV.bool true, u (29 : Nat)] (H.mk [] [] [])) (by kernel_rfl) ?_⟩
        refine ⟨by first | with_reducible assumption | omega | assumption, ?_⟩
        refine ⟨ix_ints (by kernel_rfl) (by omega) hr, ?_⟩
        refine ⟨by first | exact ld_ints (by kernel_rfl) (by kernel_rfl) (by omega) | exact ldm_ints (by kernel_rfl) (by kernel_rfl) (by first | omega | (simp; omega)), ?_⟩
        refine ⟨by first | with_reducible assumption | omega | assumption, ?_⟩
        refine ⟨by first | with_reducible assumption | omega | assumption, ?_⟩
        exact .inl ⟨(), hbad, rfl, rfl, rfl⟩
      · have q1 : 0 ≤ ia l j := by omega
        have q2 : ((2 ^ n : Nat) : Int) ≤ ia l j := by omega
        refine ⟨[Ans.o (Orc.b true), Ans.o (Orc.val 19 (AV.cptr (ints (List.drop j l))) H.nil), Ans.o (Orc.val 20 (I (l.getD j i0)) H.nil), Ans.o (Orc.b false), Ans.o (Orc.val 26 (I (↑((2 : Nat) ^ n) : Int)) H.nil), Ans.o (Orc.b true)], fun u => of_eq ((↑j : Int) < (↑l.length : Int) ∧ aIndexAddr Tryd.prog (22 : Nat) (AV.sl (ints l) l.length r) (I (↑j : Int)) = some (AV.cptr (ints (List.drop j l))) ∧ aLoad Tryd.prog (3 : Nat) (ints (List.drop j l)) = some (I (l.getD j i0)) ∧ (0 : Int) ≤ l.getD j i0 ∧ aBin Tryd.prog BinOp.shl (3 : Nat) (I 1) (I (↑n : Int)) = some (I (↑((2 : Nat) ^ n) : Int)) ∧ (↑((2 : Nat) ^ n) : Int) ≤ l.getD j i0 ∧ (30 : Nat) = (30 : Nat) ∧ hits [Out.mk Unit AX.ret [(4 : Nat)] (fun x => ¬oks n l) (fun x => [AV.bool false]) (fun x => H.nil) fun x => [], Out.mk Unit (AX.exit (0 : Nat)) [] (fun x => oks n l) (fun x => []) (fun x => H.nil) fun x => []] AX.ret [I (↑n : Int), u (1 : Nat), u (2 : Nat), u (3 : Nat), AV.bool false, u (5 : Nat), I (l.getD j i0), u (7 : Nat), u (8 : Nat), u (9 : Nat), u (10 : Nat), u (11 : Nat), u (12 : Nat), u (13 : Nat), u (14 : Nat), AV.sl (ints l) l.length r, I (↑l.length : Int), I (↑j : Int), AV.bool true, AV.cptr (ints (List.drop j l)), I (l.getD j i0), I (l.getD j i0), AV.bool false, AV.bool false, I (l.getD j i0), I (↑n : Int), I (↑((2 : Nat) ^ n) : Int), AV.bool true, AV.bool true, u (29 : Nat)] (H.mk [] [] [])) (by kernel_rfl) ?_⟩
        refine ⟨by first | with_reducible assumption | omega | assumption, ?_⟩
        refine ⟨ix_ints (by kernel_rfl) (by omega) hr, ?_⟩
        refine ⟨by first | exact ld_ints (by kernel_rfl) (by kernel_rfl) (by omega) | exact ldm_ints (by kernel_rfl) (by kernel_rfl) (by first | omega | (simp; omega)), ?_⟩
        refine ⟨by first | with_reducible assumption | omega | assumption, ?_⟩
        refine ⟨by first | exact told_shl (by first | exact Int.natCast_nonneg _ | omega) (by with_reducible assumption) | exact told_shl (by omega) rfl, ?_⟩
        refine ⟨by first | with_reducible assumption | omega | assumption, ?_⟩
        refine ⟨by first | with_reducible assumption | omega | assumption, ?_⟩
        exact .inl ⟨(), hbad, rfl, rfl, rfl⟩
  · have hz : (l.length : Int) ≤ j := by omega
    have hj' : j = l.length := by omega
    subst hj'
    refine ⟨[Ans.o (Orc.b false)], fun u => of_eq ((↑l.length : Int) ≤ (↑l.length : Int) ∧ (30 : Nat) = (30 : Nat) ∧ hits [Out.mk Unit AX.ret [(4 : Nat)] (fun x => ¬oks n l) (fun x => [AV.bool false]) (fun x => H.nil) fun x => [], Out.mk Unit (AX.exit (0 : Nat)) [] (fun x => oks n l) (fun x => []) (fun x => H.nil) fun x => []] (AX.exit (0 : Nat)) [I (↑n : Int), u (1 : Nat), u (2 : Nat), u (3 : Nat), u (4 : Nat), u (5 : Nat), u (6 : Nat), u (7 : Nat), u (8 : Nat), u (9 : Nat), u (10 : Nat), u (11 : Nat), u (12 : Nat), u (13 : Nat), u (14 : Nat), AV.sl (ints l) l.length r, I (↑l.length : Int), I (↑l.length : Int), AV.bool false, u (19 : Nat), u (20 : Nat), u (21 : Nat), u (22 : Nat), u (23 : Nat), u (24 : Nat), u (25 : Nat), u (26 : Nat), u (27 : Nat), u (28 : Nat), u (29 : Nat)] (H.mk [] [] [])) (by kernel_rfl) ?_⟩
    refine ⟨by first | with_reducible assumption | omega | assumption, ?_⟩
    refine ⟨by first | with_reducible assumption | omega | assumption, ?_⟩
    exact .inr (.inl ⟨(), hI, rfl, rfl, rfl⟩)
theorem ok21 : FokM Tryd.prog none1 21 Tryd.f21 := ⟨mixed, by kernel_rfl, by kernel_rfl, by kernel_rfl, by kernel_rfl⟩
open Classical in
theorem r21 (n : Int) (l : List Int) (r : Room) (h0 : lim l.length) (h1 : rok l r) : Body (En6 [c71.to]) none1 Tryd.f21 [I n, ls l r] .nil (.bool (gB n l), .nil) := by
  by_cases hn : 1 ≤ n ∧ n ≤ 6
  · have hd : decide (1 ≤ n ∧ n ≤ 6) = true := decide_eq_true hn
    obtain ⟨k, rfl⟩ : ∃ k : Nat, n = k := ⟨n.toNat, by omega⟩
    by_cases hl : l.length ≤ 64
    · have hlp := lp21 k l r (by omega) h0 h1
      have hT : oks k l → gB k l = true := fun h => decide_eq_true ⟨hn, hl, h⟩
      have hF : ¬ oks k l → gB k l = false := fun h => decide_eq_false fun q => h q.2.2
      refine body_s ([Ans.o (Orc.val 8 (AV.bool true) (H.mk [] [] [])), Ans.fork [] [Ans.loop [(0 : Nat), (15 : Nat), (16 : Nat), (17 : Nat)] [Out.mk Unit AX.ret [(4 : Nat)] (fun x => ¬oks k l) (fun x => [AV.bool false]) (fun x => H.nil) fun y => [], Out.mk Unit (AX.exit (0 : Nat)) [] (fun x => oks k l) (fun x => []) (fun x => H.nil) fun y => []]]]) (aCall (Sof [c71.to]) (AV.fn (Fn.func (71 : Nat)) [] []) [I (↑k : Int)] (H.mk [] [] []) = some (AV.bool true, H.mk [] [] []) ∧ ((64 : Int) < (↑l.length : Int) → (AV.bool false, H.mk [] [] []) = (AV.bool (gB (↑k : Int) l), H.mk [] [] [])) ∧ ((↑l.length : Int) ≤ (64 : Int) → LoopS (Env.mk Tryd.prog (Sof [c71.to]) (Pof (P := Tryd.prog) []) H.nil.base (300 : Nat)) (loopAt Tryd.f21 (0 : Nat)) (30 : Nat) [(0 : Nat), (15 : Nat), (16 : Nat), (17 : Nat)] [I (↑k : Int), AV.sl (ints l) l.length r, I (↑l.length : Int), I 0] (H.mk [] [] []) [Out.mk Unit AX.ret [(4 : Nat)] (fun x => ¬oks k l) (fun x => [AV.bool false]) (fun x => H.nil) fun y => [], Out.mk Unit (AX.exit (0 : Nat)) [] (fun x => oks k l) (fun x => []) (fun x => H.nil) fun y => []] ∧ (∀ (y : Unit), ¬oks k l → ∀ (u : Nat → AV), (AV.bool false, H.mk [] [] []) = (AV.bool (gB (↑k : Int) l), H.mk [] [] [])) ∧ (∀ (y : Unit), (∀ (i : Nat), i < l.length → (0 : Int) ≤ ia l i ∧ ia l i < (↑((2 : Nat) ^ k) : Int)) → ∀ (u : Nat → AV), (AV.bool true, H.mk [] [] []) = (AV.bool (gB (↑k : Int) l), H.mk [] [] [])) ∧ True)) (by kernel_rfl) ?_
      refine ⟨acall_b (acall_hit (c := c71.to) (k : Int) _ rfl trivial) hd, ?_⟩
      refine And.intro ?_ ?_
      · skip
        intro w0
        first | (rw [hT (by assumption)]) | (rw [hF (by assumption)]) | (exfalso; omega)
      · skip
        intro w0
        refine ⟨hlp, ?_⟩
        refine And.intro ?_ ?_
        · skip
          intro y
          intro w2
          intro u
          first | (rw [hT (by assumption)]) | (rw [hF (by assumption)]) | (exfalso; omega)
        · skip
          refine And.intro ?_ ?_
          · skip
            intro y
            intro w2
            intro u
            first | (rw [hT (by assumption)]) | (rw [hF (by assumption)]) | (exfalso; omega)
          · skip
            trivial
    · have hl' : (64 : Int) < l.length := by omega
      have hF : gB k l = false := decide_eq_false fun q => hl q.2.1
      rw [hF]
      refine body_s ([Ans.o (Orc.val 8 (AV.bool true) (H.mk [] [] [])), Ans.o (Orc.b true)]) (aCall (Sof [c71.to]) (AV.fn (Fn.func (71 : Nat)) [] []) [I (↑k : Int)] (H.mk [] [] []) = some (AV.bool true, H.mk [] [] []) ∧ (64 : Int) < (↑l.length : Int) ∧ (AV.bool false, H.mk [] [] []) = (AV.bool false, H.mk [] [] [])) (by kernel_rfl) ?_
      refine ⟨acall_b (acall_hit (c := c71.to) (k : Int) _ rfl trivial) hd, ?_⟩
      refine ⟨by first | with_reducible assumption | omega | assumption, ?_⟩
      first | with_reducible rfl | (refine bleaf_t ?_; omega) | (refine bleaf_f ?_; omega) | (refine ileaf ?_; omega) | rfl | (exfalso; omega)
  · have hd : decide (1 ≤ n ∧ n ≤ 6) = false := decide_eq_false hn
    have hF : gB n l = false := decide_eq_false fun q => hn q.1
    rw [hF]
    refine body_s ([Ans.o (Orc.val 8 (AV.bool false) (H.mk [] [] []))]) (aCall (Sof [c71.to]) (AV.fn (Fn.func (71 : Nat)) [] []) [I n] (H.mk [] [] []) = some (AV.bool false, H.mk [] [] []) ∧ (AV.bool false, H.mk [] [] []) = (AV.bool false, H.mk [] [] [])) (by kernel_rfl) ?_
    refine ⟨acall_b (acall_hit (c := c71.to) n _ rfl trivial) hd, ?_⟩
    first | with_reducible rfl | (refine bleaf_t ?_; omega) | (refine bleaf_f ?_; omega) | (refine ileaf ?_; omega) | rfl | (exfalso; omega)
noncomputable def c21 : PCtr Tryd.prog := sctr ok21 (X := Int × List Int × Room) (fun x => [I x.1, ls x.2.1 x.2.2]) (fun x => lim x.2.1.length ∧ rok x.2.1 x.2.2) (fun x => .bool (gB x.1 x.2.1))
  (by rintro ⟨a, b, c⟩ ⟨a', b', c'⟩ e _ _; simp at e; simp only [e.1, e.2.1]) (fun x => by simp [AV.bnds, AV.bnd, AV.wk, rm_wk_bnd]) (fun _ => rfl) (fun x hx => ⟨_, _, _, .pure c71 .nil, r21 x.1 x.2.1 x.2.2.wk hx.1 (by simpa using hx.2)⟩)
/-! ### tables -/
/-- which sets a list has -/
def tabB (n : Nat) (l : List Int) : List Bool := (List.range (2 ^ n)).map fun s : Nat => decide ((s : Int) ∈ l)
@[simp] theorem tab_len (n : Nat) (l : List Int) : (tabB n l).length = 2 ^ n := by simp [tabB]
theorem tab_get {n : Nat} {l : List Int} {s : Nat} (h : s < 2 ^ n) : (tabB n l).getD s b0 = decide ((s : Int) ∈ l) := by
  simp [tabB, List.getD_eq_getElem?_getD, h]
theorem tab_nil (n : Nat) : tabB n [] = List.replicate (2 ^ n) b0 := by
  simp [tabB, List.map_const']
theorem ia_take {l : List Int} {j : Nat} (h : j < l.length) : l.take (j + 1) = l.take j ++ [ia l j] := by
  rw [List.take_add_one, List.getElem?_eq_getElem h]
  simp [List.getD_eq_getElem?_getD, List.getElem?_eq_getElem h]
theorem tab_set {n : Nat} {l : List Int} {j : Nat} (h : j < l.length) (hs : 0 ≤ ia l j) : (tabB n (l.take j)).set (ia l j).toNat true = tabB n (l.take (j + 1)) := by
  apply List.ext_getElem
  · simp
  · intro i h1 h2
    simp only [tabB, List.getElem_set, List.getElem_map, List.getElem_range, ia_take h, List.mem_append, List.mem_singleton]
    by_cases e : (ia l j).toNat = i
    · rw [if_pos e]
      have : (i : Int) = ia l j := by omega
      simp [this]
    · rw [if_neg e]
      have : ¬ (i : Int) = ia l j := by omega
      simp only [this, or_false]
abbrev h73 (n : Nat) (l : List Int) : H := ⟨[bools (tabB n l)], [], []⟩
abbrev o73 (n : Nat) (l : List Int) : List Out := [.mk Unit (.exit 0) [5] (fun _ => True) (fun _ => [.msl 0 0 (2 ^ n) (2 ^ n) 1]) (fun _ => h73 n l) (fun _ => [])]
theorem simp73 : allSimpleM none1 (loopAt Tryd.f73 0) = true := by kernel_rfl
theorem lp73 (n : Nat) (l : List Int) (r : Room) (h0 : lim l.length) (h1 : rok l r) (h2 : oks n l) :
    LoopS (En6 []) (loopAt Tryd.f73 0) 22 [5, 11, 12, 13] [.msl 0 0 (2 ^ n) (2 ^ n) 1, ls l r, I l.length, I 0] (h73 n []) (o73 n l) := by
  have hR : Rests (En6 []) none1 := rests mixed .nil
  refine loop_s hR simp73 none (by intro _ h; cases h) (fun j vs h => h = h73 n (l.take j) ∧ vs = [.msl 0 0 (2 ^ n) (2 ^ n) 1, ls l r, I l.length, I j]) l.length ⟨rfl, rfl⟩ (by intro _ h; cases h) ?_
  rintro j vs h hj ⟨rfl, rfl⟩
  by_cases hz : (j : Int) < l.length
  · have hz' : j < l.length := by omega
    have hr := rok_idx h1 hz'
    obtain ⟨q1, q2⟩ := h2 j hz'
    have hs := tab_set (n := n) hz' q1
    have hn : (ia l j).toNat < 2 ^ n := by omega
    have hn2 : (ia l j).toNat < (tabB n (l.take j)).length := by rw [tab_len]; exact hn
    have e1 : ia l j = (((ia l j).toNat : Nat) : Int) := by omega
    refine ⟨[Ans.o (Orc.b true), Ans.o (Orc.val 15 (AV.cptr (ints (List.drop j l))) H.nil), Ans.o (Orc.val 16 (I (l.getD j i0)) H.nil), Ans.o (Orc.val 19 (AV.ptr 0 (l.getD j i0).toNat) H.nil), Ans.o (Orc.val 9999 (AV.tup []) (H.mk [bools ((tabB n (List.take j l)).set (l.getD j i0).toNat true)] [] []))], fun u => of_eq ((↑j : Int) < (↑l.length : Int) ∧ aIndexAddr Tryd.prog (22 : Nat) (AV.sl (ints l) l.length r) (I (↑j : Int)) = some (AV.cptr (ints (List.drop j l))) ∧ aLoad Tryd.prog (3 : Nat) (ints (List.drop j l)) = some (I (l.getD j i0)) ∧ aIndexAddr Tryd.prog (84 : Nat) (AV.msl 0 0 ((2 : Nat) ^ n) ((2 : Nat) ^ n) (1 : Nat)) (I (l.getD j i0)) = some (AV.ptr 0 (l.getD j i0).toNat) ∧ aStore Tryd.prog H.nil.base (4 : Nat) (AV.ptr 0 (l.getD j i0).toNat) (AV.bool true) (H.mk [bools (tabB n (List.take j l))] [] []) = some (H.mk [bools ((tabB n (List.take j l)).set (l.getD j i0).toNat true)] [] []) ∧ IntKind.i64.wrap ((↑j : Int) + (1 : Int)) = (↑j : Int) + (1 : Int) ∧ (22 : Nat) = (22 : Nat) ∧ j < l.length ∧ Keep (H.mk [bools ((tabB n (List.take j l)).set (l.getD j i0).toNat true)] [] [] = H.mk [bools (tabB n (List.take (j + (1 : Nat)) l))] [] [] ∧ [AV.msl 0 0 ((2 : Nat) ^ n) ((2 : Nat) ^ n) (1 : Nat), AV.sl (ints l) l.length r, I (↑l.length : Int), I ((↑j : Int) + (1 : Int))] = [AV.msl 0 0 ((2 : Nat) ^ n) ((2 : Nat) ^ n) (1 : Nat), AV.sl (ints l) l.length r, I (↑l.length : Int), I (↑(j + (1 : Nat)) : Int)])) (by kernel_rfl) ?_⟩
    refine ⟨by first | with_reducible assumption | omega | assumption, ?_⟩
    refine ⟨by first | exact ix_ints (by kernel_rfl) (by omega) (by assumption) | exact ix_ints (by kernel_rfl) (by omega) (rok_idx (by assumption) (by omega)), ?_⟩
    refine ⟨by first | exact ld_ints (by kernel_rfl) (by kernel_rfl) (by omega) | exact ldm_ints (by kernel_rfl) (by kernel_rfl) (by first | omega | (simp; omega)), ?_⟩
    refine ⟨by first | exact ix_ints (by kernel_rfl) (by omega) hr | exact ixm0_int (by kernel_rfl) q1 q2, ?_⟩
    refine ⟨by first | exact st_bools (by kernel_rfl) rfl (by first | omega | (simp; omega) | (simp at *; omega)) | exact st_u64s (by kernel_rfl) rfl (by first | omega | (simp; omega) | (simp at *; omega)) | exact st_ints (by kernel_rfl) rfl (by first | omega | (simp; omega) | (simp at *; omega)), ?_⟩
    refine ⟨wr _ (by omega) (by omega), ?_⟩
    refine ⟨by first | with_reducible assumption | omega | assumption, ?_⟩
    refine ⟨by first | with_reducible assumption | omega | assumption, ?_⟩
    exact ⟨by rw [← hs], rfl⟩
  · have hz : (l.length : Int) ≤ j := by omega
    have hj' : j = l.length := by omega
    subst hj'
    refine ⟨[Ans.o (Orc.b false)], fun u => of_eq ((↑l.length : Int) ≤ (↑l.length : Int) ∧ (22 : Nat) = (22 : Nat) ∧ hits [Out.mk Unit (AX.exit (0 : Nat)) [(5 : Nat)] (fun x => True) (fun x => [AV.msl 0 0 ((2 : Nat) ^ n) ((2 : Nat) ^ n) (1 : Nat)]) (fun x => h73 n l) fun x => []] (AX.exit (0 : Nat)) [u (0 : Nat), u (1 : Nat), u (2 : Nat), u (3 : Nat), u (4 : Nat), AV.msl 0 0 ((2 : Nat) ^ n) ((2 : Nat) ^ n) (1 : Nat), u (6 : Nat), u (7 : Nat), u (8 : Nat), u (9 : Nat), u (10 : Nat), AV.sl (ints l) l.length r, I (↑l.length : Int), I (↑l.length : Int), AV.bool false, u (15 : Nat), u (16 : Nat), u (17 : Nat), u (18 : Nat), u (19 : Nat), u (20 : Nat), u (21 : Nat)] (H.mk [bools (tabB n (List.take l.length l))] [] [])) (by kernel_rfl) ?_⟩
    refine ⟨by first | with_reducible assumption | omega | assumption, ?_⟩
    refine ⟨by first | with_reducible assumption | omega | assumption, ?_⟩
    exact .inl ⟨(), trivial, rfl, rfl, by rw [List.take_length]⟩
@[simp] theorem plains_bools (l : List Bool) : AV.plains (bools l) = true := enc_plains boolA_c1 l
@[simp] theorem wkds_bools (l : List Bool) : AV.wkds (bools l) = bools l := enc_wkds boolA_c1 l
theorem ok73 : FokM Tryd.prog none1 73 Tryd.f73 := ⟨mixed, by kernel_rfl, by kernel_rfl, by kernel_rfl, by kernel_rfl⟩
theorem r73 (n : Nat) (l : List Int) (r : Room) (hp : (n ≤ 6 ∧ lim l.length) ∧ rok l r ∧ oks n l) : Body ⟨Tryd.prog, Sof (P := Tryd.prog) [], Pof (P := Tryd.prog) [], H.nil.base, 300⟩ none1 Tryd.f73 [I n, ls l r] .nil (.sl (bools (tabB n l)) (2 ^ n) .full, ⟨[], [], []⟩) := by
  obtain ⟨⟨hn, h0⟩, h1, h2⟩ := hp
  have ev0 := pw_shl (n := n) (by omega)
  have hp := p64 hn
  have hlp := lp73 n l r h0 h1 h2
  have hb : 2 ^ n ≤ 1000000000 := by omega
  rw [show h73 n [] = ⟨[bools (List.replicate (2 ^ n) b0)], [], []⟩ by rw [h73, tab_nil]] at hlp
  refine body_s ([Ans.o (Orc.val 9 (I (↑((2 : Nat) ^ n) : Int)) H.nil), Ans.o (Orc.val 10 (AV.msl 0 0 ((2 : Nat) ^ n) ((2 : Nat) ^ n) (1 : Nat)) (H.mk [bools (List.replicate ((2 : Nat) ^ n) b0)] [] [])), Ans.loop [(5 : Nat), (11 : Nat), (12 : Nat), (13 : Nat)] [Out.mk Unit (AX.exit (0 : Nat)) [(5 : Nat)] (fun x => True) (fun x => [AV.msl 0 0 ((2 : Nat) ^ n) ((2 : Nat) ^ n) (1 : Nat)]) (fun x => h73 n l) fun y => []]]) (aBin Tryd.prog BinOp.shl (3 : Nat) (I 1) (I (↑n : Int)) = some (I (↑((2 : Nat) ^ n) : Int)) ∧ aMake Tryd.prog (84 : Nat) (↑((2 : Nat) ^ n) : Int) (↑((2 : Nat) ^ n) : Int) (H.mk [] [] []) = some (AV.msl 0 0 ((2 : Nat) ^ n) ((2 : Nat) ^ n) (1 : Nat), H.mk [bools (List.replicate ((2 : Nat) ^ n) b0)] [] []) ∧ LoopS (Env.mk Tryd.prog (Sof (P := Tryd.prog) []) (Pof (P := Tryd.prog) []) H.nil.base (300 : Nat)) (loopAt Tryd.f73 (0 : Nat)) (22 : Nat) [(5 : Nat), (11 : Nat), (12 : Nat), (13 : Nat)] [AV.msl 0 0 ((2 : Nat) ^ n) ((2 : Nat) ^ n) (1 : Nat), AV.sl (ints l) l.length r, I (↑l.length : Int), I 0] (H.mk [bools (List.replicate ((2 : Nat) ^ n) b0)] [] []) [Out.mk Unit (AX.exit (0 : Nat)) [(5 : Nat)] (fun x => True) (fun x => [AV.msl 0 0 ((2 : Nat) ^ n) ((2 : Nat) ^ n) (1 : Nat)]) (fun x => h73 n l) fun y => []] ∧ (∀ (y : Unit), True → ∀ (u : Nat → AV), leave (Base.mk H.nil.blk.length H.nil.toks.length H.nil.maps.length) (AV.msl 0 0 ((2 : Nat) ^ n) ((2 : Nat) ^ n) (1 : Nat)) (H.mk [bools (tabB n l)] [] []) = (AV.sl (bools (tabB n l)) ((2 : Nat) ^ n) Room.full, H.mk [] [] [])) ∧ True) (by kernel_rfl) ?_
  refine ⟨by first | exact told_shl (by first | exact Int.natCast_nonneg _ | omega) (by with_reducible assumption) | exact told_shl (by omega) rfl, ?_⟩
  refine ⟨by first | exact mk_u64s (by kernel_rfl) (by omega) | exact mk_ints (by kernel_rfl) (by omega) | exact mk_bools (by kernel_rfl) (by omega), ?_⟩
  refine ⟨hlp, ?_⟩
  refine And.intro ?_ ?_
  · skip
    intro y
    intro w1
    intro u
    exact leave_boolsm (tab_len n l) rfl
  · skip
    trivial
noncomputable def c73 : PCtr Tryd.prog := slctr ok73 (X := Nat × List Int × Room) (fun x => [I x.1, ls x.2.1 x.2.2]) (fun x => (x.1 ≤ 6 ∧ lim x.2.1.length) ∧ rok x.2.1 x.2.2 ∧ oks x.1 x.2.1) (fun x => .sl (bools (tabB x.1 x.2.1)) (2 ^ x.1) .no) (by intro x y e _ _; simp [Int.natCast_inj] at e; simp [e]) (fun x => by simp [AV.bnds, AV.bnd, AV.wk, rm_wk_bnd]) (fun x => by first | rfl | (simp [AV.bnd, rm_wk_bnd]; done)  | (simp [AV.bnd, AV.bnds, rm_wk_bnd]; done) | simp [AV.bnd, AV.bnds, Room.bnd, rm_wk_bnd]) (fun x hx => ⟨_, _, _, .sl (bools (tabB x.1 x.2.1)) (2 ^ x.1) .full, [], .nil, r73 (x.1) (x.2.1) (x.2.2).wk (by first | exact hx | (simp only [rok_wk]; exact hx) | (simp only [rok_wk, lst_wk]; exact hx) | (simp only [rok_wk, lst_wk, lsn_wk]; exact hx)), by simp [AV.plain, AV.plains, plains_ints, plains_rows], by first | (simp only [AV.wkd, wkds_rows]; done) | (simp only [AV.wkd, wkds_ints]; done) | simp [AV.wkd, AV.wkds, Room.wk]⟩)
end Go.Proofs.Evd

