/- Layer 8: what is read: a family, or not. -/
import Derived.Test.YtjobibaeklbkmaaDoorEdD
import Derived.KernelRfl
set_option linter.unusedSimpArgs false
set_option linter.unusedVariables false
set_option linter.unnecessarySimpa false
set_option maxHeartbeats 4000000
set_option maxRecDepth 100000
namespace Go.Proofs.Evd
open Go Go.VM
open Go.Proofs.Sur (W w_wrap w_nat w_inj w_eq0 w_and w_or w_andn w_shl w_shr neg_nat sub_nat tz tz_ok cl bits_cons bits_0 bits_len andn andn_bit andn_le i_wrap i_and i_or i_andn i_shl i_shr bit_01)

/-- the elements are machine integers -/
abbrev rng (l : List Int) : Prop := ∀ i, i < l.length → -9223372036854775808 ≤ ia l i ∧ ia l i < 9223372036854775808
/-- sets of n elements -/
abbrev oks (n : Nat) (l : List Int) : Prop := ∀ i, i < l.length → 0 ≤ ia l i ∧ ia l i < ((2 ^ n : Nat) : Int)
def nl (l : List Int) : List Nat := l.map Int.toNat
theorem bv_out {s : Int} {n : Nat} (hn : n ≤ 6) (h1 : -9223372036854775808 ≤ s) (h2 : s < 9223372036854775808) (h : ¬ (0 ≤ s ∧ s < ((2 ^ n : Nat) : Int))) :
    IntKind.i64.wrap ((BitVec.ofInt IntKind.i64.bits s &&& ~~~BitVec.ofInt IntKind.i64.bits ((2 ^ n - 1 : Nat) : Int)).toNat : Int) ≠ 0 := by
  have hp := p64 hn
  have hp0 := Nat.two_pow_pos n
  have key : ∃ i, i < 64 ∧ (BitVec.ofInt 64 s).getLsbD i = true ∧ n ≤ i := by
    by_cases h0 : 0 ≤ s
    · obtain ⟨a, rfl⟩ : ∃ a : Nat, s = a := ⟨s.toNat, by omega⟩
      have ha : 2 ^ n ≤ a := by omega
      obtain ⟨i, g1, g2⟩ := Nat.exists_ge_and_testBit_of_ge_two_pow ha
      have hi : i < 64 := by
        refine Classical.byContradiction fun hc => ?_
        have : a.testBit i = false := Nat.testBit_lt_two_pow (Nat.lt_of_lt_of_le (show a < 2 ^ 64 by omega) (Nat.pow_le_pow_right (by decide) (by omega)))
        rw [this] at g2; cases g2
      refine ⟨i, hi, ?_, g1⟩
      rw [show BitVec.ofInt 64 ((a : Nat) : Int) = BitVec.ofNat 64 a from Go.Proofs.Sur.ofI a, BitVec.getLsbD_ofNat, g2]
      simp [hi]
    · refine ⟨63, by decide, ?_, by omega⟩
      have e : (BitVec.ofInt 64 s).toNat = (18446744073709551616 + s).toNat := by
        rw [BitVec.toNat_ofInt]
        omega
      rw [BitVec.getLsbD, e]
      have : (18446744073709551616 + s).toNat = 2 ^ 63 + ((18446744073709551616 + s).toNat - 2 ^ 63) := by omega
      rw [this, Nat.testBit_two_pow_add_eq, Nat.testBit_lt_two_pow (by omega)]; rfl
  obtain ⟨i, g1, g2, g3⟩ := key
  have hv : ((BitVec.ofInt 64 s &&& ~~~BitVec.ofInt 64 ((2 ^ n - 1 : Nat) : Int)).getLsbD i) = true := by
    rw [BitVec.getLsbD_and, BitVec.getLsbD_not, g2, Go.Proofs.Sur.ofI, BitVec.getLsbD_ofNat, Nat.testBit_two_pow_sub_one]
    simp [g1]; omega
  intro hz
  have hb := (BitVec.ofInt 64 s &&& ~~~BitVec.ofInt 64 ((2 ^ n - 1 : Nat) : Int)).isLt
  have h0 : (BitVec.ofInt 64 s &&& ~~~BitVec.ofInt 64 ((2 ^ n - 1 : Nat) : Int)).toNat = 0 := by
    have hz' : IntKind.i64.wrap ((BitVec.ofInt 64 s &&& ~~~BitVec.ofInt 64 ((2 ^ n - 1 : Nat) : Int)).toNat : Int) = 0 := hz
    generalize (BitVec.ofInt 64 s &&& ~~~BitVec.ofInt 64 ((2 ^ n - 1 : Nat) : Int)).toNat = v at hz' hb
    simp only [IntKind.wrap, IntKind.bits, IntKind.signed] at hz'
    simp at hz'
    omega
  have : (BitVec.ofInt 64 s &&& ~~~BitVec.ofInt 64 ((2 ^ n - 1 : Nat) : Int)) = 0#64 := BitVec.eq_of_toNat_eq h0
  rw [this] at hv; simp at hv
theorem bv_in {s : Int} {n : Nat} (hn : n ≤ 6) (h : 0 ≤ s ∧ s < ((2 ^ n : Nat) : Int)) :
    IntKind.i64.wrap ((BitVec.ofInt IntKind.i64.bits s &&& ~~~BitVec.ofInt IntKind.i64.bits ((2 ^ n - 1 : Nat) : Int)).toNat : Int) = 0 := by
  obtain ⟨a, rfl⟩ : ∃ a : Nat, s = a := ⟨s.toNat, by omega⟩
  have hp := p64 hn
  have hp0 := Nat.two_pow_pos n
  rw [i_andn (by omega)]
  have : andn a (2 ^ n - 1) = 0 := by
    apply Nat.eq_of_testBit_eq; intro i
    rw [andn_bit (by omega), Nat.testBit_two_pow_sub_one]
    by_cases hi : i < n
    · simp [hi]
    · rw [Nat.testBit_lt_two_pow (Nat.lt_of_lt_of_le (show a < 2 ^ n by omega) (Nat.pow_le_pow_right (by decide) (by omega)))]; simp
  rw [this]; rfl
theorem nl_take {l : List Int} {j : Nat} (h : j < l.length) : fm (nl (l.take (j + 1))) = fm (nl (l.take j)) ||| (1#64 <<< (ia l j).toNat) := by
  have : l.take (j + 1) = l.take j ++ [ia l j] := by
    rw [List.take_add_one, List.getElem?_eq_getElem h]
    simp [List.getD_eq_getElem?_getD, List.getElem?_eq_getElem h]
  rw [this, nl, List.map_append, ← nl, List.map_cons, List.map_nil, fm_app]
theorem ok86i : FokM Tryd.prog none1 86 Tryd.f86 := ⟨mixed, by kernel_rfl, by kernel_rfl, by kernel_rfl, by kernel_rfl⟩
theorem r86i (s : Int) (hp : 0 ≤ s ∧ s < 64) : Body ⟨Tryd.prog, Sof (P := Tryd.prog) [], Pof (P := Tryd.prog) [], H.nil.base, 300⟩ none1 Tryd.f86 [I s] .nil (u64A (1#64 <<< s.toNat), .nil) := by
  obtain ⟨h0, h1⟩ := hp
  obtain ⟨a, rfl⟩ : ∃ a : Nat, s = a := ⟨s.toNat, by omega⟩
  have ev0 := w_one (n := a) (by omega)
  rw [Int.toNat_natCast]
  refine body_s ([Ans.o (Orc.val 4 (AV.int IntKind.u64 (↑(BitVec.ofNat (64 : Nat) (1 : Nat) <<< a).toNat : Int)) H.nil)]) (aBin Tryd.prog BinOp.shl (74 : Nat) (AV.int IntKind.u64 (1 : Int)) (I (↑a : Int)) = some (AV.int IntKind.u64 (↑(BitVec.ofNat (64 : Nat) (1 : Nat) <<< a).toNat : Int)) ∧ (AV.int IntKind.u64 (↑(BitVec.ofNat (64 : Nat) (1 : Nat) <<< a).toNat : Int), H.mk [] [] []) = (AV.int IntKind.u64 (↑(BitVec.ofNat (64 : Nat) (1 : Nat) <<< a).toNat : Int), H.mk [] [] [])) (by kernel_rfl) ?_
  refine ⟨by first | exact told_shl (by first | exact Int.natCast_nonneg _ | omega) (by with_reducible assumption) | exact told_shl (by omega) rfl, ?_⟩
  first | with_reducible rfl | (refine bleaf_t ?_; omega) | (refine bleaf_f ?_; omega) | (refine ileaf ?_; omega) | rfl | (exfalso; omega)
noncomputable def c86i : PCtr Tryd.prog := sctr ok86i (X := Int) (fun x => [I x]) (fun x => 0 ≤ x ∧ x < 64) (fun x => u64A (1#64 <<< x.toNat)) (by intro x y e _ _; simp [Int.natCast_inj] at e; simp [e]) (fun x => by simp [AV.bnds, AV.bnd, AV.wk, rm_wk_bnd]) (fun x => by first | rfl | (simp [AV.bnd, rm_wk_bnd]; done)  | (simp [AV.bnd, AV.bnds, rm_wk_bnd]; done) | simp [AV.bnd, AV.bnds, Room.bnd, rm_wk_bnd]) (fun x hx => ⟨_, _, _, .nil, r86i (x) hx⟩)
abbrev z76 : List AV := [I 0, .int .u64 0]
abbrev h65 (n : Nat) (F : W) : H := ⟨[z76, [I (2 ^ n - 1 : Nat), u64A F]], [], []⟩
abbrev o65 (n : Nat) (l : List Int) : List Out :=
  [.mk W .ret [4, 5] (fun _ => ¬ oks n l) (fun _ => [.ptr 0 0, .bool false]) (fun F => h65 n F) (fun _ => []),
   .mk Unit (.exit 0) [4, 6] (fun _ => oks n l) (fun _ => [.ptr 0 0, .ptr 1 0]) (fun _ => h65 n (fm (nl l))) (fun _ => [])]
theorem simp65 : allSimpleM none1 (loopAt Tryd.f65 0) = true := by kernel_rfl
theorem lp65 (n : Nat) (l : List Int) (r : Room) (hn : n ≤ 6) (h0 : l.length ≤ 64) (h1 : rok l r) (h2 : rng l) :
    LoopS (En6 [c86i.to]) (loopAt Tryd.f65 0) 42 [4, 6, 22, 23, 24] [.ptr 0 0, .ptr 1 0, ls l r, I l.length, I 0] (h65 n 0#64) (o65 n l) := by
  have hR : Rests (En6 [c86i.to]) none1 := rests mixed (.pure _ .nil)
  refine loop_s hR simp65 none (by intro _ h; cases h) (fun j vs h => h = h65 n (fm (nl (l.take j))) ∧ vs = [.ptr 0 0, .ptr 1 0, ls l r, I l.length, I j] ∧ ∀ i, i < j → 0 ≤ ia l i ∧ ia l i < ((2 ^ n : Nat) : Int)) l.length ⟨rfl, rfl, fun i hi => absurd hi (Nat.not_lt_zero _)⟩ (by intro _ h; cases h) ?_
  rintro j vs h hj ⟨rfl, rfl, hI⟩
  by_cases hz : (j : Int) < l.length
  · have hz' : j < l.length := by omega
    have hr := rok_idx h1 hz'
    obtain ⟨g1, g2⟩ := h2 j hz'
    have hs := nl_take hz'
    by_cases hq : 0 ≤ ia l j ∧ ia l j < ((2 ^ n : Nat) : Int)
    · have ev1 := bv_in hn hq
      have hp := p64 hn
      have hal : 0 ≤ ia l j ∧ ia l j < 64 := by omega
      have ev0 := w_or (fm (nl (l.take j))) (1#64 <<< (ia l j).toNat)
      have hI' : ∀ i, i < j + 1 → 0 ≤ ia l i ∧ ia l i < ((2 ^ n : Nat) : Int) := fun i hi => by
        by_cases e : i = j
        · subst e; exact hq
        · exact hI i (by omega)
      refine ⟨[Ans.o (Orc.b true), Ans.o (Orc.val 26 (AV.cptr (ints (List.drop j l))) H.nil), Ans.o (Orc.val 27 (I (l.getD j i0)) H.nil), Ans.o (Orc.val 31 (I 0) H.nil), Ans.o Orc.dflt, Ans.o (Orc.val 37 (AV.int IntKind.u64 (↑(BitVec.ofNat (64 : Nat) (1 : Nat) <<< (l.getD j i0).toNat).toNat : Int)) (H.mk [[I 0, AV.int IntKind.u64 (0 : Int)], [I (↑((2 : Nat) ^ n - (1 : Nat)) : Int), AV.int IntKind.u64 (↑(BitVec.toNat (fm (nl (List.take j l)))) : Int)]] [] [])), Ans.o (Orc.val 38 (AV.int IntKind.u64 (↑(BitVec.toNat (fm (nl (List.take j l)) ||| BitVec.ofNat (64 : Nat) (1 : Nat) <<< (ia l j).toNat)) : Int)) H.nil)], fun u => of_eq ((↑j : Int) < (↑l.length : Int) ∧ aIndexAddr Tryd.prog (22 : Nat) (AV.sl (ints l) l.length r) (I (↑j : Int)) = some (AV.cptr (ints (List.drop j l))) ∧ aLoad Tryd.prog (3 : Nat) (ints (List.drop j l)) = some (I (l.getD j i0)) ∧ aBin Tryd.prog BinOp.andNot (3 : Nat) (I (l.getD j i0)) (I (↑((2 : Nat) ^ n - (1 : Nat)) : Int)) = some (I 0) ∧ aCall (Sof [c86i.to]) (AV.fn (Fn.func (86 : Nat)) [] []) [I (l.getD j i0)] (H.mk [[I 0, AV.int IntKind.u64 (0 : Int)], [I (↑((2 : Nat) ^ n - (1 : Nat)) : Int), AV.int IntKind.u64 (↑(BitVec.toNat (fm (nl (List.take j l)))) : Int)]] [] []) = some (AV.int IntKind.u64 (↑(BitVec.ofNat (64 : Nat) (1 : Nat) <<< (l.getD j i0).toNat).toNat : Int), H.mk [[I 0, AV.int IntKind.u64 (0 : Int)], [I (↑((2 : Nat) ^ n - (1 : Nat)) : Int), AV.int IntKind.u64 (↑(BitVec.toNat (fm (nl (List.take j l)))) : Int)]] [] []) ∧ aBin Tryd.prog BinOp.or (74 : Nat) (AV.int IntKind.u64 (↑(BitVec.toNat (fm (nl (List.take j l)))) : Int)) (AV.int IntKind.u64 (↑(BitVec.ofNat (64 : Nat) (1 : Nat) <<< (l.getD j i0).toNat).toNat : Int)) = some (AV.int IntKind.u64 (↑(BitVec.toNat (fm (nl (List.take j l)) ||| BitVec.ofNat (64 : Nat) (1 : Nat) <<< (ia l j).toNat)) : Int)) ∧ IntKind.i64.wrap ((↑j : Int) + (1 : Int)) = (↑j : Int) + (1 : Int) ∧ (42 : Nat) = (42 : Nat) ∧ j < l.length ∧ Keep (H.mk [[I 0, AV.int IntKind.u64 (0 : Int)], [I (↑((2 : Nat) ^ n - (1 : Nat)) : Int), AV.int IntKind.u64 (↑(BitVec.toNat (fm (nl (List.take j l)) ||| BitVec.ofNat (64 : Nat) (1 : Nat) <<< (ia l j).toNat)) : Int)]] [] [] = H.mk [[I 0, AV.int IntKind.u64 (0 : Int)], [I (↑((2 : Nat) ^ n - (1 : Nat)) : Int), AV.int IntKind.u64 (↑(BitVec.toNat (fm (nl (List.take (j + (1 : Nat)) l)))) : Int)]] [] [] ∧ [AV.ptr 0 0, AV.ptr 1 0, AV.sl (ints l) l.length r, I (↑l.length : Int), I ((↑j : Int) + (1 : Int))] = [AV.ptr 0 0, AV.ptr 1 0, AV.sl (ints l) l.length r, I (↑l.length : Int), I (↑(j + (1 : Nat)) : Int)] ∧ ∀ (i : Nat), i < j + (1 : Nat) → (0 : Int) ≤ ia l i ∧ ia l i < (↑((2 : Nat) ^ n) : Int))) (by kernel_rfl) ?_⟩
      refine ⟨by first | with_reducible assumption | omega | assumption, ?_⟩
      refine ⟨ix_ints (by kernel_rfl) (by omega) hr, ?_⟩
      refine ⟨by first | exact ld_ints (by kernel_rfl) (by kernel_rfl) (by omega) | exact ldm_ints (by kernel_rfl) (by kernel_rfl) (by first | omega | (simp; omega)), ?_⟩
      refine ⟨told_andn (by with_reducible assumption), ?_⟩
      refine ⟨acall_hit (c := c86i.to) (ia l j) _ rfl hal, ?_⟩
      refine ⟨told_or (by with_reducible assumption), ?_⟩
      refine ⟨wr _ (by omega) (by omega), ?_⟩
      refine ⟨by first | with_reducible assumption | omega | assumption, ?_⟩
      refine ⟨by first | with_reducible assumption | omega | assumption, ?_⟩
      exact ⟨by rw [hs], rfl, hI'⟩
    · obtain ⟨v, ev1, hv0⟩ : ∃ v : Int, IntKind.i64.wrap ((BitVec.ofInt IntKind.i64.bits (ia l j) &&& ~~~BitVec.ofInt IntKind.i64.bits ((2 ^ n - 1 : Nat) : Int)).toNat : Int) = v ∧ v ≠ 0 := ⟨_, rfl, bv_out hn g1 g2 hq⟩
      have hbad : ¬ oks n l := fun h => hq (h j hz')
      refine ⟨[Ans.o (Orc.b true), Ans.o (Orc.val 26 (AV.cptr (ints (List.drop j l))) H.nil), Ans.o (Orc.val 27 (I (l.getD j i0)) H.nil), Ans.o (Orc.val 31 (I v) H.nil), Ans.o (Orc.b true)], fun u => of_eq ((↑j : Int) < (↑l.length : Int) ∧ aIndexAddr Tryd.prog (22 : Nat) (AV.sl (ints l) l.length r) (I (↑j : Int)) = some (AV.cptr (ints (List.drop j l))) ∧ aLoad Tryd.prog (3 : Nat) (ints (List.drop j l)) = some (I (l.getD j i0)) ∧ aBin Tryd.prog BinOp.andNot (3 : Nat) (I (l.getD j i0)) (I (↑((2 : Nat) ^ n - (1 : Nat)) : Int)) = some (I v) ∧ v ≠ (0 : Int) ∧ (42 : Nat) = (42 : Nat) ∧ hits [Out.mk W AX.ret [(4 : Nat), (5 : Nat)] (fun x => ¬oks n l) (fun x => [AV.ptr 0 0, AV.bool false]) (fun F => h65 n F) fun x => [], Out.mk Unit (AX.exit (0 : Nat)) [(4 : Nat), (6 : Nat)] (fun x => oks n l) (fun x => [AV.ptr 0 0, AV.ptr 1 0]) (fun x => h65 n (fm (nl l))) fun x => []] AX.ret [u (0 : Nat), u (1 : Nat), u (2 : Nat), u (3 : Nat), AV.ptr 0 0, AV.bool false, AV.ptr 1 0, u (7 : Nat), I (l.getD j i0), u (9 : Nat), u (10 : Nat), u (11 : Nat), u (12 : Nat), u (13 : Nat), u (14 : Nat), u (15 : Nat), u (16 : Nat), u (17 : Nat), u (18 : Nat), u (19 : Nat), u (20 : Nat), u (21 : Nat), AV.sl (ints l) l.length r, I (↑l.length : Int), I (↑j : Int), AV.bool true, AV.cptr (ints (List.drop j l)), I (l.getD j i0), I (l.getD j i0), AV.ptr 1 0, I (↑((2 : Nat) ^ n - (1 : Nat)) : Int), I v, AV.bool true, AV.agg [I 0, AV.int IntKind.u64 (0 : Int)], u (34 : Nat), u (35 : Nat), u (36 : Nat), u (37 : Nat), u (38 : Nat), u (39 : Nat), u (40 : Nat), u (41 : Nat)] (H.mk [[I 0, AV.int IntKind.u64 (0 : Int)], [I (↑((2 : Nat) ^ n - (1 : Nat)) : Int), AV.int IntKind.u64 (↑(BitVec.toNat (fm (nl (List.take j l)))) : Int)]] [] [])) (by kernel_rfl) ?_⟩
      refine ⟨by first | with_reducible assumption | omega | assumption, ?_⟩
      refine ⟨ix_ints (by kernel_rfl) (by omega) hr, ?_⟩
      refine ⟨by first | exact ld_ints (by kernel_rfl) (by kernel_rfl) (by omega) | exact ldm_ints (by kernel_rfl) (by kernel_rfl) (by first | omega | (simp; omega)), ?_⟩
      refine ⟨told_andn (by with_reducible assumption), ?_⟩
      refine ⟨by first | with_reducible assumption | omega | assumption, ?_⟩
      refine ⟨by first | with_reducible assumption | omega | assumption, ?_⟩
      exact .inl ⟨_, hbad, rfl, rfl, rfl⟩
  · have hz : (l.length : Int) ≤ j := by omega
    have hj' : j = l.length := by omega
    subst hj'
    refine ⟨[Ans.o (Orc.b false)], fun u => of_eq ((↑l.length : Int) ≤ (↑l.length : Int) ∧ (42 : Nat) = (42 : Nat) ∧ hits [Out.mk W AX.ret [(4 : Nat), (5 : Nat)] (fun x => ¬oks n l) (fun x => [AV.ptr 0 0, AV.bool false]) (fun F => h65 n F) fun x => [], Out.mk Unit (AX.exit (0 : Nat)) [(4 : Nat), (6 : Nat)] (fun x => oks n l) (fun x => [AV.ptr 0 0, AV.ptr 1 0]) (fun x => h65 n (fm (nl l))) fun x => []] (AX.exit (0 : Nat)) [u (0 : Nat), u (1 : Nat), u (2 : Nat), u (3 : Nat), AV.ptr 0 0, u (5 : Nat), AV.ptr 1 0, u (7 : Nat), u (8 : Nat), u (9 : Nat), u (10 : Nat), u (11 : Nat), u (12 : Nat), u (13 : Nat), u (14 : Nat), u (15 : Nat), u (16 : Nat), u (17 : Nat), u (18 : Nat), u (19 : Nat), u (20 : Nat), u (21 : Nat), AV.sl (ints l) l.length r, I (↑l.length : Int), I (↑l.length : Int), AV.bool false, u (26 : Nat), u (27 : Nat), u (28 : Nat), u (29 : Nat), u (30 : Nat), u (31 : Nat), u (32 : Nat), u (33 : Nat), u (34 : Nat), u (35 : Nat), u (36 : Nat), u (37 : Nat), u (38 : Nat), u (39 : Nat), u (40 : Nat), u (41 : Nat)] (H.mk [[I 0, AV.int IntKind.u64 (0 : Int)], [I (↑((2 : Nat) ^ n - (1 : Nat)) : Int), AV.int IntKind.u64 (↑(BitVec.toNat (fm (nl (List.take l.length l)))) : Int)]] [] [])) (by kernel_rfl) ?_⟩
    refine ⟨by first | with_reducible assumption | omega | assumption, ?_⟩
    refine ⟨by first | with_reducible assumption | omega | assumption, ?_⟩
    exact .inr (.inl ⟨(), hI, rfl, rfl, by rw [List.take_length]⟩)
theorem ok65 : FokM Tryd.prog none1 65 Tryd.f65 := ⟨mixed, by kernel_rfl, by kernel_rfl, by kernel_rfl, by kernel_rfl⟩
abbrev okS (n : Int) (l : List Int) : Prop := (1 ≤ n ∧ n ≤ 6) ∧ l.length ≤ 64 ∧ oks n.toNat l
theorem r65g (n : Nat) (l : List Int) (r : Room) (h1 : rok l r) (h2 : rng l) (hn : 1 ≤ (n : Int) ∧ (n : Int) ≤ 6) (hl : l.length ≤ 64) (ho : oks n l) : Body (En6 [c111.to, c86i.to]) none1 Tryd.f65 [I n, ls l r] .nil (.tup [fA (2 ^ n - 1) (fm (nl l)), .bool true], .nil) := by
  have hlp := lp65 n l r (by omega) hl h1 h2
  have hd : decide (1 ≤ (n : Int) ∧ (n : Int) ≤ 6) = true := decide_eq_true hn
  have ev0 := pw_shl (n := n) (by omega)
  have hp := p64 (n := n) (by omega)
  have hp0 := Nat.two_pow_pos n
  have ev1 : IntKind.i64.wrap (((2 ^ n : Nat) : Int) - 1) = ((2 ^ n - 1 : Nat) : Int) := by rw [wr _ (by omega) (by omega)]; omega
  refine body_s ([Ans.o (Orc.val 10 (AV.bool true) (H.mk [[I 0, AV.int IntKind.u64 (0 : Int)]] [] [])), Ans.fork [] [Ans.o (Orc.val 19 (I (↑((2 : Nat) ^ n) : Int)) H.nil), Ans.o (Orc.val 20 (I (↑((2 : Nat) ^ n - (1 : Nat)) : Int)) H.nil), Ans.loop [(4 : Nat), (6 : Nat), (22 : Nat), (23 : Nat), (24 : Nat)] [Out.mk W AX.ret [(4 : Nat), (5 : Nat)] (fun x => ¬oks n l) (fun x => [AV.ptr 0 0, AV.bool false]) (fun F => h65 n F) fun y => [], Out.mk Unit (AX.exit (0 : Nat)) [(4 : Nat), (6 : Nat)] (fun x => oks n l) (fun x => [AV.ptr 0 0, AV.ptr 1 0]) (fun x => h65 n (fm (nl l))) fun y => []]]]) (aCall (Sof [c111.to, c86i.to]) (AV.fn (Fn.func (111 : Nat)) [] []) [I (↑n : Int)] (H.mk [[I 0, AV.int IntKind.u64 (0 : Int)]] [] []) = some (AV.bool true, H.mk [[I 0, AV.int IntKind.u64 (0 : Int)]] [] []) ∧ ((64 : Int) < (↑l.length : Int) → (AV.tup [AV.agg [I 0, AV.int IntKind.u64 (0 : Int)], AV.bool false], H.mk [] [] []) = (AV.tup [AV.agg [I (↑((2 : Nat) ^ n - (1 : Nat)) : Int), AV.int IntKind.u64 (↑(BitVec.toNat (fm (nl l))) : Int)], AV.bool true], H.mk [] [] [])) ∧ ((↑l.length : Int) ≤ (64 : Int) → aBin Tryd.prog BinOp.shl (3 : Nat) (I 1) (I (↑n : Int)) = some (I (↑((2 : Nat) ^ n) : Int)) ∧ aBin Tryd.prog BinOp.sub (3 : Nat) (I (↑((2 : Nat) ^ n) : Int)) (I 1) = some (I (↑((2 : Nat) ^ n - (1 : Nat)) : Int)) ∧ LoopS (Env.mk Tryd.prog (Sof [c111.to, c86i.to]) (Pof (P := Tryd.prog) []) H.nil.base (300 : Nat)) (loopAt Tryd.f65 (0 : Nat)) (42 : Nat) [(4 : Nat), (6 : Nat), (22 : Nat), (23 : Nat), (24 : Nat)] [AV.ptr 0 0, AV.ptr 1 0, AV.sl (ints l) l.length r, I (↑l.length : Int), I 0] (H.mk [[I 0, AV.int IntKind.u64 (0 : Int)], [I (↑((2 : Nat) ^ n - (1 : Nat)) : Int), AV.int IntKind.u64 (0 : Int)]] [] []) [Out.mk W AX.ret [(4 : Nat), (5 : Nat)] (fun x => ¬oks n l) (fun x => [AV.ptr 0 0, AV.bool false]) (fun F => h65 n F) fun y => [], Out.mk Unit (AX.exit (0 : Nat)) [(4 : Nat), (6 : Nat)] (fun x => oks n l) (fun x => [AV.ptr 0 0, AV.ptr 1 0]) (fun x => h65 n (fm (nl l))) fun y => []] ∧ (∀ (y : W), ¬oks n l → ∀ (u : Nat → AV), (AV.tup [AV.agg [I 0, AV.int IntKind.u64 (0 : Int)], AV.bool false], H.mk [] [] []) = (AV.tup [AV.agg [I (↑((2 : Nat) ^ n - (1 : Nat)) : Int), AV.int IntKind.u64 (↑(BitVec.toNat (fm (nl l))) : Int)], AV.bool true], H.mk [] [] [])) ∧ (∀ (y : Unit), (∀ (i : Nat), i < l.length → (0 : Int) ≤ ia l i ∧ ia l i < (↑((2 : Nat) ^ n) : Int)) → ∀ (u : Nat → AV), (AV.tup [AV.agg [I (↑((2 : Nat) ^ n - (1 : Nat)) : Int), AV.int IntKind.u64 (↑(BitVec.toNat (fm (nl l))) : Int)], AV.bool true], H.mk [] [] []) = (AV.tup [AV.agg [I (↑((2 : Nat) ^ n - (1 : Nat)) : Int), AV.int IntKind.u64 (↑(BitVec.toNat (fm (nl l))) : Int)], AV.bool true], H.mk [] [] [])) ∧ True)) (by kernel_rfl) ?_
  refine ⟨acall_b (acall_hit (c := c111.to) (n : Int) _ rfl trivial) hd, ?_⟩
  refine And.intro ?_ ?_
  · skip
    intro w0
    first | rfl | (exfalso; omega) | (exfalso; contradiction)
  · skip
    intro w0
    refine ⟨by first | exact told_shl (by first | exact Int.natCast_nonneg _ | omega) (by with_reducible assumption) | exact told_shl (by omega) rfl, ?_⟩
    refine ⟨told_sub (by with_reducible assumption), ?_⟩
    refine ⟨hlp, ?_⟩
    refine And.intro ?_ ?_
    · skip
      intro y
      intro w2
      intro u
      first | rfl | (exfalso; omega) | (exfalso; contradiction)
    · skip
      refine And.intro ?_ ?_
      · skip
        intro y
        intro w2
        intro u
        first | rfl | (exfalso; omega) | (exfalso; contradiction)
      · skip
        trivial
theorem r65b (n : Int) (l : List Int) (r : Room) (h1 : rok l r) (h2 : rng l) (h3 : lim l.length) (hb : ¬ okS n l) : Body (En6 [c111.to, c86i.to]) none1 Tryd.f65 [I n, ls l r] .nil (.tup [fA 0 0#64, .bool false], .nil) := by
  by_cases hn : 1 ≤ n ∧ n ≤ 6
  · have hd : decide (1 ≤ n ∧ n ≤ 6) = true := decide_eq_true hn
    by_cases hl : l.length ≤ 64
    · have ho : ¬ oks n.toNat l := fun h => hb ⟨hn, hl, h⟩
      obtain ⟨k, rfl⟩ : ∃ k : Nat, n = k := ⟨n.toNat, by omega⟩
      rw [Int.toNat_natCast] at ho
      have hlp := lp65 k l r (by omega) hl h1 h2
      have ev0 := pw_shl (n := k) (by omega)
      have hp := p64 (n := k) (by omega)
      have hp0 := Nat.two_pow_pos k
      have ev1 : IntKind.i64.wrap (((2 ^ k : Nat) : Int) - 1) = ((2 ^ k - 1 : Nat) : Int) := by rw [wr _ (by omega) (by omega)]; omega
      refine body_s ([Ans.o (Orc.val 10 (AV.bool true) (H.mk [[I 0, AV.int IntKind.u64 (0 : Int)]] [] [])), Ans.fork [] [Ans.o (Orc.val 19 (I (↑((2 : Nat) ^ k) : Int)) H.nil), Ans.o (Orc.val 20 (I (↑((2 : Nat) ^ k - (1 : Nat)) : Int)) H.nil), Ans.loop [(4 : Nat), (6 : Nat), (22 : Nat), (23 : Nat), (24 : Nat)] [Out.mk W AX.ret [(4 : Nat), (5 : Nat)] (fun x => ¬oks k l) (fun x => [AV.ptr 0 0, AV.bool false]) (fun F => h65 k F) fun y => [], Out.mk Unit (AX.exit (0 : Nat)) [(4 : Nat), (6 : Nat)] (fun x => oks k l) (fun x => [AV.ptr 0 0, AV.ptr 1 0]) (fun x => h65 k (fm (nl l))) fun y => []]]]) (aCall (Sof [c111.to, c86i.to]) (AV.fn (Fn.func (111 : Nat)) [] []) [I (↑k : Int)] (H.mk [[I 0, AV.int IntKind.u64 (0 : Int)]] [] []) = some (AV.bool true, H.mk [[I 0, AV.int IntKind.u64 (0 : Int)]] [] []) ∧ ((64 : Int) < (↑l.length : Int) → (AV.tup [AV.agg [I 0, AV.int IntKind.u64 (0 : Int)], AV.bool false], H.mk [] [] []) = (AV.tup [AV.agg [I 0, AV.int IntKind.u64 (0 : Int)], AV.bool false], H.mk [] [] [])) ∧ ((↑l.length : Int) ≤ (64 : Int) → aBin Tryd.prog BinOp.shl (3 : Nat) (I 1) (I (↑k : Int)) = some (I (↑((2 : Nat) ^ k) : Int)) ∧ aBin Tryd.prog BinOp.sub (3 : Nat) (I (↑((2 : Nat) ^ k) : Int)) (I 1) = some (I (↑((2 : Nat) ^ k - (1 : Nat)) : Int)) ∧ LoopS (Env.mk Tryd.prog (Sof [c111.to, c86i.to]) (Pof (P := Tryd.prog) []) H.nil.base (300 : Nat)) (loopAt Tryd.f65 (0 : Nat)) (42 : Nat) [(4 : Nat), (6 : Nat), (22 : Nat), (23 : Nat), (24 : Nat)] [AV.ptr 0 0, AV.ptr 1 0, AV.sl (ints l) l.length r, I (↑l.length : Int), I 0] (H.mk [[I 0, AV.int IntKind.u64 (0 : Int)], [I (↑((2 : Nat) ^ k - (1 : Nat)) : Int), AV.int IntKind.u64 (0 : Int)]] [] []) [Out.mk W AX.ret [(4 : Nat), (5 : Nat)] (fun x => ¬oks k l) (fun x => [AV.ptr 0 0, AV.bool false]) (fun F => h65 k F) fun y => [], Out.mk Unit (AX.exit (0 : Nat)) [(4 : Nat), (6 : Nat)] (fun x => oks k l) (fun x => [AV.ptr 0 0, AV.ptr 1 0]) (fun x => h65 k (fm (nl l))) fun y => []] ∧ (∀ (y : W), ¬oks k l → ∀ (u : Nat → AV), (AV.tup [AV.agg [I 0, AV.int IntKind.u64 (0 : Int)], AV.bool false], H.mk [] [] []) = (AV.tup [AV.agg [I 0, AV.int IntKind.u64 (0 : Int)], AV.bool false], H.mk [] [] [])) ∧ (∀ (y : Unit), (∀ (i : Nat), i < l.length → (0 : Int) ≤ ia l i ∧ ia l i < (↑((2 : Nat) ^ k) : Int)) → ∀ (u : Nat → AV), (AV.tup [AV.agg [I (↑((2 : Nat) ^ k - (1 : Nat)) : Int), AV.int IntKind.u64 (↑(BitVec.toNat (fm (nl l))) : Int)], AV.bool true], H.mk [] [] []) = (AV.tup [AV.agg [I 0, AV.int IntKind.u64 (0 : Int)], AV.bool false], H.mk [] [] [])) ∧ True)) (by kernel_rfl) ?_
      refine ⟨acall_b (acall_hit (c := c111.to) (k : Int) _ rfl trivial) hd, ?_⟩
      refine And.intro ?_ ?_
      · skip
        intro w0
        first | rfl | (exfalso; omega) | (exfalso; contradiction)
      · skip
        intro w0
        refine ⟨by first | exact told_shl (by first | exact Int.natCast_nonneg _ | omega) (by with_reducible assumption) | exact told_shl (by omega) rfl, ?_⟩
        refine ⟨told_sub (by with_reducible assumption), ?_⟩
        refine ⟨hlp, ?_⟩
        refine And.intro ?_ ?_
        · skip
          intro y
          intro w2
          intro u
          first | rfl | (exfalso; omega) | (exfalso; contradiction)
        · skip
          refine And.intro ?_ ?_
          · skip
            intro y
            intro w2
            intro u
            first | rfl | (exfalso; omega) | (exfalso; contradiction)
          · skip
            trivial
    · have hl' : (64 : Int) < l.length := by omega
      refine body_s ([Ans.o (Orc.val 10 (AV.bool true) (H.mk [[I 0, AV.int IntKind.u64 (0 : Int)]] [] [])), Ans.o (Orc.b true)]) (aCall (Sof [c111.to, c86i.to]) (AV.fn (Fn.func (111 : Nat)) [] []) [I n] (H.mk [[I 0, AV.int IntKind.u64 (0 : Int)]] [] []) = some (AV.bool true, H.mk [[I 0, AV.int IntKind.u64 (0 : Int)]] [] []) ∧ (64 : Int) < (↑l.length : Int) ∧ (AV.tup [AV.agg [I 0, AV.int IntKind.u64 (0 : Int)], AV.bool false], H.mk [] [] []) = (AV.tup [AV.agg [I 0, AV.int IntKind.u64 (0 : Int)], AV.bool false], H.mk [] [] [])) (by kernel_rfl) ?_
      refine ⟨acall_b (acall_hit (c := c111.to) n _ rfl trivial) hd, ?_⟩
      refine ⟨by first | with_reducible assumption | omega | assumption, ?_⟩
      first | rfl | (exfalso; omega) | (exfalso; contradiction)
  · have hd : decide (1 ≤ n ∧ n ≤ 6) = false := decide_eq_false hn
    refine body_s ([Ans.o (Orc.val 10 (AV.bool false) (H.mk [[I 0, AV.int IntKind.u64 (0 : Int)]] [] []))]) (aCall (Sof [c111.to, c86i.to]) (AV.fn (Fn.func (111 : Nat)) [] []) [I n] (H.mk [[I 0, AV.int IntKind.u64 (0 : Int)]] [] []) = some (AV.bool false, H.mk [[I 0, AV.int IntKind.u64 (0 : Int)]] [] []) ∧ (AV.tup [AV.agg [I 0, AV.int IntKind.u64 (0 : Int)], AV.bool false], H.mk [] [] []) = (AV.tup [AV.agg [I 0, AV.int IntKind.u64 (0 : Int)], AV.bool false], H.mk [] [] [])) (by kernel_rfl) ?_
    refine ⟨acall_b (acall_hit (c := c111.to) n _ rfl trivial) hd, ?_⟩
    first | rfl | (exfalso; omega) | (exfalso; contradiction)
open Classical in
/-- what 'gather' finds -/
noncomputable def gR (n : Int) (l : List Int) : Nat := if okS n l then 2 ^ n.toNat - 1 else 0
open Classical in
noncomputable def gF (n : Int) (l : List Int) : W := if okS n l then fm (nl l) else 0#64
open Classical in
noncomputable def gB (n : Int) (l : List Int) : Bool := decide (okS n l)
/-- 'gather' -/
noncomputable def c65 : PCtr Tryd.prog := sctr ok65 (X := Int × List Int × Room) (fun x => [I x.1, ls x.2.1 x.2.2]) (fun x => lim x.2.1.length ∧ rok x.2.1 x.2.2 ∧ rng x.2.1) (fun x => .tup [fA (gR x.1 x.2.1) (gF x.1 x.2.1), .bool (gB x.1 x.2.1)])
  (by rintro ⟨a, b, c⟩ ⟨a', b', c'⟩ e _ _; simp at e; simp only [e.1, e.2.1]) (fun x => by simp [AV.bnds, AV.bnd, AV.wk, rm_wk_bnd]) (fun _ => rfl) (fun x hx => by
    obtain ⟨n, l, r⟩ := x
    obtain ⟨h0, h1, h2⟩ := hx
    simp only at h0 h1 h2 ⊢
    by_cases h : okS n l
    · obtain ⟨k, rfl⟩ : ∃ k : Nat, n = k := ⟨n.toNat, by omega⟩
      rw [gR, gF, gB, if_pos h, if_pos h, decide_eq_true h, Int.toNat_natCast]
      exact ⟨_, _, _, .pure c111 (.pure c86i .nil), r65g k l r.wk (by simpa using h1) h2 h.1 h.2.1 h.2.2⟩
    · rw [gR, gF, gB, if_neg h, if_neg h, decide_eq_false h]
      exact ⟨_, _, _, .pure c111 (.pure c86i .nil), r65b n l r.wk (by simpa using h1) h2 h0 h⟩)
/-- a slice that is a family -/
structure Fm (n : Int) (l : List Int) (F : W) : Prop where
  n1 : 1 ≤ n
  n6 : n ≤ 6
  rg : Rg n.toNat F
  dn : Dn F
  eq : l = lst F
theorem nl_lst (F : W) : nl (lst F) = elts F := by simp [nl, lst, ic, List.map_map, Function.comp_def]
theorem ia_lst {F : W} {i : Nat} (h : i < (lst F).length) : ∃ s : Nat, ia (lst F) i = s ∧ hs F s = true ∧ s < 64 := by
  have h' : i < (elts F).length := by simpa using h
  refine ⟨(elts F)[i], ?_, ?_, ?_⟩
  · simp [lst, ic, List.getD_eq_getElem?_getD, h']
  · exact Go.Proofs.Sur.mem_bits.1 (List.getElem_mem h')
  · exact hs_lt (Go.Proofs.Sur.mem_bits.1 (List.getElem_mem h'))
theorem lst_oks {n : Nat} {F : W} (h : Rg n F) : oks n (lst F) := fun i hi => by
  obtain ⟨s, e, h1, _⟩ := ia_lst hi
  have := h s h1
  rw [e]; omega
theorem lst_rng (F : W) : rng (lst F) := fun i hi => by
  obtain ⟨s, e, h1, _⟩ := ia_lst hi
  rw [e]; omega
theorem Fm.ok {n : Int} {l : List Int} {F : W} (h : Fm n l F) : okS n l := ⟨⟨h.n1, h.n6⟩, by rw [h.eq]; exact lst_len F, by rw [h.eq]; exact lst_oks h.rg⟩
theorem fm_nl {n : Int} {l : List Int} {F : W} (h : Fm n l F) : fm (nl l) = F := by rw [h.eq, nl_lst, fm_bits]
theorem mem_ia {l : List Int} {x : Int} (h : x ∈ l) : ∃ i, i < l.length ∧ ia l i = x := by
  obtain ⟨i, h1, h2⟩ := List.getElem_of_mem h
  exact ⟨i, h1, by simp [List.getD_eq_getElem?_getD, h1, h2]⟩
theorem oks_rg {n : Nat} {l : List Int} (h : oks n l) : Rg n (fm (nl l)) := fun s q => by
  have := (fm_bit (hs_lt q)).1 q
  simp only [nl, List.mem_map] at this
  obtain ⟨x, hx, rfl⟩ := this
  obtain ⟨i, h1, h2⟩ := mem_ia hx
  have := h i h1
  rw [h2] at this; omega
/-- it is a family just if it is what 'list' writes, and closed -/
theorem fm_iff {n : Int} {l : List Int} : (∃ F, Fm n l F) ↔ okS n l ∧ l = lst (fm (nl l)) ∧ cls (fm (nl l)) = fm (nl l) := by
  constructor
  · rintro ⟨F, h⟩
    exact ⟨h.ok, by rw [fm_nl h]; exact h.eq, by rw [fm_nl h]; exact cls_fix.2 h.dn⟩
  · rintro ⟨h1, h2, h3⟩
    exact ⟨_, h1.1.1, h1.1.2, oks_rg h1.2.2, cls_fix.1 h3, h2⟩
end Go.Proofs.Evd

