/- Layer 8: families as values: what their small methods come to. -/
import Derived.Test.YtjobibaeklbkmaaDoorVm6
import Derived.Test.YtjobibaeklbkmaaDoorEdN
import Derived.Test.YtjobibaeklbkmaaDoorProg
import Derived.KernelRfl
set_option linter.unusedSimpArgs false
set_option linter.unusedVariables false
set_option linter.unnecessarySimpa false
set_option maxHeartbeats 4000000
set_option maxRecDepth 100000
namespace Go.Proofs.Evd
open Go Go.VM
open Go.Proofs.Sur (W w_wrap w_nat w_inj w_eq0 w_and w_or w_andn w_shl w_shr neg_nat sub_nat tz tz_ok low_bit cl bits_cons bits_0 bits_len andn andn_bit andn_le i_wrap i_and i_or i_andn i_shl i_shr bit_01)

theorem mixed : Tryd.prog.follows .mixedOrders = true := by kernel_rfl
abbrev dbs : List Value := [.int .u8 0, .int .u8 1, .int .u8 56, .int .u8 2, .int .u8 57, .int .u8 49, .int .u8 28, .int .u8 3, .int .u8 61, .int .u8 58, .int .u8 42, .int .u8 50, .int .u8 38, .int .u8 29, .int .u8 17, .int .u8 4, .int .u8 62, .int .u8 47, .int .u8 59, .int .u8 36, .int .u8 45, .int .u8 43, .int .u8 51, .int .u8 22, .int .u8 53, .int .u8 39, .int .u8 33, .int .u8 30, .int .u8 24, .int .u8 18, .int .u8 12, .int .u8 5, .int .u8 63, .int .u8 55, .int .u8 48, .int .u8 27, .int .u8 60, .int .u8 41, .int .u8 37, .int .u8 16, .int .u8 46, .int .u8 35, .int .u8 44, .int .u8 21, .int .u8 52, .int .u8 32, .int .u8 23, .int .u8 11, .int .u8 54, .int .u8 26, .int .u8 40, .int .u8 15, .int .u8 34, .int .u8 20, .int .u8 31, .int .u8 10, .int .u8 25, .int .u8 14, .int .u8 19, .int .u8 9, .int .u8 13, .int .u8 8, .int .u8 7, .int .u8 6]
abbrev lks : List Value := [.int .u64 6148914691236517205, .int .u64 3689348814741910323, .int .u64 1085102592571150095, .int .u64 71777214294589695, .int .u64 281470681808895, .int .u64 4294967295]
instance : Inhabited Globs := ⟨⟨fun g => match g with | 0 => lks | 1 => dbs | _ => []⟩⟩
noncomputable abbrev En6 (cs : List (Ctr Tryd.prog)) : Env := ⟨Tryd.prog, Sof (P := Tryd.prog) cs, Pof (P := Tryd.prog) [], H.nil.base, 300⟩
abbrev lim (n : Nat) : Prop := n ≤ 9223372036854775807
abbrev ls (l : List Int) (r : Room) : AV := .sl (ints l) l.length r
abbrev ia (l : List Int) (i : Nat) : Int := l.getD i i0
@[simp] theorem toNat_inj' (a b : W) : (a.toNat = b.toNat) ↔ a = b := ⟨BitVec.eq_of_toNat_eq, fun h => h ▸ rfl⟩
/-- a family as a value -/
abbrev fA (r : Nat) (F : W) : AV := .agg [I r, u64A F]
theorem pw_shl {n : Nat} (h : n ≤ 62) : IntKind.i64.wrap (1 * 2 ^ min ((n : Int)).toNat IntKind.i64.bits) = ((2 ^ n : Nat) : Int) := by
  have := i_shl (a := 1) (n := n) h (by
    have : 2 ^ n ≤ 2 ^ 62 := Nat.pow_le_pow_right (by decide) h
    omega)
  rw [Nat.one_mul] at this
  exact this
theorem w_one {n : Nat} (h : n ≤ 64) : IntKind.u64.wrap (1 * 2 ^ min ((n : Int)).toNat IntKind.u64.bits) = ((1#64 <<< n).toNat : Int) := w_shl 1#64 h
theorem i_bit {a n : Nat} (ha : a < 9223372036854775808) : IntKind.i64.wrap ((BitVec.ofInt IntKind.i64.bits ((a >>> n : Nat) : Int) &&& BitVec.ofInt IntKind.i64.bits 1).toNat : Int) = ((a.testBit n).toNat : Int) := by
  have h : a >>> n < 9223372036854775808 := Nat.lt_of_le_of_lt (by rw [Nat.shiftRight_eq_div_pow]; exact Nat.div_le_self _ _) ha
  have := i_and (a := a >>> n) (b := 1) h (by decide)
  rw [bit_01] at this
  exact this
theorem ok86 : FokM Tryd.prog none1 86 Tryd.f86 := ⟨mixed, by kernel_rfl, by kernel_rfl, by kernel_rfl, by kernel_rfl⟩
theorem r86 (s : Nat) (hp : s < 64) : Body ⟨Tryd.prog, Sof (P := Tryd.prog) [], Pof (P := Tryd.prog) [], H.nil.base, 300⟩ none1 Tryd.f86 [I s] .nil (u64A (1#64 <<< s), .nil) := by
  have ev0 := w_one (n := s) (by omega)
  refine body_s ([Ans.o (Orc.val 4 (AV.int IntKind.u64 (↑(BitVec.ofNat (64 : Nat) (1 : Nat) <<< s).toNat : Int)) H.nil)]) (aBin Tryd.prog BinOp.shl (74 : Nat) (AV.int IntKind.u64 (1 : Int)) (I (↑s : Int)) = some (AV.int IntKind.u64 (↑(BitVec.ofNat (64 : Nat) (1 : Nat) <<< s).toNat : Int)) ∧ (AV.int IntKind.u64 (↑(BitVec.ofNat (64 : Nat) (1 : Nat) <<< s).toNat : Int), H.mk [] [] []) = (AV.int IntKind.u64 (↑(BitVec.ofNat (64 : Nat) (1 : Nat) <<< s).toNat : Int), H.mk [] [] [])) (by kernel_rfl) ?_
  refine ⟨by first | exact told_shl (by first | exact Int.natCast_nonneg _ | omega) (by with_reducible assumption) | exact told_shl (by omega) rfl, ?_⟩
  first | with_reducible rfl | (refine bleaf_t ?_; omega) | (refine bleaf_f ?_; omega) | (refine ileaf ?_; omega) | rfl | (exfalso; omega)
noncomputable def c86 : PCtr Tryd.prog := sctr ok86 (X := Nat) (fun x => [I x]) (fun x => x < 64) (fun x => u64A (1#64 <<< x)) (by intro x y e _ _; simp [Int.natCast_inj] at e; simp [e]) (fun x => by simp [AV.bnds, AV.bnd, AV.wk, rm_wk_bnd]) (fun x => by first | rfl | (simp [AV.bnd, rm_wk_bnd]; done)  | (simp [AV.bnd, AV.bnds, rm_wk_bnd]; done) | simp [AV.bnd, AV.bnds, Room.bnd, rm_wk_bnd]) (fun x hx => ⟨_, _, _, .nil, r86 (x) hx⟩)
theorem has_0 {F : W} {s : Nat} (h : s < 64) : (F &&& (1#64 <<< s) = 0#64) ↔ hs F s = false := by
  constructor
  · intro e
    have := congrArg (fun b : W => b.getLsbD s) e
    simp only [BitVec.getLsbD_and, BitVec.getLsbD_shiftLeft] at this
    simpa [h] using this
  · intro e
    apply BitVec.eq_of_getLsbD_eq
    intro i hi
    rw [BitVec.getLsbD_and, BitVec.getLsbD_shiftLeft]
    by_cases q : i = s
    · subst q; rw [show F.getLsbD i = false from e]; simp
    · have : (1#64).getLsbD (i - s) = decide (i - s = 0) := by rw [BitVec.getLsbD_one]; simp
      rw [this]
      by_cases hlt : i < s
      · simp [hlt]
      · have : ¬ i - s = 0 := by omega
        simp [this]
theorem ok85 : FokM Tryd.prog none1 85 Tryd.f85 := ⟨mixed, by kernel_rfl, by kernel_rfl, by kernel_rfl, by kernel_rfl⟩
theorem r85 (r : Nat) (F : W) (s : Nat) (hp : s < 64) : Body ⟨Tryd.prog, Sof (P := Tryd.prog) [c86.to], Pof (P := Tryd.prog) [], H.nil.base, 300⟩ none1 Tryd.f85 [fA r F, I s] .nil (.bool (hs F s), .nil) := by
  have ev1 := w_and F (1#64 <<< s)
  cases hb : hs F s
  · have hz := (w_eq0 _).2 ((has_0 hp).2 hb)
    refine body_s ([Ans.o (Orc.val 8 (AV.int IntKind.u64 (↑(BitVec.ofNat (64 : Nat) (1 : Nat) <<< s).toNat : Int)) (H.mk [[I (↑r : Int), u64A F]] [] [])), Ans.o (Orc.val 9 (AV.int IntKind.u64 (↑(BitVec.toNat (F &&& BitVec.ofNat (64 : Nat) (1 : Nat) <<< s)) : Int)) H.nil), Ans.o (Orc.b false)]) (aCall (Sof [c86.to]) (AV.fn (Fn.func (86 : Nat)) [] []) [I (↑s : Int)] (H.mk [[I (↑r : Int), u64A F]] [] []) = some (AV.int IntKind.u64 (↑(BitVec.ofNat (64 : Nat) (1 : Nat) <<< s).toNat : Int), H.mk [[I (↑r : Int), u64A F]] [] []) ∧ aBin Tryd.prog BinOp.and (74 : Nat) (u64A F) (AV.int IntKind.u64 (↑(BitVec.ofNat (64 : Nat) (1 : Nat) <<< s).toNat : Int)) = some (AV.int IntKind.u64 (↑(BitVec.toNat (F &&& BitVec.ofNat (64 : Nat) (1 : Nat) <<< s)) : Int)) ∧ (↑(BitVec.toNat (F &&& BitVec.ofNat (64 : Nat) (1 : Nat) <<< s)) : Int) = (0 : Int) ∧ (AV.bool false, H.mk [] [] []) = (AV.bool false, H.mk [] [] [])) (by kernel_rfl) ?_
    refine ⟨by first | (refine acall_hit (c := c86.to) (s) _ rfl ?_; first | exact True.intro | exact hp | exact hp' | (simp only [c86, PCtr.to, pctr, lctr, small, tiny, rng, decide_eq_true_eq, decide_eq_false_iff_not, true_or, or_true, true_and, and_true, Int.reduceEq, Int.reduceNeg, eq_self, reduceIte, if_true, if_false]; first | assumption | omega) | (simp only [c86, PCtr.to, pctr, lctr, small, tiny, rng, decide_eq_true_eq, decide_eq_false_iff_not, true_or, or_true, true_and, and_true, Int.reduceEq, Int.reduceNeg, eq_self, reduceIte, if_true, if_false] at *; first | assumption | omega)) | (refine acall_b (acall_hit (c := c86.to) (s) _ rfl ?_) (by assumption); first | exact True.intro | exact hp | exact hp' | (simp only [c86, PCtr.to, pctr, lctr, small, tiny, rng, decide_eq_true_eq, decide_eq_false_iff_not, true_or, or_true, true_and, and_true, Int.reduceEq, Int.reduceNeg, eq_self, reduceIte, if_true, if_false]; first | assumption | omega) | (simp only [c86, PCtr.to, pctr, lctr, small, tiny, rng, decide_eq_true_eq, decide_eq_false_iff_not, true_or, or_true, true_and, and_true, Int.reduceEq, Int.reduceNeg, eq_self, reduceIte, if_true, if_false] at *; first | assumption | omega)), ?_⟩
    refine ⟨told_and (by with_reducible assumption), ?_⟩
    refine ⟨by first | with_reducible assumption | omega | assumption, ?_⟩
    first | with_reducible rfl | (refine bleaf_t ?_; omega) | (refine bleaf_f ?_; omega) | (refine ileaf ?_; omega) | rfl | (exfalso; omega)
  · have hz : ¬ (((F &&& (1#64 <<< s)).toNat : Int) = 0) := fun e => by
      have := (has_0 hp).1 ((w_eq0 _).1 e)
      rw [hb] at this; cases this
    refine body_s ([Ans.o (Orc.val 8 (AV.int IntKind.u64 (↑(BitVec.ofNat (64 : Nat) (1 : Nat) <<< s).toNat : Int)) (H.mk [[I (↑r : Int), u64A F]] [] [])), Ans.o (Orc.val 9 (AV.int IntKind.u64 (↑(BitVec.toNat (F &&& BitVec.ofNat (64 : Nat) (1 : Nat) <<< s)) : Int)) H.nil), Ans.fork [] []]) (aCall (Sof [c86.to]) (AV.fn (Fn.func (86 : Nat)) [] []) [I (↑s : Int)] (H.mk [[I (↑r : Int), u64A F]] [] []) = some (AV.int IntKind.u64 (↑(BitVec.ofNat (64 : Nat) (1 : Nat) <<< s).toNat : Int), H.mk [[I (↑r : Int), u64A F]] [] []) ∧ aBin Tryd.prog BinOp.and (74 : Nat) (u64A F) (AV.int IntKind.u64 (↑(BitVec.ofNat (64 : Nat) (1 : Nat) <<< s).toNat : Int)) = some (AV.int IntKind.u64 (↑(BitVec.toNat (F &&& BitVec.ofNat (64 : Nat) (1 : Nat) <<< s)) : Int)) ∧ ((↑(BitVec.toNat (F &&& BitVec.ofNat (64 : Nat) (1 : Nat) <<< s)) : Int) ≠ (0 : Int) → (AV.bool true, H.mk [] [] []) = (AV.bool true, H.mk [] [] [])) ∧ ((↑(BitVec.toNat (F &&& BitVec.ofNat (64 : Nat) (1 : Nat) <<< s)) : Int) = (0 : Int) → (AV.bool false, H.mk [] [] []) = (AV.bool true, H.mk [] [] []))) (by kernel_rfl) ?_
    refine ⟨by first | (refine acall_hit (c := c86.to) (s) _ rfl ?_; first | exact True.intro | exact hp | exact hp' | (simp only [c86, PCtr.to, pctr, lctr, small, tiny, rng, decide_eq_true_eq, decide_eq_false_iff_not, true_or, or_true, true_and, and_true, Int.reduceEq, Int.reduceNeg, eq_self, reduceIte, if_true, if_false]; first | assumption | omega) | (simp only [c86, PCtr.to, pctr, lctr, small, tiny, rng, decide_eq_true_eq, decide_eq_false_iff_not, true_or, or_true, true_and, and_true, Int.reduceEq, Int.reduceNeg, eq_self, reduceIte, if_true, if_false] at *; first | assumption | omega)) | (refine acall_b (acall_hit (c := c86.to) (s) _ rfl ?_) (by assumption); first | exact True.intro | exact hp | exact hp' | (simp only [c86, PCtr.to, pctr, lctr, small, tiny, rng, decide_eq_true_eq, decide_eq_false_iff_not, true_or, or_true, true_and, and_true, Int.reduceEq, Int.reduceNeg, eq_self, reduceIte, if_true, if_false]; first | assumption | omega) | (simp only [c86, PCtr.to, pctr, lctr, small, tiny, rng, decide_eq_true_eq, decide_eq_false_iff_not, true_or, or_true, true_and, and_true, Int.reduceEq, Int.reduceNeg, eq_self, reduceIte, if_true, if_false] at *; first | assumption | omega)), ?_⟩
    refine ⟨told_and (by with_reducible assumption), ?_⟩
    refine And.intro ?_ ?_
    · skip
      intro w0
      first | with_reducible rfl | (refine bleaf_t ?_; omega) | (refine bleaf_f ?_; omega) | (refine ileaf ?_; omega) | rfl | (exfalso; omega)
    · skip
      intro w0
      first | with_reducible rfl | (refine bleaf_t ?_; omega) | (refine bleaf_f ?_; omega) | (refine ileaf ?_; omega) | rfl | (exfalso; omega)
noncomputable def c85 : PCtr Tryd.prog := sctr ok85 (X := Nat × W × Nat) (fun x => [fA x.1 x.2.1, I x.2.2]) (fun x => x.2.2 < 64) (fun x => .bool (hs x.2.1 x.2.2)) (by intro x y e _ _; simp [Int.natCast_inj] at e; simp [e]) (fun x => by simp [AV.bnds, AV.bnd, AV.wk, rm_wk_bnd]) (fun x => by first | rfl | (simp [AV.bnd, rm_wk_bnd]; done)  | (simp [AV.bnd, AV.bnds, rm_wk_bnd]; done) | simp [AV.bnd, AV.bnds, Room.bnd, rm_wk_bnd]) (fun x hx => ⟨_, _, _, .pure c86 (.nil), r85 (x.1) (x.2.1) (x.2.2) hx⟩)
theorem ok111 : FokM Tryd.prog none1 111 Tryd.f111 := ⟨mixed, by kernel_rfl, by kernel_rfl, by kernel_rfl, by kernel_rfl⟩
theorem r111 (n : Int) (hp : True) : Body ⟨Tryd.prog, Sof (P := Tryd.prog) [], Pof (P := Tryd.prog) [], H.nil.base, 300⟩ none1 Tryd.f111 [I n] .nil (.bool (decide (1 ≤ n ∧ n ≤ 6)), .nil) := by
  refine body_s ([Ans.fork [Ans.fork [] []] []]) (((1 : Int) ≤ n → (n ≤ (6 : Int) → (AV.bool true, H.mk [] [] []) = (AV.bool (decide ((1 : Int) ≤ n ∧ n ≤ (6 : Int))), H.mk [] [] [])) ∧ ((6 : Int) < n → (AV.bool false, H.mk [] [] []) = (AV.bool (decide ((1 : Int) ≤ n ∧ n ≤ (6 : Int))), H.mk [] [] []))) ∧ (n < (1 : Int) → (AV.bool false, H.mk [] [] []) = (AV.bool (decide ((1 : Int) ≤ n ∧ n ≤ (6 : Int))), H.mk [] [] []))) (by kernel_rfl) ?_
  refine And.intro ?_ ?_
  · skip
    intro w0
    refine And.intro ?_ ?_
    · skip
      intro w1
      first | with_reducible rfl | (refine bleaf_t ?_; omega) | (refine bleaf_f ?_; omega) | (refine ileaf ?_; omega) | rfl | (exfalso; omega)
    · skip
      intro w1
      first | with_reducible rfl | (refine bleaf_t ?_; omega) | (refine bleaf_f ?_; omega) | (refine ileaf ?_; omega) | rfl | (exfalso; omega)
  · skip
    intro w0
    first | with_reducible rfl | (refine bleaf_t ?_; omega) | (refine bleaf_f ?_; omega) | (refine ileaf ?_; omega) | rfl | (exfalso; omega)
noncomputable def c111 : PCtr Tryd.prog := sctr ok111 (X := Int) (fun x => [I x]) (fun x => True) (fun x => .bool (decide (1 ≤ x ∧ x ≤ 6))) (by intro x y e _ _; simp [Int.natCast_inj] at e; simp [e]) (fun x => by simp [AV.bnds, AV.bnd, AV.wk, rm_wk_bnd]) (fun x => by first | rfl | (simp [AV.bnd, rm_wk_bnd]; done)  | (simp [AV.bnd, AV.bnds, rm_wk_bnd]; done) | simp [AV.bnd, AV.bnds, Room.bnd, rm_wk_bnd]) (fun x hx => ⟨_, _, _, .nil, r111 (x) hx⟩)
end Go.Proofs.Evd

