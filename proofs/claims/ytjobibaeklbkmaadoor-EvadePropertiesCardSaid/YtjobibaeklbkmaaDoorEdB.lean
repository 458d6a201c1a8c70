/- Layer 8: links, what is left. -/
import Derived.Test.YtjobibaeklbkmaaDoorEdA
import Derived.KernelRfl
set_option linter.unusedSimpArgs false
set_option linter.unusedVariables false
set_option linter.unnecessarySimpa false
set_option maxHeartbeats 4000000
set_option maxRecDepth 100000
namespace Go.Proofs.Evd
open Go Go.VM
open Go.Proofs.Sur (W w_wrap w_nat w_inj w_eq0 w_and w_or w_andn w_shl w_shr neg_nat sub_nat andn andn_bit andn_le i_wrap i_and i_or i_andn i_shl i_shr bit_01)

theorem ok69 : FokM Tryd.prog none1 69 Tryd.f69 := ⟨mixed, by kernel_rfl, by kernel_rfl, by kernel_rfl, by kernel_rfl⟩
theorem ok70 : FokM Tryd.prog none1 70 Tryd.f70 := ⟨mixed, by kernel_rfl, by kernel_rfl, by kernel_rfl, by kernel_rfl⟩
theorem r69_0 (r : Nat) (F : W) (hr : r < 64) : Body (En6 []) none1 Tryd.f69 [fA r F, I 0] .nil (fA (rst r 0) (lnk F 0), .nil) := by
  have ev0 : IntKind.i64.wrap (1 * 2 ^ min ((0 : Int)).toNat IntKind.i64.bits) = 1 := by decide
  have ev1 : IntKind.i64.wrap ((BitVec.ofInt IntKind.i64.bits (r : Int) &&& ~~~BitVec.ofInt IntKind.i64.bits 1).toNat : Int) = ((rst r 0 : Nat) : Int) := i_andn (a := r) (b := 1) (by omega)
  have ev2 : IntKind.u64.wrap (1 * 2 ^ min ((0 : Int)).toNat IntKind.u64.bits) = 1 := by decide
  have ev3 : (F.toNat : Int).fdiv (2 ^ min ((1 : Int)).toNat IntKind.u64.bits) = ((F >>> 1).toNat : Int) := w_shr F (n := 1) (by decide)
  have ev4 : IntKind.u64.wrap ((BitVec.ofInt IntKind.u64.bits ((F >>> 1).toNat : Int) &&& BitVec.ofInt IntKind.u64.bits 6148914691236517205).toNat : Int) = ((lnk F 0).toNat : Int) := w_and (F >>> 1) (lk 0)
  refine body_s ([Ans.o (Orc.val 8 (I 1) H.nil), Ans.o (Orc.val 9 (I (↑(rst r (0 : Nat)) : Int)) H.nil), Ans.o (Orc.val 13 (AV.int IntKind.u64 (1 : Int)) H.nil), Ans.o (Orc.val 14 (AV.int IntKind.u64 (↑(F >>> (1 : Nat)).toNat : Int)) H.nil), Ans.o (Orc.val 18 (AV.int IntKind.u64 (↑(BitVec.toNat (lnk F (0 : Nat))) : Int)) H.nil)]) (aBin Tryd.prog BinOp.shl (3 : Nat) (I 1) (I 0) = some (I 1) ∧ aBin Tryd.prog BinOp.andNot (3 : Nat) (I (↑r : Int)) (I 1) = some (I (↑(rst r (0 : Nat)) : Int)) ∧ aBin Tryd.prog BinOp.shl (65 : Nat) (AV.int IntKind.u64 (1 : Int)) (I 0) = some (AV.int IntKind.u64 (1 : Int)) ∧ aBin Tryd.prog BinOp.shr (74 : Nat) (u64A F) (AV.int IntKind.u64 (1 : Int)) = some (AV.int IntKind.u64 (↑(F >>> (1 : Nat)).toNat : Int)) ∧ aBin Tryd.prog BinOp.and (74 : Nat) (AV.int IntKind.u64 (↑(F >>> (1 : Nat)).toNat : Int)) (AV.int IntKind.u64 (6148914691236517205 : Int)) = some (AV.int IntKind.u64 (↑(BitVec.toNat (lnk F (0 : Nat))) : Int)) ∧ (AV.agg [I (↑(rst r (0 : Nat)) : Int), AV.int IntKind.u64 (↑(BitVec.toNat (lnk F (0 : Nat))) : Int)], H.mk [] [] []) = (AV.agg [I (↑(rst r (0 : Nat)) : Int), AV.int IntKind.u64 (↑(BitVec.toNat (lnk F (0 : Nat))) : Int)], H.mk [] [] [])) (by kernel_rfl) ?_
  refine ⟨by first | exact told_shl (by first | exact Int.natCast_nonneg _ | omega) (by with_reducible assumption) | exact told_shl (by omega) rfl, ?_⟩
  refine ⟨told_andn (by with_reducible assumption), ?_⟩
  refine ⟨by first | exact told_shl (by first | exact Int.natCast_nonneg _ | omega) (by with_reducible assumption) | exact told_shl (by omega) rfl, ?_⟩
  refine ⟨by first | exact told_shr (by first | exact Int.natCast_nonneg _ | omega) (by with_reducible assumption) | exact told_shr (by omega) rfl, ?_⟩
  refine ⟨told_and (by with_reducible assumption), ?_⟩
  rfl
theorem r70_0 (r : Nat) (F : W) (hr : r < 64) : Body (En6 []) none1 Tryd.f70 [fA r F, I 0] .nil (fA (rst r 0) (wot F 0), .nil) := by
  have ev0 : IntKind.i64.wrap (1 * 2 ^ min ((0 : Int)).toNat IntKind.i64.bits) = 1 := by decide
  have ev1 : IntKind.i64.wrap ((BitVec.ofInt IntKind.i64.bits (r : Int) &&& ~~~BitVec.ofInt IntKind.i64.bits 1).toNat : Int) = ((rst r 0 : Nat) : Int) := i_andn (a := r) (b := 1) (by omega)
  have ev2 : IntKind.u64.wrap ((BitVec.ofInt IntKind.u64.bits (F.toNat : Int) &&& BitVec.ofInt IntKind.u64.bits 6148914691236517205).toNat : Int) = ((wot F 0).toNat : Int) := w_and F (lk 0)
  refine body_s ([Ans.o (Orc.val 8 (I 1) H.nil), Ans.o (Orc.val 9 (I (↑(rst r (0 : Nat)) : Int)) H.nil), Ans.o (Orc.val 15 (AV.int IntKind.u64 (↑(BitVec.toNat (wot F (0 : Nat))) : Int)) H.nil)]) (aBin Tryd.prog BinOp.shl (3 : Nat) (I 1) (I 0) = some (I 1) ∧ aBin Tryd.prog BinOp.andNot (3 : Nat) (I (↑r : Int)) (I 1) = some (I (↑(rst r (0 : Nat)) : Int)) ∧ aBin Tryd.prog BinOp.and (74 : Nat) (u64A F) (AV.int IntKind.u64 (6148914691236517205 : Int)) = some (AV.int IntKind.u64 (↑(BitVec.toNat (wot F (0 : Nat))) : Int)) ∧ (AV.agg [I (↑(rst r (0 : Nat)) : Int), AV.int IntKind.u64 (↑(BitVec.toNat (wot F (0 : Nat))) : Int)], H.mk [] [] []) = (AV.agg [I (↑(rst r (0 : Nat)) : Int), AV.int IntKind.u64 (↑(BitVec.toNat (wot F (0 : Nat))) : Int)], H.mk [] [] [])) (by kernel_rfl) ?_
  refine ⟨by first | exact told_shl (by first | exact Int.natCast_nonneg _ | omega) (by with_reducible assumption) | exact told_shl (by omega) rfl, ?_⟩
  refine ⟨told_andn (by with_reducible assumption), ?_⟩
  refine ⟨told_and (by with_reducible assumption), ?_⟩
  rfl
theorem r69_1 (r : Nat) (F : W) (hr : r < 64) : Body (En6 []) none1 Tryd.f69 [fA r F, I 1] .nil (fA (rst r 1) (lnk F 1), .nil) := by
  have ev0 : IntKind.i64.wrap (1 * 2 ^ min ((1 : Int)).toNat IntKind.i64.bits) = 2 := by decide
  have ev1 : IntKind.i64.wrap ((BitVec.ofInt IntKind.i64.bits (r : Int) &&& ~~~BitVec.ofInt IntKind.i64.bits 2).toNat : Int) = ((rst r 1 : Nat) : Int) := i_andn (a := r) (b := 2) (by omega)
  have ev2 : IntKind.u64.wrap (1 * 2 ^ min ((1 : Int)).toNat IntKind.u64.bits) = 2 := by decide
  have ev3 : (F.toNat : Int).fdiv (2 ^ min ((2 : Int)).toNat IntKind.u64.bits) = ((F >>> 2).toNat : Int) := w_shr F (n := 2) (by decide)
  have ev4 : IntKind.u64.wrap ((BitVec.ofInt IntKind.u64.bits ((F >>> 2).toNat : Int) &&& BitVec.ofInt IntKind.u64.bits 3689348814741910323).toNat : Int) = ((lnk F 1).toNat : Int) := w_and (F >>> 2) (lk 1)
  refine body_s ([Ans.o (Orc.val 8 (I 2) H.nil), Ans.o (Orc.val 9 (I (↑(rst r (1 : Nat)) : Int)) H.nil), Ans.o (Orc.val 13 (AV.int IntKind.u64 (2 : Int)) H.nil), Ans.o (Orc.val 14 (AV.int IntKind.u64 (↑(F >>> (2 : Nat)).toNat : Int)) H.nil), Ans.o (Orc.val 18 (AV.int IntKind.u64 (↑(BitVec.toNat (lnk F (1 : Nat))) : Int)) H.nil)]) (aBin Tryd.prog BinOp.shl (3 : Nat) (I 1) (I 1) = some (I 2) ∧ aBin Tryd.prog BinOp.andNot (3 : Nat) (I (↑r : Int)) (I 2) = some (I (↑(rst r (1 : Nat)) : Int)) ∧ aBin Tryd.prog BinOp.shl (65 : Nat) (AV.int IntKind.u64 (1 : Int)) (I 1) = some (AV.int IntKind.u64 (2 : Int)) ∧ aBin Tryd.prog BinOp.shr (74 : Nat) (u64A F) (AV.int IntKind.u64 (2 : Int)) = some (AV.int IntKind.u64 (↑(F >>> (2 : Nat)).toNat : Int)) ∧ aBin Tryd.prog BinOp.and (74 : Nat) (AV.int IntKind.u64 (↑(F >>> (2 : Nat)).toNat : Int)) (AV.int IntKind.u64 (3689348814741910323 : Int)) = some (AV.int IntKind.u64 (↑(BitVec.toNat (lnk F (1 : Nat))) : Int)) ∧ (AV.agg [I (↑(rst r (1 : Nat)) : Int), AV.int IntKind.u64 (↑(BitVec.toNat (lnk F (1 : Nat))) : Int)], H.mk [] [] []) = (AV.agg [I (↑(rst r (1 : Nat)) : Int), AV.int IntKind.u64 (↑(BitVec.toNat (lnk F (1 : Nat))) : Int)], H.mk [] [] [])) (by kernel_rfl) ?_
  refine ⟨by first | exact told_shl (by first | exact Int.natCast_nonneg _ | omega) (by with_reducible assumption) | exact told_shl (by omega) rfl, ?_⟩
  refine ⟨told_andn (by with_reducible assumption), ?_⟩
  refine ⟨by first | exact told_shl (by first | exact Int.natCast_nonneg _ | omega) (by with_reducible assumption) | exact told_shl (by omega) rfl, ?_⟩
  refine ⟨by first | exact told_shr (by first | exact Int.natCast_nonneg _ | omega) (by with_reducible assumption) | exact told_shr (by omega) rfl, ?_⟩
  refine ⟨told_and (by with_reducible assumption), ?_⟩
  rfl
theorem r70_1 (r : Nat) (F : W) (hr : r < 64) : Body (En6 []) none1 Tryd.f70 [fA r F, I 1] .nil (fA (rst r 1) (wot F 1), .nil) := by
  have ev0 : IntKind.i64.wrap (1 * 2 ^ min ((1 : Int)).toNat IntKind.i64.bits) = 2 := by decide
  have ev1 : IntKind.i64.wrap ((BitVec.ofInt IntKind.i64.bits (r : Int) &&& ~~~BitVec.ofInt IntKind.i64.bits 2).toNat : Int) = ((rst r 1 : Nat) : Int) := i_andn (a := r) (b := 2) (by omega)
  have ev2 : IntKind.u64.wrap ((BitVec.ofInt IntKind.u64.bits (F.toNat : Int) &&& BitVec.ofInt IntKind.u64.bits 3689348814741910323).toNat : Int) = ((wot F 1).toNat : Int) := w_and F (lk 1)
  refine body_s ([Ans.o (Orc.val 8 (I 2) H.nil), Ans.o (Orc.val 9 (I (↑(rst r (1 : Nat)) : Int)) H.nil), Ans.o (Orc.val 15 (AV.int IntKind.u64 (↑(BitVec.toNat (wot F (1 : Nat))) : Int)) H.nil)]) (aBin Tryd.prog BinOp.shl (3 : Nat) (I 1) (I 1) = some (I 2) ∧ aBin Tryd.prog BinOp.andNot (3 : Nat) (I (↑r : Int)) (I 2) = some (I (↑(rst r (1 : Nat)) : Int)) ∧ aBin Tryd.prog BinOp.and (74 : Nat) (u64A F) (AV.int IntKind.u64 (3689348814741910323 : Int)) = some (AV.int IntKind.u64 (↑(BitVec.toNat (wot F (1 : Nat))) : Int)) ∧ (AV.agg [I (↑(rst r (1 : Nat)) : Int), AV.int IntKind.u64 (↑(BitVec.toNat (wot F (1 : Nat))) : Int)], H.mk [] [] []) = (AV.agg [I (↑(rst r (1 : Nat)) : Int), AV.int IntKind.u64 (↑(BitVec.toNat (wot F (1 : Nat))) : Int)], H.mk [] [] [])) (by kernel_rfl) ?_
  refine ⟨by first | exact told_shl (by first | exact Int.natCast_nonneg _ | omega) (by with_reducible assumption) | exact told_shl (by omega) rfl, ?_⟩
  refine ⟨told_andn (by with_reducible assumption), ?_⟩
  refine ⟨told_and (by with_reducible assumption), ?_⟩
  rfl
theorem r69_2 (r : Nat) (F : W) (hr : r < 64) : Body (En6 []) none1 Tryd.f69 [fA r F, I 2] .nil (fA (rst r 2) (lnk F 2), .nil) := by
  have ev0 : IntKind.i64.wrap (1 * 2 ^ min ((2 : Int)).toNat IntKind.i64.bits) = 4 := by decide
  have ev1 : IntKind.i64.wrap ((BitVec.ofInt IntKind.i64.bits (r : Int) &&& ~~~BitVec.ofInt IntKind.i64.bits 4).toNat : Int) = ((rst r 2 : Nat) : Int) := i_andn (a := r) (b := 4) (by omega)
  have ev2 : IntKind.u64.wrap (1 * 2 ^ min ((2 : Int)).toNat IntKind.u64.bits) = 4 := by decide
  have ev3 : (F.toNat : Int).fdiv (2 ^ min ((4 : Int)).toNat IntKind.u64.bits) = ((F >>> 4).toNat : Int) := w_shr F (n := 4) (by decide)
  have ev4 : IntKind.u64.wrap ((BitVec.ofInt IntKind.u64.bits ((F >>> 4).toNat : Int) &&& BitVec.ofInt IntKind.u64.bits 1085102592571150095).toNat : Int) = ((lnk F 2).toNat : Int) := w_and (F >>> 4) (lk 2)
  refine body_s ([Ans.o (Orc.val 8 (I 4) H.nil), Ans.o (Orc.val 9 (I (↑(rst r (2 : Nat)) : Int)) H.nil), Ans.o (Orc.val 13 (AV.int IntKind.u64 (4 : Int)) H.nil), Ans.o (Orc.val 14 (AV.int IntKind.u64 (↑(F >>> (4 : Nat)).toNat : Int)) H.nil), Ans.o (Orc.val 18 (AV.int IntKind.u64 (↑(BitVec.toNat (lnk F (2 : Nat))) : Int)) H.nil)]) (aBin Tryd.prog BinOp.shl (3 : Nat) (I 1) (I 2) = some (I 4) ∧ aBin Tryd.prog BinOp.andNot (3 : Nat) (I (↑r : Int)) (I 4) = some (I (↑(rst r (2 : Nat)) : Int)) ∧ aBin Tryd.prog BinOp.shl (65 : Nat) (AV.int IntKind.u64 (1 : Int)) (I 2) = some (AV.int IntKind.u64 (4 : Int)) ∧ aBin Tryd.prog BinOp.shr (74 : Nat) (u64A F) (AV.int IntKind.u64 (4 : Int)) = some (AV.int IntKind.u64 (↑(F >>> (4 : Nat)).toNat : Int)) ∧ aBin Tryd.prog BinOp.and (74 : Nat) (AV.int IntKind.u64 (↑(F >>> (4 : Nat)).toNat : Int)) (AV.int IntKind.u64 (1085102592571150095 : Int)) = some (AV.int IntKind.u64 (↑(BitVec.toNat (lnk F (2 : Nat))) : Int)) ∧ (AV.agg [I (↑(rst r (2 : Nat)) : Int), AV.int IntKind.u64 (↑(BitVec.toNat (lnk F (2 : Nat))) : Int)], H.mk [] [] []) = (AV.agg [I (↑(rst r (2 : Nat)) : Int), AV.int IntKind.u64 (↑(BitVec.toNat (lnk F (2 : Nat))) : Int)], H.mk [] [] [])) (by kernel_rfl) ?_
  refine ⟨by first | exact told_shl (by first | exact Int.natCast_nonneg _ | omega) (by with_reducible assumption) | exact told_shl (by omega) rfl, ?_⟩
  refine ⟨told_andn (by with_reducible assumption), ?_⟩
  refine ⟨by first | exact told_shl (by first | exact Int.natCast_nonneg _ | omega) (by with_reducible assumption) | exact told_shl (by omega) rfl, ?_⟩
  refine ⟨by first | exact told_shr (by first | exact Int.natCast_nonneg _ | omega) (by with_reducible assumption) | exact told_shr (by omega) rfl, ?_⟩
  refine ⟨told_and (by with_reducible assumption), ?_⟩
  rfl
theorem r70_2 (r : Nat) (F : W) (hr : r < 64) : Body (En6 []) none1 Tryd.f70 [fA r F, I 2] .nil (fA (rst r 2) (wot F 2), .nil) := by
  have ev0 : IntKind.i64.wrap (1 * 2 ^ min ((2 : Int)).toNat IntKind.i64.bits) = 4 := by decide
  have ev1 : IntKind.i64.wrap ((BitVec.ofInt IntKind.i64.bits (r : Int) &&& ~~~BitVec.ofInt IntKind.i64.bits 4).toNat : Int) = ((rst r 2 : Nat) : Int) := i_andn (a := r) (b := 4) (by omega)
  have ev2 : IntKind.u64.wrap ((BitVec.ofInt IntKind.u64.bits (F.toNat : Int) &&& BitVec.ofInt IntKind.u64.bits 1085102592571150095).toNat : Int) = ((wot F 2).toNat : Int) := w_and F (lk 2)
  refine body_s ([Ans.o (Orc.val 8 (I 4) H.nil), Ans.o (Orc.val 9 (I (↑(rst r (2 : Nat)) : Int)) H.nil), Ans.o (Orc.val 15 (AV.int IntKind.u64 (↑(BitVec.toNat (wot F (2 : Nat))) : Int)) H.nil)]) (aBin Tryd.prog BinOp.shl (3 : Nat) (I 1) (I 2) = some (I 4) ∧ aBin Tryd.prog BinOp.andNot (3 : Nat) (I (↑r : Int)) (I 4) = some (I (↑(rst r (2 : Nat)) : Int)) ∧ aBin Tryd.prog BinOp.and (74 : Nat) (u64A F) (AV.int IntKind.u64 (1085102592571150095 : Int)) = some (AV.int IntKind.u64 (↑(BitVec.toNat (wot F (2 : Nat))) : Int)) ∧ (AV.agg [I (↑(rst r (2 : Nat)) : Int), AV.int IntKind.u64 (↑(BitVec.toNat (wot F (2 : Nat))) : Int)], H.mk [] [] []) = (AV.agg [I (↑(rst r (2 : Nat)) : Int), AV.int IntKind.u64 (↑(BitVec.toNat (wot F (2 : Nat))) : Int)], H.mk [] [] [])) (by kernel_rfl) ?_
  refine ⟨by first | exact told_shl (by first | exact Int.natCast_nonneg _ | omega) (by with_reducible assumption) | exact told_shl (by omega) rfl, ?_⟩
  refine ⟨told_andn (by with_reducible assumption), ?_⟩
  refine ⟨told_and (by with_reducible assumption), ?_⟩
  rfl
theorem r69_3 (r : Nat) (F : W) (hr : r < 64) : Body (En6 []) none1 Tryd.f69 [fA r F, I 3] .nil (fA (rst r 3) (lnk F 3), .nil) := by
  have ev0 : IntKind.i64.wrap (1 * 2 ^ min ((3 : Int)).toNat IntKind.i64.bits) = 8 := by decide
  have ev1 : IntKind.i64.wrap ((BitVec.ofInt IntKind.i64.bits (r : Int) &&& ~~~BitVec.ofInt IntKind.i64.bits 8).toNat : Int) = ((rst r 3 : Nat) : Int) := i_andn (a := r) (b := 8) (by omega)
  have ev2 : IntKind.u64.wrap (1 * 2 ^ min ((3 : Int)).toNat IntKind.u64.bits) = 8 := by decide
  have ev3 : (F.toNat : Int).fdiv (2 ^ min ((8 : Int)).toNat IntKind.u64.bits) = ((F >>> 8).toNat : Int) := w_shr F (n := 8) (by decide)
  have ev4 : IntKind.u64.wrap ((BitVec.ofInt IntKind.u64.bits ((F >>> 8).toNat : Int) &&& BitVec.ofInt IntKind.u64.bits 71777214294589695).toNat : Int) = ((lnk F 3).toNat : Int) := w_and (F >>> 8) (lk 3)
  refine body_s ([Ans.o (Orc.val 8 (I 8) H.nil), Ans.o (Orc.val 9 (I (↑(rst r (3 : Nat)) : Int)) H.nil), Ans.o (Orc.val 13 (AV.int IntKind.u64 (8 : Int)) H.nil), Ans.o (Orc.val 14 (AV.int IntKind.u64 (↑(F >>> (8 : Nat)).toNat : Int)) H.nil), Ans.o (Orc.val 18 (AV.int IntKind.u64 (↑(BitVec.toNat (lnk F (3 : Nat))) : Int)) H.nil)]) (aBin Tryd.prog BinOp.shl (3 : Nat) (I 1) (I 3) = some (I 8) ∧ aBin Tryd.prog BinOp.andNot (3 : Nat) (I (↑r : Int)) (I 8) = some (I (↑(rst r (3 : Nat)) : Int)) ∧ aBin Tryd.prog BinOp.shl (65 : Nat) (AV.int IntKind.u64 (1 : Int)) (I 3) = some (AV.int IntKind.u64 (8 : Int)) ∧ aBin Tryd.prog BinOp.shr (74 : Nat) (u64A F) (AV.int IntKind.u64 (8 : Int)) = some (AV.int IntKind.u64 (↑(F >>> (8 : Nat)).toNat : Int)) ∧ aBin Tryd.prog BinOp.and (74 : Nat) (AV.int IntKind.u64 (↑(F >>> (8 : Nat)).toNat : Int)) (AV.int IntKind.u64 (71777214294589695 : Int)) = some (AV.int IntKind.u64 (↑(BitVec.toNat (lnk F (3 : Nat))) : Int)) ∧ (AV.agg [I (↑(rst r (3 : Nat)) : Int), AV.int IntKind.u64 (↑(BitVec.toNat (lnk F (3 : Nat))) : Int)], H.mk [] [] []) = (AV.agg [I (↑(rst r (3 : Nat)) : Int), AV.int IntKind.u64 (↑(BitVec.toNat (lnk F (3 : Nat))) : Int)], H.mk [] [] [])) (by kernel_rfl) ?_
  refine ⟨by first | exact told_shl (by first | exact Int.natCast_nonneg _ | omega) (by with_reducible assumption) | exact told_shl (by omega) rfl, ?_⟩
  refine ⟨told_andn (by with_reducible assumption), ?_⟩
  refine ⟨by first | exact told_shl (by first | exact Int.natCast_nonneg _ | omega) (by with_reducible assumption) | exact told_shl (by omega) rfl, ?_⟩
  refine ⟨by first | exact told_shr (by first | exact Int.natCast_nonneg _ | omega) (by with_reducible assumption) | exact told_shr (by omega) rfl, ?_⟩
  refine ⟨told_and (by with_reducible assumption), ?_⟩
  rfl
theorem r70_3 (r : Nat) (F : W) (hr : r < 64) : Body (En6 []) none1 Tryd.f70 [fA r F, I 3] .nil (fA (rst r 3) (wot F 3), .nil) := by
  have ev0 : IntKind.i64.wrap (1 * 2 ^ min ((3 : Int)).toNat IntKind.i64.bits) = 8 := by decide
  have ev1 : IntKind.i64.wrap ((BitVec.ofInt IntKind.i64.bits (r : Int) &&& ~~~BitVec.ofInt IntKind.i64.bits 8).toNat : Int) = ((rst r 3 : Nat) : Int) := i_andn (a := r) (b := 8) (by omega)
  have ev2 : IntKind.u64.wrap ((BitVec.ofInt IntKind.u64.bits (F.toNat : Int) &&& BitVec.ofInt IntKind.u64.bits 71777214294589695).toNat : Int) = ((wot F 3).toNat : Int) := w_and F (lk 3)
  refine body_s ([Ans.o (Orc.val 8 (I 8) H.nil), Ans.o (Orc.val 9 (I (↑(rst r (3 : Nat)) : Int)) H.nil), Ans.o (Orc.val 15 (AV.int IntKind.u64 (↑(BitVec.toNat (wot F (3 : Nat))) : Int)) H.nil)]) (aBin Tryd.prog BinOp.shl (3 : Nat) (I 1) (I 3) = some (I 8) ∧ aBin Tryd.prog BinOp.andNot (3 : Nat) (I (↑r : Int)) (I 8) = some (I (↑(rst r (3 : Nat)) : Int)) ∧ aBin Tryd.prog BinOp.and (74 : Nat) (u64A F) (AV.int IntKind.u64 (71777214294589695 : Int)) = some (AV.int IntKind.u64 (↑(BitVec.toNat (wot F (3 : Nat))) : Int)) ∧ (AV.agg [I (↑(rst r (3 : Nat)) : Int), AV.int IntKind.u64 (↑(BitVec.toNat (wot F (3 : Nat))) : Int)], H.mk [] [] []) = (AV.agg [I (↑(rst r (3 : Nat)) : Int), AV.int IntKind.u64 (↑(BitVec.toNat (wot F (3 : Nat))) : Int)], H.mk [] [] [])) (by kernel_rfl) ?_
  refine ⟨by first | exact told_shl (by first | exact Int.natCast_nonneg _ | omega) (by with_reducible assumption) | exact told_shl (by omega) rfl, ?_⟩
  refine ⟨told_andn (by with_reducible assumption), ?_⟩
  refine ⟨told_and (by with_reducible assumption), ?_⟩
  rfl
theorem r69_4 (r : Nat) (F : W) (hr : r < 64) : Body (En6 []) none1 Tryd.f69 [fA r F, I 4] .nil (fA (rst r 4) (lnk F 4), .nil) := by
  have ev0 : IntKind.i64.wrap (1 * 2 ^ min ((4 : Int)).toNat IntKind.i64.bits) = 16 := by decide
  have ev1 : IntKind.i64.wrap ((BitVec.ofInt IntKind.i64.bits (r : Int) &&& ~~~BitVec.ofInt IntKind.i64.bits 16).toNat : Int) = ((rst r 4 : Nat) : Int) := i_andn (a := r) (b := 16) (by omega)
  have ev2 : IntKind.u64.wrap (1 * 2 ^ min ((4 : Int)).toNat IntKind.u64.bits) = 16 := by decide
  have ev3 : (F.toNat : Int).fdiv (2 ^ min ((16 : Int)).toNat IntKind.u64.bits) = ((F >>> 16).toNat : Int) := w_shr F (n := 16) (by decide)
  have ev4 : IntKind.u64.wrap ((BitVec.ofInt IntKind.u64.bits ((F >>> 16).toNat : Int) &&& BitVec.ofInt IntKind.u64.bits 281470681808895).toNat : Int) = ((lnk F 4).toNat : Int) := w_and (F >>> 16) (lk 4)
  refine body_s ([Ans.o (Orc.val 8 (I 16) H.nil), Ans.o (Orc.val 9 (I (↑(rst r (4 : Nat)) : Int)) H.nil), Ans.o (Orc.val 13 (AV.int IntKind.u64 (16 : Int)) H.nil), Ans.o (Orc.val 14 (AV.int IntKind.u64 (↑(F >>> (16 : Nat)).toNat : Int)) H.nil), Ans.o (Orc.val 18 (AV.int IntKind.u64 (↑(BitVec.toNat (lnk F (4 : Nat))) : Int)) H.nil)]) (aBin Tryd.prog BinOp.shl (3 : Nat) (I 1) (I 4) = some (I 16) ∧ aBin Tryd.prog BinOp.andNot (3 : Nat) (I (↑r : Int)) (I 16) = some (I (↑(rst r (4 : Nat)) : Int)) ∧ aBin Tryd.prog BinOp.shl (65 : Nat) (AV.int IntKind.u64 (1 : Int)) (I 4) = some (AV.int IntKind.u64 (16 : Int)) ∧ aBin Tryd.prog BinOp.shr (74 : Nat) (u64A F) (AV.int IntKind.u64 (16 : Int)) = some (AV.int IntKind.u64 (↑(F >>> (16 : Nat)).toNat : Int)) ∧ aBin Tryd.prog BinOp.and (74 : Nat) (AV.int IntKind.u64 (↑(F >>> (16 : Nat)).toNat : Int)) (AV.int IntKind.u64 (281470681808895 : Int)) = some (AV.int IntKind.u64 (↑(BitVec.toNat (lnk F (4 : Nat))) : Int)) ∧ (AV.agg [I (↑(rst r (4 : Nat)) : Int), AV.int IntKind.u64 (↑(BitVec.toNat (lnk F (4 : Nat))) : Int)], H.mk [] [] []) = (AV.agg [I (↑(rst r (4 : Nat)) : Int), AV.int IntKind.u64 (↑(BitVec.toNat (lnk F (4 : Nat))) : Int)], H.mk [] [] [])) (by kernel_rfl) ?_
  refine ⟨by first | exact told_shl (by first | exact Int.natCast_nonneg _ | omega) (by with_reducible assumption) | exact told_shl (by omega) rfl, ?_⟩
  refine ⟨told_andn (by with_reducible assumption), ?_⟩
  refine ⟨by first | exact told_shl (by first | exact Int.natCast_nonneg _ | omega) (by with_reducible assumption) | exact told_shl (by omega) rfl, ?_⟩
  refine ⟨by first | exact told_shr (by first | exact Int.natCast_nonneg _ | omega) (by with_reducible assumption) | exact told_shr (by omega) rfl, ?_⟩
  refine ⟨told_and (by with_reducible assumption), ?_⟩
  rfl
theorem r70_4 (r : Nat) (F : W) (hr : r < 64) : Body (En6 []) none1 Tryd.f70 [fA r F, I 4] .nil (fA (rst r 4) (wot F 4), .nil) := by
  have ev0 : IntKind.i64.wrap (1 * 2 ^ min ((4 : Int)).toNat IntKind.i64.bits) = 16 := by decide
  have ev1 : IntKind.i64.wrap ((BitVec.ofInt IntKind.i64.bits (r : Int) &&& ~~~BitVec.ofInt IntKind.i64.bits 16).toNat : Int) = ((rst r 4 : Nat) : Int) := i_andn (a := r) (b := 16) (by omega)
  have ev2 : IntKind.u64.wrap ((BitVec.ofInt IntKind.u64.bits (F.toNat : Int) &&& BitVec.ofInt IntKind.u64.bits 281470681808895).toNat : Int) = ((wot F 4).toNat : Int) := w_and F (lk 4)
  refine body_s ([Ans.o (Orc.val 8 (I 16) H.nil), Ans.o (Orc.val 9 (I (↑(rst r (4 : Nat)) : Int)) H.nil), Ans.o (Orc.val 15 (AV.int IntKind.u64 (↑(BitVec.toNat (wot F (4 : Nat))) : Int)) H.nil)]) (aBin Tryd.prog BinOp.shl (3 : Nat) (I 1) (I 4) = some (I 16) ∧ aBin Tryd.prog BinOp.andNot (3 : Nat) (I (↑r : Int)) (I 16) = some (I (↑(rst r (4 : Nat)) : Int)) ∧ aBin Tryd.prog BinOp.and (74 : Nat) (u64A F) (AV.int IntKind.u64 (281470681808895 : Int)) = some (AV.int IntKind.u64 (↑(BitVec.toNat (wot F (4 : Nat))) : Int)) ∧ (AV.agg [I (↑(rst r (4 : Nat)) : Int), AV.int IntKind.u64 (↑(BitVec.toNat (wot F (4 : Nat))) : Int)], H.mk [] [] []) = (AV.agg [I (↑(rst r (4 : Nat)) : Int), AV.int IntKind.u64 (↑(BitVec.toNat (wot F (4 : Nat))) : Int)], H.mk [] [] [])) (by kernel_rfl) ?_
  refine ⟨by first | exact told_shl (by first | exact Int.natCast_nonneg _ | omega) (by with_reducible assumption) | exact told_shl (by omega) rfl, ?_⟩
  refine ⟨told_andn (by with_reducible assumption), ?_⟩
  refine ⟨told_and (by with_reducible assumption), ?_⟩
  rfl
theorem r69_5 (r : Nat) (F : W) (hr : r < 64) : Body (En6 []) none1 Tryd.f69 [fA r F, I 5] .nil (fA (rst r 5) (lnk F 5), .nil) := by
  have ev0 : IntKind.i64.wrap (1 * 2 ^ min ((5 : Int)).toNat IntKind.i64.bits) = 32 := by decide
  have ev1 : IntKind.i64.wrap ((BitVec.ofInt IntKind.i64.bits (r : Int) &&& ~~~BitVec.ofInt IntKind.i64.bits 32).toNat : Int) = ((rst r 5 : Nat) : Int) := i_andn (a := r) (b := 32) (by omega)
  have ev2 : IntKind.u64.wrap (1 * 2 ^ min ((5 : Int)).toNat IntKind.u64.bits) = 32 := by decide
  have ev3 : (F.toNat : Int).fdiv (2 ^ min ((32 : Int)).toNat IntKind.u64.bits) = ((F >>> 32).toNat : Int) := w_shr F (n := 32) (by decide)
  have ev4 : IntKind.u64.wrap ((BitVec.ofInt IntKind.u64.bits ((F >>> 32).toNat : Int) &&& BitVec.ofInt IntKind.u64.bits 4294967295).toNat : Int) = ((lnk F 5).toNat : Int) := w_and (F >>> 32) (lk 5)
  refine body_s ([Ans.o (Orc.val 8 (I 32) H.nil), Ans.o (Orc.val 9 (I (↑(rst r (5 : Nat)) : Int)) H.nil), Ans.o (Orc.val 13 (AV.int IntKind.u64 (32 : Int)) H.nil), Ans.o (Orc.val 14 (AV.int IntKind.u64 (↑(F >>> (32 : Nat)).toNat : Int)) H.nil), Ans.o (Orc.val 18 (AV.int IntKind.u64 (↑(BitVec.toNat (lnk F (5 : Nat))) : Int)) H.nil)]) (aBin Tryd.prog BinOp.shl (3 : Nat) (I 1) (I 5) = some (I 32) ∧ aBin Tryd.prog BinOp.andNot (3 : Nat) (I (↑r : Int)) (I 32) = some (I (↑(rst r (5 : Nat)) : Int)) ∧ aBin Tryd.prog BinOp.shl (65 : Nat) (AV.int IntKind.u64 (1 : Int)) (I 5) = some (AV.int IntKind.u64 (32 : Int)) ∧ aBin Tryd.prog BinOp.shr (74 : Nat) (u64A F) (AV.int IntKind.u64 (32 : Int)) = some (AV.int IntKind.u64 (↑(F >>> (32 : Nat)).toNat : Int)) ∧ aBin Tryd.prog BinOp.and (74 : Nat) (AV.int IntKind.u64 (↑(F >>> (32 : Nat)).toNat : Int)) (AV.int IntKind.u64 (4294967295 : Int)) = some (AV.int IntKind.u64 (↑(BitVec.toNat (lnk F (5 : Nat))) : Int)) ∧ (AV.agg [I (↑(rst r (5 : Nat)) : Int), AV.int IntKind.u64 (↑(BitVec.toNat (lnk F (5 : Nat))) : Int)], H.mk [] [] []) = (AV.agg [I (↑(rst r (5 : Nat)) : Int), AV.int IntKind.u64 (↑(BitVec.toNat (lnk F (5 : Nat))) : Int)], H.mk [] [] [])) (by kernel_rfl) ?_
  refine ⟨by first | exact told_shl (by first | exact Int.natCast_nonneg _ | omega) (by with_reducible assumption) | exact told_shl (by omega) rfl, ?_⟩
  refine ⟨told_andn (by with_reducible assumption), ?_⟩
  refine ⟨by first | exact told_shl (by first | exact Int.natCast_nonneg _ | omega) (by with_reducible assumption) | exact told_shl (by omega) rfl, ?_⟩
  refine ⟨by first | exact told_shr (by first | exact Int.natCast_nonneg _ | omega) (by with_reducible assumption) | exact told_shr (by omega) rfl, ?_⟩
  refine ⟨told_and (by with_reducible assumption), ?_⟩
  rfl
theorem r70_5 (r : Nat) (F : W) (hr : r < 64) : Body (En6 []) none1 Tryd.f70 [fA r F, I 5] .nil (fA (rst r 5) (wot F 5), .nil) := by
  have ev0 : IntKind.i64.wrap (1 * 2 ^ min ((5 : Int)).toNat IntKind.i64.bits) = 32 := by decide
  have ev1 : IntKind.i64.wrap ((BitVec.ofInt IntKind.i64.bits (r : Int) &&& ~~~BitVec.ofInt IntKind.i64.bits 32).toNat : Int) = ((rst r 5 : Nat) : Int) := i_andn (a := r) (b := 32) (by omega)
  have ev2 : IntKind.u64.wrap ((BitVec.ofInt IntKind.u64.bits (F.toNat : Int) &&& BitVec.ofInt IntKind.u64.bits 4294967295).toNat : Int) = ((wot F 5).toNat : Int) := w_and F (lk 5)
  refine body_s ([Ans.o (Orc.val 8 (I 32) H.nil), Ans.o (Orc.val 9 (I (↑(rst r (5 : Nat)) : Int)) H.nil), Ans.o (Orc.val 15 (AV.int IntKind.u64 (↑(BitVec.toNat (wot F (5 : Nat))) : Int)) H.nil)]) (aBin Tryd.prog BinOp.shl (3 : Nat) (I 1) (I 5) = some (I 32) ∧ aBin Tryd.prog BinOp.andNot (3 : Nat) (I (↑r : Int)) (I 32) = some (I (↑(rst r (5 : Nat)) : Int)) ∧ aBin Tryd.prog BinOp.and (74 : Nat) (u64A F) (AV.int IntKind.u64 (4294967295 : Int)) = some (AV.int IntKind.u64 (↑(BitVec.toNat (wot F (5 : Nat))) : Int)) ∧ (AV.agg [I (↑(rst r (5 : Nat)) : Int), AV.int IntKind.u64 (↑(BitVec.toNat (wot F (5 : Nat))) : Int)], H.mk [] [] []) = (AV.agg [I (↑(rst r (5 : Nat)) : Int), AV.int IntKind.u64 (↑(BitVec.toNat (wot F (5 : Nat))) : Int)], H.mk [] [] [])) (by kernel_rfl) ?_
  refine ⟨by first | exact told_shl (by first | exact Int.natCast_nonneg _ | omega) (by with_reducible assumption) | exact told_shl (by omega) rfl, ?_⟩
  refine ⟨told_andn (by with_reducible assumption), ?_⟩
  refine ⟨told_and (by with_reducible assumption), ?_⟩
  rfl
theorem r69 (r : Nat) (F : W) (x : Nat) (hr : r < 64) (hx : x < 6) : Body (En6 []) none1 Tryd.f69 [fA r F, I x] .nil (fA (rst r x) (lnk F x), .nil) := by
  have hc : x = 0 ∨ x = 1 ∨ x = 2 ∨ x = 3 ∨ x = 4 ∨ x = 5 := by omega
  rcases hc with rfl | rfl | rfl | rfl | rfl | rfl
  · exact r69_0 r F hr
  · exact r69_1 r F hr
  · exact r69_2 r F hr
  · exact r69_3 r F hr
  · exact r69_4 r F hr
  · exact r69_5 r F hr
theorem r70 (r : Nat) (F : W) (x : Nat) (hr : r < 64) (hx : x < 6) : Body (En6 []) none1 Tryd.f70 [fA r F, I x] .nil (fA (rst r x) (wot F x), .nil) := by
  have hc : x = 0 ∨ x = 1 ∨ x = 2 ∨ x = 3 ∨ x = 4 ∨ x = 5 := by omega
  rcases hc with rfl | rfl | rfl | rfl | rfl | rfl
  · exact r70_0 r F hr
  · exact r70_1 r F hr
  · exact r70_2 r F hr
  · exact r70_3 r F hr
  · exact r70_4 r F hr
  · exact r70_5 r F hr
noncomputable def c69 : PCtr Tryd.prog := sctr ok69 (X := Nat × W × Nat) (fun x => [fA x.1 x.2.1, I x.2.2]) (fun x => x.1 < 64 ∧ x.2.2 < 6) (fun x => fA (rst x.1 x.2.2) (lnk x.2.1 x.2.2)) (by intro x y e _ _; simp at e; obtain ⟨⟨h1, h2⟩, h3⟩ := e; rw [show x.1 = y.1 by omega, h2, show x.2.2 = y.2.2 by omega]) (fun x => by simp [AV.bnds, AV.bnd, AV.wk]) (fun x => rfl) (fun x hx => ⟨_, _, _, .nil, r69 x.1 x.2.1 x.2.2 hx.1 hx.2⟩)
noncomputable def c70 : PCtr Tryd.prog := sctr ok70 (X := Nat × W × Nat) (fun x => [fA x.1 x.2.1, I x.2.2]) (fun x => x.1 < 64 ∧ x.2.2 < 6) (fun x => fA (rst x.1 x.2.2) (wot x.2.1 x.2.2)) (by intro x y e _ _; simp at e; obtain ⟨⟨h1, h2⟩, h3⟩ := e; rw [show x.1 = y.1 by omega, h2, show x.2.2 = y.2.2 by omega]) (fun x => by simp [AV.bnds, AV.bnd, AV.wk]) (fun x => rfl) (fun x hx => ⟨_, _, _, .nil, r70 x.1 x.2.1 x.2.2 hx.1 hx.2⟩)
end Go.Proofs.Evd

