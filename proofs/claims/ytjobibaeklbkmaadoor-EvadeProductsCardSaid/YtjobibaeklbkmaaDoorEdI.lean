/- Layer 8: counting ones; Ask. -/
import Derived.Test.YtjobibaeklbkmaaDoorEdH
import Derived.KernelRfl
set_option linter.unusedSimpArgs false
set_option linter.unusedVariables false
set_option linter.unnecessarySimpa false
set_option maxHeartbeats 4000000
set_option maxRecDepth 100000
namespace Go.Proofs.Evd
open Go Go.VM
open Go.Proofs.Sur (W w_wrap w_nat w_inj w_eq0 w_and w_or w_andn w_shl w_shr neg_nat sub_nat tz tz_ok cl bits_cons bits_0 bits_len andn andn_bit andn_le i_wrap i_and i_or i_andn i_shl i_shr bit_01)

theorem w_add (a b : W) : IntKind.u64.wrap ((a.toNat : Int) + (b.toNat : Int)) = ((a + b).toNat : Int) := by
  rw [BitVec.toNat_add]
  simp only [IntKind.wrap, IntKind.bits, IntKind.signed]
  simp
abbrev m0 : W := 0x5555555555555555#64
abbrev m1 : W := 0x3333333333333333#64
abbrev m2 : W := 0x0f0f0f0f0f0f0f0f#64
def oc1 (b : W) : W := (b >>> 1 &&& m0) + (b &&& m0)
def oc2 (b : W) : W := (oc1 b >>> 2 &&& m1) + (oc1 b &&& m1)
def oc3 (b : W) : W := (oc2 b >>> 4 + oc2 b) &&& m2
def oc4 (b : W) : W := oc3 b + oc3 b >>> 8
def oc5 (b : W) : W := oc4 b + oc4 b >>> 16
def oc6 (b : W) : W := oc5 b + oc5 b >>> 32
def oc (b : W) : Int := IntKind.i64.wrap ((BitVec.ofInt IntKind.i64.bits (IntKind.i64.wrap ((oc6 b).toNat : Int)) &&& BitVec.ofInt IntKind.i64.bits 127).toNat : Int)
theorem ok119 : FokM Tryd.prog none1 119 Tryd.f119 := ⟨mixed, by kernel_rfl, by kernel_rfl, by kernel_rfl, by kernel_rfl⟩
theorem r119 (b : W) : Body (En6 []) none1 Tryd.f119 [u64A b] .nil (I (oc b), .nil) := by
  have ev0 : (b.toNat : Int).fdiv (2 ^ min ((1 : Int)).toNat IntKind.u64.bits) = ((b >>> 1).toNat : Int) := w_shr b (n := 1) (by decide)
  have ev1 : IntKind.u64.wrap ((BitVec.ofInt IntKind.u64.bits ((b >>> 1).toNat : Int) &&& BitVec.ofInt IntKind.u64.bits 6148914691236517205).toNat : Int) = ((b >>> 1 &&& m0).toNat : Int) := w_and (b >>> 1) m0
  have ev2 : IntKind.u64.wrap ((BitVec.ofInt IntKind.u64.bits (b.toNat : Int) &&& BitVec.ofInt IntKind.u64.bits 6148914691236517205).toNat : Int) = ((b &&& m0).toNat : Int) := w_and b m0
  have ev3 : IntKind.u64.wrap (((b >>> 1 &&& m0).toNat : Int) + ((b &&& m0).toNat : Int)) = ((oc1 b).toNat : Int) := w_add _ _
  have ev4 : ((oc1 b).toNat : Int).fdiv (2 ^ min ((2 : Int)).toNat IntKind.u64.bits) = ((oc1 b >>> 2).toNat : Int) := w_shr (oc1 b) (n := 2) (by decide)
  have ev5 : IntKind.u64.wrap ((BitVec.ofInt IntKind.u64.bits ((oc1 b >>> 2).toNat : Int) &&& BitVec.ofInt IntKind.u64.bits 3689348814741910323).toNat : Int) = ((oc1 b >>> 2 &&& m1).toNat : Int) := w_and (oc1 b >>> 2) m1
  have ev6 : IntKind.u64.wrap ((BitVec.ofInt IntKind.u64.bits ((oc1 b).toNat : Int) &&& BitVec.ofInt IntKind.u64.bits 3689348814741910323).toNat : Int) = ((oc1 b &&& m1).toNat : Int) := w_and (oc1 b) m1
  have ev7 : IntKind.u64.wrap (((oc1 b >>> 2 &&& m1).toNat : Int) + ((oc1 b &&& m1).toNat : Int)) = ((oc2 b).toNat : Int) := w_add _ _
  have ev8 : ((oc2 b).toNat : Int).fdiv (2 ^ min ((4 : Int)).toNat IntKind.u64.bits) = ((oc2 b >>> 4).toNat : Int) := w_shr (oc2 b) (n := 4) (by decide)
  have ev9 : IntKind.u64.wrap (((oc2 b >>> 4).toNat : Int) + ((oc2 b).toNat : Int)) = ((oc2 b >>> 4 + oc2 b).toNat : Int) := w_add _ _
  have ev10 : IntKind.u64.wrap ((BitVec.ofInt IntKind.u64.bits ((oc2 b >>> 4 + oc2 b).toNat : Int) &&& BitVec.ofInt IntKind.u64.bits 1085102592571150095).toNat : Int) = ((oc3 b).toNat : Int) := w_and (oc2 b >>> 4 + oc2 b) m2
  have ev11 : ((oc3 b).toNat : Int).fdiv (2 ^ min ((8 : Int)).toNat IntKind.u64.bits) = ((oc3 b >>> 8).toNat : Int) := w_shr (oc3 b) (n := 8) (by decide)
  have ev12 : IntKind.u64.wrap (((oc3 b).toNat : Int) + ((oc3 b >>> 8).toNat : Int)) = ((oc4 b).toNat : Int) := w_add _ _
  have ev13 : ((oc4 b).toNat : Int).fdiv (2 ^ min ((16 : Int)).toNat IntKind.u64.bits) = ((oc4 b >>> 16).toNat : Int) := w_shr (oc4 b) (n := 16) (by decide)
  have ev14 : IntKind.u64.wrap (((oc4 b).toNat : Int) + ((oc4 b >>> 16).toNat : Int)) = ((oc5 b).toNat : Int) := w_add _ _
  have ev15 : ((oc5 b).toNat : Int).fdiv (2 ^ min ((32 : Int)).toNat IntKind.u64.bits) = ((oc5 b >>> 32).toNat : Int) := w_shr (oc5 b) (n := 32) (by decide)
  have ev16 : IntKind.u64.wrap (((oc5 b).toNat : Int) + ((oc5 b >>> 32).toNat : Int)) = ((oc6 b).toNat : Int) := w_add _ _
  refine body_s ([Ans.o (Orc.val 4 (AV.int IntKind.u64 (↑(b >>> (1 : Nat)).toNat : Int)) H.nil), Ans.o (Orc.val 5 (AV.int IntKind.u64 (↑(b >>> (1 : Nat) &&& m0).toNat : Int)) H.nil), Ans.o (Orc.val 7 (u64A (b &&& m0)) H.nil), Ans.o (Orc.val 8 (u64A (oc1 b)) H.nil), Ans.o (Orc.val 10 (AV.int IntKind.u64 (↑(oc1 b >>> (2 : Nat)).toNat : Int)) H.nil), Ans.o (Orc.val 11 (AV.int IntKind.u64 (↑(oc1 b >>> (2 : Nat) &&& m1).toNat : Int)) H.nil), Ans.o (Orc.val 13 (u64A (oc1 b &&& m1)) H.nil), Ans.o (Orc.val 14 (u64A (oc2 b)) H.nil), Ans.o (Orc.val 16 (AV.int IntKind.u64 (↑(oc2 b >>> (4 : Nat)).toNat : Int)) H.nil), Ans.o (Orc.val 18 (AV.int IntKind.u64 (↑(oc2 b >>> (4 : Nat) + oc2 b).toNat : Int)) H.nil), Ans.o (Orc.val 19 (u64A (oc3 b)) H.nil), Ans.o (Orc.val 22 (AV.int IntKind.u64 (↑(oc3 b >>> (8 : Nat)).toNat : Int)) H.nil), Ans.o (Orc.val 23 (u64A (oc4 b)) H.nil), Ans.o (Orc.val 26 (AV.int IntKind.u64 (↑(oc4 b >>> (16 : Nat)).toNat : Int)) H.nil), Ans.o (Orc.val 27 (u64A (oc5 b)) H.nil), Ans.o (Orc.val 30 (AV.int IntKind.u64 (↑(oc5 b >>> (32 : Nat)).toNat : Int)) H.nil), Ans.o (Orc.val 31 (u64A (oc6 b)) H.nil)]) (aBin Tryd.prog BinOp.shr (74 : Nat) (u64A b) (AV.int IntKind.u64 (1 : Int)) = some (AV.int IntKind.u64 (↑(b >>> (1 : Nat)).toNat : Int)) ∧ aBin Tryd.prog BinOp.and (74 : Nat) (AV.int IntKind.u64 (↑(b >>> (1 : Nat)).toNat : Int)) (AV.int IntKind.u64 (6148914691236517205 : Int)) = some (AV.int IntKind.u64 (↑(b >>> (1 : Nat) &&& m0).toNat : Int)) ∧ aBin Tryd.prog BinOp.and (74 : Nat) (u64A b) (AV.int IntKind.u64 (6148914691236517205 : Int)) = some (u64A (b &&& m0)) ∧ aBin Tryd.prog BinOp.add (74 : Nat) (AV.int IntKind.u64 (↑(b >>> (1 : Nat) &&& m0).toNat : Int)) (u64A (b &&& m0)) = some (u64A (oc1 b)) ∧ aBin Tryd.prog BinOp.shr (74 : Nat) (u64A (oc1 b)) (AV.int IntKind.u64 (2 : Int)) = some (AV.int IntKind.u64 (↑(oc1 b >>> (2 : Nat)).toNat : Int)) ∧ aBin Tryd.prog BinOp.and (74 : Nat) (AV.int IntKind.u64 (↑(oc1 b >>> (2 : Nat)).toNat : Int)) (AV.int IntKind.u64 (3689348814741910323 : Int)) = some (AV.int IntKind.u64 (↑(oc1 b >>> (2 : Nat) &&& m1).toNat : Int)) ∧ aBin Tryd.prog BinOp.and (74 : Nat) (u64A (oc1 b)) (AV.int IntKind.u64 (3689348814741910323 : Int)) = some (u64A (oc1 b &&& m1)) ∧ aBin Tryd.prog BinOp.add (74 : Nat) (AV.int IntKind.u64 (↑(oc1 b >>> (2 : Nat) &&& m1).toNat : Int)) (u64A (oc1 b &&& m1)) = some (u64A (oc2 b)) ∧ aBin Tryd.prog BinOp.shr (74 : Nat) (u64A (oc2 b)) (AV.int IntKind.u64 (4 : Int)) = some (AV.int IntKind.u64 (↑(oc2 b >>> (4 : Nat)).toNat : Int)) ∧ aBin Tryd.prog BinOp.add (74 : Nat) (AV.int IntKind.u64 (↑(oc2 b >>> (4 : Nat)).toNat : Int)) (u64A (oc2 b)) = some (AV.int IntKind.u64 (↑(oc2 b >>> (4 : Nat) + oc2 b).toNat : Int)) ∧ aBin Tryd.prog BinOp.and (74 : Nat) (AV.int IntKind.u64 (↑(oc2 b >>> (4 : Nat) + oc2 b).toNat : Int)) (AV.int IntKind.u64 (1085102592571150095 : Int)) = some (u64A (oc3 b)) ∧ aBin Tryd.prog BinOp.shr (74 : Nat) (u64A (oc3 b)) (AV.int IntKind.u64 (8 : Int)) = some (AV.int IntKind.u64 (↑(oc3 b >>> (8 : Nat)).toNat : Int)) ∧ aBin Tryd.prog BinOp.add (74 : Nat) (u64A (oc3 b)) (AV.int IntKind.u64 (↑(oc3 b >>> (8 : Nat)).toNat : Int)) = some (u64A (oc4 b)) ∧ aBin Tryd.prog BinOp.shr (74 : Nat) (u64A (oc4 b)) (AV.int IntKind.u64 (16 : Int)) = some (AV.int IntKind.u64 (↑(oc4 b >>> (16 : Nat)).toNat : Int)) ∧ aBin Tryd.prog BinOp.add (74 : Nat) (u64A (oc4 b)) (AV.int IntKind.u64 (↑(oc4 b >>> (16 : Nat)).toNat : Int)) = some (u64A (oc5 b)) ∧ aBin Tryd.prog BinOp.shr (74 : Nat) (u64A (oc5 b)) (AV.int IntKind.u64 (32 : Int)) = some (AV.int IntKind.u64 (↑(oc5 b >>> (32 : Nat)).toNat : Int)) ∧ aBin Tryd.prog BinOp.add (74 : Nat) (u64A (oc5 b)) (AV.int IntKind.u64 (↑(oc5 b >>> (32 : Nat)).toNat : Int)) = some (u64A (oc6 b)) ∧ (I (IntKind.i64.wrap (↑(BitVec.ofInt IntKind.i64.bits (IntKind.i64.wrap (↑(BitVec.toNat (oc6 b)) : Int)) &&& BitVec.ofInt IntKind.i64.bits (127 : Int)).toNat : Int)), H.mk [] [] []) = (I (oc b), H.mk [] [] [])) (by kernel_rfl) ?_
  refine ⟨by first | exact told_shr (by first | exact Int.natCast_nonneg _ | omega) (by with_reducible assumption) | exact told_shr (by omega) rfl, ?_⟩
  refine ⟨told_and (by with_reducible assumption), ?_⟩
  refine ⟨told_and (by with_reducible assumption), ?_⟩
  refine ⟨told_add (by with_reducible assumption), ?_⟩
  refine ⟨by first | exact told_shr (by first | exact Int.natCast_nonneg _ | omega) (by with_reducible assumption) | exact told_shr (by omega) rfl, ?_⟩
  refine ⟨told_and (by with_reducible assumption), ?_⟩
  refine ⟨told_and (by with_reducible assumption), ?_⟩
  refine ⟨told_add (by with_reducible assumption), ?_⟩
  refine ⟨by first | exact told_shr (by first | exact Int.natCast_nonneg _ | omega) (by with_reducible assumption) | exact told_shr (by omega) rfl, ?_⟩
  refine ⟨told_add (by with_reducible assumption), ?_⟩
  refine ⟨told_and (by with_reducible assumption), ?_⟩
  refine ⟨by first | exact told_shr (by first | exact Int.natCast_nonneg _ | omega) (by with_reducible assumption) | exact told_shr (by omega) rfl, ?_⟩
  refine ⟨told_add (by with_reducible assumption), ?_⟩
  refine ⟨by first | exact told_shr (by first | exact Int.natCast_nonneg _ | omega) (by with_reducible assumption) | exact told_shr (by omega) rfl, ?_⟩
  refine ⟨told_add (by with_reducible assumption), ?_⟩
  refine ⟨by first | exact told_shr (by first | exact Int.natCast_nonneg _ | omega) (by with_reducible assumption) | exact told_shr (by omega) rfl, ?_⟩
  refine ⟨told_add (by with_reducible assumption), ?_⟩
  rfl
noncomputable def c119 : PCtr Tryd.prog := sctr ok119 (X := W) (fun x => [u64A x]) (fun _ => True) (fun x => I (oc x)) (by intro x y e _ _; simp at e; simp [e]) (fun x => by simp [AV.bnds, AV.bnd, AV.wk]) (fun x => rfl) (fun x _ => ⟨_, _, _, .nil, r119 x⟩)
theorem oc_tab : ∀ s, s < 64 → oc (BitVec.ofNat 64 s) = ((pc s : Nat) : Int) := by decide +kernel
end Go.Proofs.Evd

