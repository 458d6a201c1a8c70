/- Layer 8: the lowest word of a set, by a table. -/
import Derived.Test.YtjobibaeklbkmaaDoorEdA
import Derived.KernelRfl
set_option linter.unusedSimpArgs false
set_option linter.unusedVariables false
set_option linter.unnecessarySimpa false
set_option maxHeartbeats 4000000
set_option maxRecDepth 100000
namespace Go.Proofs.Evd
open Go Go.VM
open Go.Proofs.Sur (W w_eq0 w_and neg_nat tz tz_ok low_bit)
theorem told_neg {k : IntKind} {n r : Int} (he : k.wrap (0 - n) = r) : aUn .neg (.int k n) = some (.int k r) := by subst he; rfl
theorem r112_0 (b : W) (hz : (b.toNat : Int) ≠ 0) (ev0 : IntKind.u64.wrap (0 - (b.toNat : Int)) = ((-b).toNat : Int)) (ev1 : IntKind.u64.wrap ((BitVec.ofInt IntKind.u64.bits (b.toNat : Int) &&& BitVec.ofInt IntKind.u64.bits ((-b).toNat : Int)).toNat : Int) = 1) : Body (En6 []) none1 Tryd.f112 [u64A b] .nil (I 0, .nil) := by
  have ev2 : IntKind.u64.wrap (1 * 285870213051353865) = 285870213051353865 := by decide
  refine body_s ([Ans.o (Orc.b false), Ans.o (Orc.val 7 (u64A (-b)) H.nil), Ans.o (Orc.val 8 (AV.int IntKind.u64 (1 : Int)) H.nil), Ans.o (Orc.val 9 (AV.int IntKind.u64 (285870213051353865 : Int)) H.nil)]) ((↑(BitVec.toNat b) : Int) ≠ (0 : Int) ∧ aUn UnOp.neg (u64A b) = some (u64A (-b)) ∧ aBin Tryd.prog BinOp.and (74 : Nat) (u64A b) (u64A (-b)) = some (AV.int IntKind.u64 (1 : Int)) ∧ aBin Tryd.prog BinOp.mul (74 : Nat) (AV.int IntKind.u64 (1 : Int)) (AV.int IntKind.u64 (285870213051353865 : Int)) = some (AV.int IntKind.u64 (285870213051353865 : Int)) ∧ (I 0, H.mk [] [] []) = (I 0, H.mk [] [] [])) (by kernel_rfl) ?_
  refine ⟨by first | with_reducible assumption | omega | assumption, ?_⟩
  refine ⟨told_neg (by with_reducible assumption), ?_⟩
  refine ⟨told_and (by with_reducible assumption), ?_⟩
  refine ⟨told_mul (by with_reducible assumption), ?_⟩
  rfl
theorem r112_1 (b : W) (hz : (b.toNat : Int) ≠ 0) (ev0 : IntKind.u64.wrap (0 - (b.toNat : Int)) = ((-b).toNat : Int)) (ev1 : IntKind.u64.wrap ((BitVec.ofInt IntKind.u64.bits (b.toNat : Int) &&& BitVec.ofInt IntKind.u64.bits ((-b).toNat : Int)).toNat : Int) = 2) : Body (En6 []) none1 Tryd.f112 [u64A b] .nil (I 1, .nil) := by
  have ev2 : IntKind.u64.wrap (2 * 285870213051353865) = 571740426102707730 := by decide
  refine body_s ([Ans.o (Orc.b false), Ans.o (Orc.val 7 (u64A (-b)) H.nil), Ans.o (Orc.val 8 (AV.int IntKind.u64 (2 : Int)) H.nil), Ans.o (Orc.val 9 (AV.int IntKind.u64 (571740426102707730 : Int)) H.nil)]) ((↑(BitVec.toNat b) : Int) ≠ (0 : Int) ∧ aUn UnOp.neg (u64A b) = some (u64A (-b)) ∧ aBin Tryd.prog BinOp.and (74 : Nat) (u64A b) (u64A (-b)) = some (AV.int IntKind.u64 (2 : Int)) ∧ aBin Tryd.prog BinOp.mul (74 : Nat) (AV.int IntKind.u64 (2 : Int)) (AV.int IntKind.u64 (285870213051353865 : Int)) = some (AV.int IntKind.u64 (571740426102707730 : Int)) ∧ (I 1, H.mk [] [] []) = (I 1, H.mk [] [] [])) (by kernel_rfl) ?_
  refine ⟨by first | with_reducible assumption | omega | assumption, ?_⟩
  refine ⟨told_neg (by with_reducible assumption), ?_⟩
  refine ⟨told_and (by with_reducible assumption), ?_⟩
  refine ⟨told_mul (by with_reducible assumption), ?_⟩
  rfl
theorem r112_2 (b : W) (hz : (b.toNat : Int) ≠ 0) (ev0 : IntKind.u64.wrap (0 - (b.toNat : Int)) = ((-b).toNat : Int)) (ev1 : IntKind.u64.wrap ((BitVec.ofInt IntKind.u64.bits (b.toNat : Int) &&& BitVec.ofInt IntKind.u64.bits ((-b).toNat : Int)).toNat : Int) = 4) : Body (En6 []) none1 Tryd.f112 [u64A b] .nil (I 2, .nil) := by
  have ev2 : IntKind.u64.wrap (4 * 285870213051353865) = 1143480852205415460 := by decide
  refine body_s ([Ans.o (Orc.b false), Ans.o (Orc.val 7 (u64A (-b)) H.nil), Ans.o (Orc.val 8 (AV.int IntKind.u64 (4 : Int)) H.nil), Ans.o (Orc.val 9 (AV.int IntKind.u64 (1143480852205415460 : Int)) H.nil)]) ((↑(BitVec.toNat b) : Int) ≠ (0 : Int) ∧ aUn UnOp.neg (u64A b) = some (u64A (-b)) ∧ aBin Tryd.prog BinOp.and (74 : Nat) (u64A b) (u64A (-b)) = some (AV.int IntKind.u64 (4 : Int)) ∧ aBin Tryd.prog BinOp.mul (74 : Nat) (AV.int IntKind.u64 (4 : Int)) (AV.int IntKind.u64 (285870213051353865 : Int)) = some (AV.int IntKind.u64 (1143480852205415460 : Int)) ∧ (I 2, H.mk [] [] []) = (I 2, H.mk [] [] [])) (by kernel_rfl) ?_
  refine ⟨by first | with_reducible assumption | omega | assumption, ?_⟩
  refine ⟨told_neg (by with_reducible assumption), ?_⟩
  refine ⟨told_and (by with_reducible assumption), ?_⟩
  refine ⟨told_mul (by with_reducible assumption), ?_⟩
  rfl
theorem r112_3 (b : W) (hz : (b.toNat : Int) ≠ 0) (ev0 : IntKind.u64.wrap (0 - (b.toNat : Int)) = ((-b).toNat : Int)) (ev1 : IntKind.u64.wrap ((BitVec.ofInt IntKind.u64.bits (b.toNat : Int) &&& BitVec.ofInt IntKind.u64.bits ((-b).toNat : Int)).toNat : Int) = 8) : Body (En6 []) none1 Tryd.f112 [u64A b] .nil (I 3, .nil) := by
  have ev2 : IntKind.u64.wrap (8 * 285870213051353865) = 2286961704410830920 := by decide
  refine body_s ([Ans.o (Orc.b false), Ans.o (Orc.val 7 (u64A (-b)) H.nil), Ans.o (Orc.val 8 (AV.int IntKind.u64 (8 : Int)) H.nil), Ans.o (Orc.val 9 (AV.int IntKind.u64 (2286961704410830920 : Int)) H.nil)]) ((↑(BitVec.toNat b) : Int) ≠ (0 : Int) ∧ aUn UnOp.neg (u64A b) = some (u64A (-b)) ∧ aBin Tryd.prog BinOp.and (74 : Nat) (u64A b) (u64A (-b)) = some (AV.int IntKind.u64 (8 : Int)) ∧ aBin Tryd.prog BinOp.mul (74 : Nat) (AV.int IntKind.u64 (8 : Int)) (AV.int IntKind.u64 (285870213051353865 : Int)) = some (AV.int IntKind.u64 (2286961704410830920 : Int)) ∧ (I 3, H.mk [] [] []) = (I 3, H.mk [] [] [])) (by kernel_rfl) ?_
  refine ⟨by first | with_reducible assumption | omega | assumption, ?_⟩
  refine ⟨told_neg (by with_reducible assumption), ?_⟩
  refine ⟨told_and (by with_reducible assumption), ?_⟩
  refine ⟨told_mul (by with_reducible assumption), ?_⟩
  rfl
theorem r112_4 (b : W) (hz : (b.toNat : Int) ≠ 0) (ev0 : IntKind.u64.wrap (0 - (b.toNat : Int)) = ((-b).toNat : Int)) (ev1 : IntKind.u64.wrap ((BitVec.ofInt IntKind.u64.bits (b.toNat : Int) &&& BitVec.ofInt IntKind.u64.bits ((-b).toNat : Int)).toNat : Int) = 16) : Body (En6 []) none1 Tryd.f112 [u64A b] .nil (I 4, .nil) := by
  have ev2 : IntKind.u64.wrap (16 * 285870213051353865) = 4573923408821661840 := by decide
  refine body_s ([Ans.o (Orc.b false), Ans.o (Orc.val 7 (u64A (-b)) H.nil), Ans.o (Orc.val 8 (AV.int IntKind.u64 (16 : Int)) H.nil), Ans.o (Orc.val 9 (AV.int IntKind.u64 (4573923408821661840 : Int)) H.nil)]) ((↑(BitVec.toNat b) : Int) ≠ (0 : Int) ∧ aUn UnOp.neg (u64A b) = some (u64A (-b)) ∧ aBin Tryd.prog BinOp.and (74 : Nat) (u64A b) (u64A (-b)) = some (AV.int IntKind.u64 (16 : Int)) ∧ aBin Tryd.prog BinOp.mul (74 : Nat) (AV.int IntKind.u64 (16 : Int)) (AV.int IntKind.u64 (285870213051353865 : Int)) = some (AV.int IntKind.u64 (4573923408821661840 : Int)) ∧ (I 4, H.mk [] [] []) = (I 4, H.mk [] [] [])) (by kernel_rfl) ?_
  refine ⟨by first | with_reducible assumption | omega | assumption, ?_⟩
  refine ⟨told_neg (by with_reducible assumption), ?_⟩
  refine ⟨told_and (by with_reducible assumption), ?_⟩
  refine ⟨told_mul (by with_reducible assumption), ?_⟩
  rfl
theorem r112_5 (b : W) (hz : (b.toNat : Int) ≠ 0) (ev0 : IntKind.u64.wrap (0 - (b.toNat : Int)) = ((-b).toNat : Int)) (ev1 : IntKind.u64.wrap ((BitVec.ofInt IntKind.u64.bits (b.toNat : Int) &&& BitVec.ofInt IntKind.u64.bits ((-b).toNat : Int)).toNat : Int) = 32) : Body (En6 []) none1 Tryd.f112 [u64A b] .nil (I 5, .nil) := by
  have ev2 : IntKind.u64.wrap (32 * 285870213051353865) = 9147846817643323680 := by decide
  refine body_s ([Ans.o (Orc.b false), Ans.o (Orc.val 7 (u64A (-b)) H.nil), Ans.o (Orc.val 8 (AV.int IntKind.u64 (32 : Int)) H.nil), Ans.o (Orc.val 9 (AV.int IntKind.u64 (9147846817643323680 : Int)) H.nil)]) ((↑(BitVec.toNat b) : Int) ≠ (0 : Int) ∧ aUn UnOp.neg (u64A b) = some (u64A (-b)) ∧ aBin Tryd.prog BinOp.and (74 : Nat) (u64A b) (u64A (-b)) = some (AV.int IntKind.u64 (32 : Int)) ∧ aBin Tryd.prog BinOp.mul (74 : Nat) (AV.int IntKind.u64 (32 : Int)) (AV.int IntKind.u64 (285870213051353865 : Int)) = some (AV.int IntKind.u64 (9147846817643323680 : Int)) ∧ (I 5, H.mk [] [] []) = (I 5, H.mk [] [] [])) (by kernel_rfl) ?_
  refine ⟨by first | with_reducible assumption | omega | assumption, ?_⟩
  refine ⟨told_neg (by with_reducible assumption), ?_⟩
  refine ⟨told_and (by with_reducible assumption), ?_⟩
  refine ⟨told_mul (by with_reducible assumption), ?_⟩
  rfl
theorem r112_6 (b : W) (hz : (b.toNat : Int) ≠ 0) (ev0 : IntKind.u64.wrap (0 - (b.toNat : Int)) = ((-b).toNat : Int)) (ev1 : IntKind.u64.wrap ((BitVec.ofInt IntKind.u64.bits (b.toNat : Int) &&& BitVec.ofInt IntKind.u64.bits ((-b).toNat : Int)).toNat : Int) = 64) : Body (En6 []) none1 Tryd.f112 [u64A b] .nil (I 6, .nil) := by
  have ev2 : IntKind.u64.wrap (64 * 285870213051353865) = 18295693635286647360 := by decide
  refine body_s ([Ans.o (Orc.b false), Ans.o (Orc.val 7 (u64A (-b)) H.nil), Ans.o (Orc.val 8 (AV.int IntKind.u64 (64 : Int)) H.nil), Ans.o (Orc.val 9 (AV.int IntKind.u64 (18295693635286647360 : Int)) H.nil)]) ((↑(BitVec.toNat b) : Int) ≠ (0 : Int) ∧ aUn UnOp.neg (u64A b) = some (u64A (-b)) ∧ aBin Tryd.prog BinOp.and (74 : Nat) (u64A b) (u64A (-b)) = some (AV.int IntKind.u64 (64 : Int)) ∧ aBin Tryd.prog BinOp.mul (74 : Nat) (AV.int IntKind.u64 (64 : Int)) (AV.int IntKind.u64 (285870213051353865 : Int)) = some (AV.int IntKind.u64 (18295693635286647360 : Int)) ∧ (I 6, H.mk [] [] []) = (I 6, H.mk [] [] [])) (by kernel_rfl) ?_
  refine ⟨by first | with_reducible assumption | omega | assumption, ?_⟩
  refine ⟨told_neg (by with_reducible assumption), ?_⟩
  refine ⟨told_and (by with_reducible assumption), ?_⟩
  refine ⟨told_mul (by with_reducible assumption), ?_⟩
  rfl
theorem r112_7 (b : W) (hz : (b.toNat : Int) ≠ 0) (ev0 : IntKind.u64.wrap (0 - (b.toNat : Int)) = ((-b).toNat : Int)) (ev1 : IntKind.u64.wrap ((BitVec.ofInt IntKind.u64.bits (b.toNat : Int) &&& BitVec.ofInt IntKind.u64.bits ((-b).toNat : Int)).toNat : Int) = 128) : Body (En6 []) none1 Tryd.f112 [u64A b] .nil (I 7, .nil) := by
  have ev2 : IntKind.u64.wrap (128 * 285870213051353865) = 18144643196863743104 := by decide
  refine body_s ([Ans.o (Orc.b false), Ans.o (Orc.val 7 (u64A (-b)) H.nil), Ans.o (Orc.val 8 (AV.int IntKind.u64 (128 : Int)) H.nil), Ans.o (Orc.val 9 (AV.int IntKind.u64 (18144643196863743104 : Int)) H.nil)]) ((↑(BitVec.toNat b) : Int) ≠ (0 : Int) ∧ aUn UnOp.neg (u64A b) = some (u64A (-b)) ∧ aBin Tryd.prog BinOp.and (74 : Nat) (u64A b) (u64A (-b)) = some (AV.int IntKind.u64 (128 : Int)) ∧ aBin Tryd.prog BinOp.mul (74 : Nat) (AV.int IntKind.u64 (128 : Int)) (AV.int IntKind.u64 (285870213051353865 : Int)) = some (AV.int IntKind.u64 (18144643196863743104 : Int)) ∧ (I 7, H.mk [] [] []) = (I 7, H.mk [] [] [])) (by kernel_rfl) ?_
  refine ⟨by first | with_reducible assumption | omega | assumption, ?_⟩
  refine ⟨told_neg (by with_reducible assumption), ?_⟩
  refine ⟨told_and (by with_reducible assumption), ?_⟩
  refine ⟨told_mul (by with_reducible assumption), ?_⟩
  rfl
theorem r112_8 (b : W) (hz : (b.toNat : Int) ≠ 0) (ev0 : IntKind.u64.wrap (0 - (b.toNat : Int)) = ((-b).toNat : Int)) (ev1 : IntKind.u64.wrap ((BitVec.ofInt IntKind.u64.bits (b.toNat : Int) &&& BitVec.ofInt IntKind.u64.bits ((-b).toNat : Int)).toNat : Int) = 256) : Body (En6 []) none1 Tryd.f112 [u64A b] .nil (I 8, .nil) := by
  have ev2 : IntKind.u64.wrap (256 * 285870213051353865) = 17842542320017934592 := by decide
  refine body_s ([Ans.o (Orc.b false), Ans.o (Orc.val 7 (u64A (-b)) H.nil), Ans.o (Orc.val 8 (AV.int IntKind.u64 (256 : Int)) H.nil), Ans.o (Orc.val 9 (AV.int IntKind.u64 (17842542320017934592 : Int)) H.nil)]) ((↑(BitVec.toNat b) : Int) ≠ (0 : Int) ∧ aUn UnOp.neg (u64A b) = some (u64A (-b)) ∧ aBin Tryd.prog BinOp.and (74 : Nat) (u64A b) (u64A (-b)) = some (AV.int IntKind.u64 (256 : Int)) ∧ aBin Tryd.prog BinOp.mul (74 : Nat) (AV.int IntKind.u64 (256 : Int)) (AV.int IntKind.u64 (285870213051353865 : Int)) = some (AV.int IntKind.u64 (17842542320017934592 : Int)) ∧ (I 8, H.mk [] [] []) = (I 8, H.mk [] [] [])) (by kernel_rfl) ?_
  refine ⟨by first | with_reducible assumption | omega | assumption, ?_⟩
  refine ⟨told_neg (by with_reducible assumption), ?_⟩
  refine ⟨told_and (by with_reducible assumption), ?_⟩
  refine ⟨told_mul (by with_reducible assumption), ?_⟩
  rfl
theorem r112_9 (b : W) (hz : (b.toNat : Int) ≠ 0) (ev0 : IntKind.u64.wrap (0 - (b.toNat : Int)) = ((-b).toNat : Int)) (ev1 : IntKind.u64.wrap ((BitVec.ofInt IntKind.u64.bits (b.toNat : Int) &&& BitVec.ofInt IntKind.u64.bits ((-b).toNat : Int)).toNat : Int) = 512) : Body (En6 []) none1 Tryd.f112 [u64A b] .nil (I 9, .nil) := by
  have ev2 : IntKind.u64.wrap (512 * 285870213051353865) = 17238340566326317568 := by decide
  refine body_s ([Ans.o (Orc.b false), Ans.o (Orc.val 7 (u64A (-b)) H.nil), Ans.o (Orc.val 8 (AV.int IntKind.u64 (512 : Int)) H.nil), Ans.o (Orc.val 9 (AV.int IntKind.u64 (17238340566326317568 : Int)) H.nil)]) ((↑(BitVec.toNat b) : Int) ≠ (0 : Int) ∧ aUn UnOp.neg (u64A b) = some (u64A (-b)) ∧ aBin Tryd.prog BinOp.and (74 : Nat) (u64A b) (u64A (-b)) = some (AV.int IntKind.u64 (512 : Int)) ∧ aBin Tryd.prog BinOp.mul (74 : Nat) (AV.int IntKind.u64 (512 : Int)) (AV.int IntKind.u64 (285870213051353865 : Int)) = some (AV.int IntKind.u64 (17238340566326317568 : Int)) ∧ (I 9, H.mk [] [] []) = (I 9, H.mk [] [] [])) (by kernel_rfl) ?_
  refine ⟨by first | with_reducible assumption | omega | assumption, ?_⟩
  refine ⟨told_neg (by with_reducible assumption), ?_⟩
  refine ⟨told_and (by with_reducible assumption), ?_⟩
  refine ⟨told_mul (by with_reducible assumption), ?_⟩
  rfl
theorem r112_10 (b : W) (hz : (b.toNat : Int) ≠ 0) (ev0 : IntKind.u64.wrap (0 - (b.toNat : Int)) = ((-b).toNat : Int)) (ev1 : IntKind.u64.wrap ((BitVec.ofInt IntKind.u64.bits (b.toNat : Int) &&& BitVec.ofInt IntKind.u64.bits ((-b).toNat : Int)).toNat : Int) = 1024) : Body (En6 []) none1 Tryd.f112 [u64A b] .nil (I 10, .nil) := by
  have ev2 : IntKind.u64.wrap (1024 * 285870213051353865) = 16029937058943083520 := by decide
  refine body_s ([Ans.o (Orc.b false), Ans.o (Orc.val 7 (u64A (-b)) H.nil), Ans.o (Orc.val 8 (AV.int IntKind.u64 (1024 : Int)) H.nil), Ans.o (Orc.val 9 (AV.int IntKind.u64 (16029937058943083520 : Int)) H.nil)]) ((↑(BitVec.toNat b) : Int) ≠ (0 : Int) ∧ aUn UnOp.neg (u64A b) = some (u64A (-b)) ∧ aBin Tryd.prog BinOp.and (74 : Nat) (u64A b) (u64A (-b)) = some (AV.int IntKind.u64 (1024 : Int)) ∧ aBin Tryd.prog BinOp.mul (74 : Nat) (AV.int IntKind.u64 (1024 : Int)) (AV.int IntKind.u64 (285870213051353865 : Int)) = some (AV.int IntKind.u64 (16029937058943083520 : Int)) ∧ (I 10, H.mk [] [] []) = (I 10, H.mk [] [] [])) (by kernel_rfl) ?_
  refine ⟨by first | with_reducible assumption | omega | assumption, ?_⟩
  refine ⟨told_neg (by with_reducible assumption), ?_⟩
  refine ⟨told_and (by with_reducible assumption), ?_⟩
  refine ⟨told_mul (by with_reducible assumption), ?_⟩
  rfl
theorem r112_11 (b : W) (hz : (b.toNat : Int) ≠ 0) (ev0 : IntKind.u64.wrap (0 - (b.toNat : Int)) = ((-b).toNat : Int)) (ev1 : IntKind.u64.wrap ((BitVec.ofInt IntKind.u64.bits (b.toNat : Int) &&& BitVec.ofInt IntKind.u64.bits ((-b).toNat : Int)).toNat : Int) = 2048) : Body (En6 []) none1 Tryd.f112 [u64A b] .nil (I 11, .nil) := by
  have ev2 : IntKind.u64.wrap (2048 * 285870213051353865) = 13613130044176615424 := by decide
  refine body_s ([Ans.o (Orc.b false), Ans.o (Orc.val 7 (u64A (-b)) H.nil), Ans.o (Orc.val 8 (AV.int IntKind.u64 (2048 : Int)) H.nil), Ans.o (Orc.val 9 (AV.int IntKind.u64 (13613130044176615424 : Int)) H.nil)]) ((↑(BitVec.toNat b) : Int) ≠ (0 : Int) ∧ aUn UnOp.neg (u64A b) = some (u64A (-b)) ∧ aBin Tryd.prog BinOp.and (74 : Nat) (u64A b) (u64A (-b)) = some (AV.int IntKind.u64 (2048 : Int)) ∧ aBin Tryd.prog BinOp.mul (74 : Nat) (AV.int IntKind.u64 (2048 : Int)) (AV.int IntKind.u64 (285870213051353865 : Int)) = some (AV.int IntKind.u64 (13613130044176615424 : Int)) ∧ (I 11, H.mk [] [] []) = (I 11, H.mk [] [] [])) (by kernel_rfl) ?_
  refine ⟨by first | with_reducible assumption | omega | assumption, ?_⟩
  refine ⟨told_neg (by with_reducible assumption), ?_⟩
  refine ⟨told_and (by with_reducible assumption), ?_⟩
  refine ⟨told_mul (by with_reducible assumption), ?_⟩
  rfl
theorem r112_12 (b : W) (hz : (b.toNat : Int) ≠ 0) (ev0 : IntKind.u64.wrap (0 - (b.toNat : Int)) = ((-b).toNat : Int)) (ev1 : IntKind.u64.wrap ((BitVec.ofInt IntKind.u64.bits (b.toNat : Int) &&& BitVec.ofInt IntKind.u64.bits ((-b).toNat : Int)).toNat : Int) = 4096) : Body (En6 []) none1 Tryd.f112 [u64A b] .nil (I 12, .nil) := by
  have ev2 : IntKind.u64.wrap (4096 * 285870213051353865) = 8779516014643679232 := by decide
  refine body_s ([Ans.o (Orc.b false), Ans.o (Orc.val 7 (u64A (-b)) H.nil), Ans.o (Orc.val 8 (AV.int IntKind.u64 (4096 : Int)) H.nil), Ans.o (Orc.val 9 (AV.int IntKind.u64 (8779516014643679232 : Int)) H.nil)]) ((↑(BitVec.toNat b) : Int) ≠ (0 : Int) ∧ aUn UnOp.neg (u64A b) = some (u64A (-b)) ∧ aBin Tryd.prog BinOp.and (74 : Nat) (u64A b) (u64A (-b)) = some (AV.int IntKind.u64 (4096 : Int)) ∧ aBin Tryd.prog BinOp.mul (74 : Nat) (AV.int IntKind.u64 (4096 : Int)) (AV.int IntKind.u64 (285870213051353865 : Int)) = some (AV.int IntKind.u64 (8779516014643679232 : Int)) ∧ (I 12, H.mk [] [] []) = (I 12, H.mk [] [] [])) (by kernel_rfl) ?_
  refine ⟨by first | with_reducible assumption | omega | assumption, ?_⟩
  refine ⟨told_neg (by with_reducible assumption), ?_⟩
  refine ⟨told_and (by with_reducible assumption), ?_⟩
  refine ⟨told_mul (by with_reducible assumption), ?_⟩
  rfl
theorem r112_13 (b : W) (hz : (b.toNat : Int) ≠ 0) (ev0 : IntKind.u64.wrap (0 - (b.toNat : Int)) = ((-b).toNat : Int)) (ev1 : IntKind.u64.wrap ((BitVec.ofInt IntKind.u64.bits (b.toNat : Int) &&& BitVec.ofInt IntKind.u64.bits ((-b).toNat : Int)).toNat : Int) = 8192) : Body (En6 []) none1 Tryd.f112 [u64A b] .nil (I 13, .nil) := by
  have ev2 : IntKind.u64.wrap (8192 * 285870213051353865) = 17559032029287358464 := by decide
  refine body_s ([Ans.o (Orc.b false), Ans.o (Orc.val 7 (u64A (-b)) H.nil), Ans.o (Orc.val 8 (AV.int IntKind.u64 (8192 : Int)) H.nil), Ans.o (Orc.val 9 (AV.int IntKind.u64 (17559032029287358464 : Int)) H.nil)]) ((↑(BitVec.toNat b) : Int) ≠ (0 : Int) ∧ aUn UnOp.neg (u64A b) = some (u64A (-b)) ∧ aBin Tryd.prog BinOp.and (74 : Nat) (u64A b) (u64A (-b)) = some (AV.int IntKind.u64 (8192 : Int)) ∧ aBin Tryd.prog BinOp.mul (74 : Nat) (AV.int IntKind.u64 (8192 : Int)) (AV.int IntKind.u64 (285870213051353865 : Int)) = some (AV.int IntKind.u64 (17559032029287358464 : Int)) ∧ (I 13, H.mk [] [] []) = (I 13, H.mk [] [] [])) (by kernel_rfl) ?_
  refine ⟨by first | with_reducible assumption | omega | assumption, ?_⟩
  refine ⟨told_neg (by with_reducible assumption), ?_⟩
  refine ⟨told_and (by with_reducible assumption), ?_⟩
  refine ⟨told_mul (by with_reducible assumption), ?_⟩
  rfl
theorem r112_14 (b : W) (hz : (b.toNat : Int) ≠ 0) (ev0 : IntKind.u64.wrap (0 - (b.toNat : Int)) = ((-b).toNat : Int)) (ev1 : IntKind.u64.wrap ((BitVec.ofInt IntKind.u64.bits (b.toNat : Int) &&& BitVec.ofInt IntKind.u64.bits ((-b).toNat : Int)).toNat : Int) = 16384) : Body (En6 []) none1 Tryd.f112 [u64A b] .nil (I 14, .nil) := by
  have ev2 : IntKind.u64.wrap (16384 * 285870213051353865) = 16671319984865165312 := by decide
  refine body_s ([Ans.o (Orc.b false), Ans.o (Orc.val 7 (u64A (-b)) H.nil), Ans.o (Orc.val 8 (AV.int IntKind.u64 (16384 : Int)) H.nil), Ans.o (Orc.val 9 (AV.int IntKind.u64 (16671319984865165312 : Int)) H.nil)]) ((↑(BitVec.toNat b) : Int) ≠ (0 : Int) ∧ aUn UnOp.neg (u64A b) = some (u64A (-b)) ∧ aBin Tryd.prog BinOp.and (74 : Nat) (u64A b) (u64A (-b)) = some (AV.int IntKind.u64 (16384 : Int)) ∧ aBin Tryd.prog BinOp.mul (74 : Nat) (AV.int IntKind.u64 (16384 : Int)) (AV.int IntKind.u64 (285870213051353865 : Int)) = some (AV.int IntKind.u64 (16671319984865165312 : Int)) ∧ (I 14, H.mk [] [] []) = (I 14, H.mk [] [] [])) (by kernel_rfl) ?_
  refine ⟨by first | with_reducible assumption | omega | assumption, ?_⟩
  refine ⟨told_neg (by with_reducible assumption), ?_⟩
  refine ⟨told_and (by with_reducible assumption), ?_⟩
  refine ⟨told_mul (by with_reducible assumption), ?_⟩
  rfl
theorem r112_15 (b : W) (hz : (b.toNat : Int) ≠ 0) (ev0 : IntKind.u64.wrap (0 - (b.toNat : Int)) = ((-b).toNat : Int)) (ev1 : IntKind.u64.wrap ((BitVec.ofInt IntKind.u64.bits (b.toNat : Int) &&& BitVec.ofInt IntKind.u64.bits ((-b).toNat : Int)).toNat : Int) = 32768) : Body (En6 []) none1 Tryd.f112 [u64A b] .nil (I 15, .nil) := by
  have ev2 : IntKind.u64.wrap (32768 * 285870213051353865) = 14895895896020779008 := by decide
  refine body_s ([Ans.o (Orc.b false), Ans.o (Orc.val 7 (u64A (-b)) H.nil), Ans.o (Orc.val 8 (AV.int IntKind.u64 (32768 : Int)) H.nil), Ans.o (Orc.val 9 (AV.int IntKind.u64 (14895895896020779008 : Int)) H.nil)]) ((↑(BitVec.toNat b) : Int) ≠ (0 : Int) ∧ aUn UnOp.neg (u64A b) = some (u64A (-b)) ∧ aBin Tryd.prog BinOp.and (74 : Nat) (u64A b) (u64A (-b)) = some (AV.int IntKind.u64 (32768 : Int)) ∧ aBin Tryd.prog BinOp.mul (74 : Nat) (AV.int IntKind.u64 (32768 : Int)) (AV.int IntKind.u64 (285870213051353865 : Int)) = some (AV.int IntKind.u64 (14895895896020779008 : Int)) ∧ (I 15, H.mk [] [] []) = (I 15, H.mk [] [] [])) (by kernel_rfl) ?_
  refine ⟨by first | with_reducible assumption | omega | assumption, ?_⟩
  refine ⟨told_neg (by with_reducible assumption), ?_⟩
  refine ⟨told_and (by with_reducible assumption), ?_⟩
  refine ⟨told_mul (by with_reducible assumption), ?_⟩
  rfl
theorem r112_16 (b : W) (hz : (b.toNat : Int) ≠ 0) (ev0 : IntKind.u64.wrap (0 - (b.toNat : Int)) = ((-b).toNat : Int)) (ev1 : IntKind.u64.wrap ((BitVec.ofInt IntKind.u64.bits (b.toNat : Int) &&& BitVec.ofInt IntKind.u64.bits ((-b).toNat : Int)).toNat : Int) = 65536) : Body (En6 []) none1 Tryd.f112 [u64A b] .nil (I 16, .nil) := by
  have ev2 : IntKind.u64.wrap (65536 * 285870213051353865) = 11345047718332006400 := by decide
  refine body_s ([Ans.o (Orc.b false), Ans.o (Orc.val 7 (u64A (-b)) H.nil), Ans.o (Orc.val 8 (AV.int IntKind.u64 (65536 : Int)) H.nil), Ans.o (Orc.val 9 (AV.int IntKind.u64 (11345047718332006400 : Int)) H.nil)]) ((↑(BitVec.toNat b) : Int) ≠ (0 : Int) ∧ aUn UnOp.neg (u64A b) = some (u64A (-b)) ∧ aBin Tryd.prog BinOp.and (74 : Nat) (u64A b) (u64A (-b)) = some (AV.int IntKind.u64 (65536 : Int)) ∧ aBin Tryd.prog BinOp.mul (74 : Nat) (AV.int IntKind.u64 (65536 : Int)) (AV.int IntKind.u64 (285870213051353865 : Int)) = some (AV.int IntKind.u64 (11345047718332006400 : Int)) ∧ (I 16, H.mk [] [] []) = (I 16, H.mk [] [] [])) (by kernel_rfl) ?_
  refine ⟨by first | with_reducible assumption | omega | assumption, ?_⟩
  refine ⟨told_neg (by with_reducible assumption), ?_⟩
  refine ⟨told_and (by with_reducible assumption), ?_⟩
  refine ⟨told_mul (by with_reducible assumption), ?_⟩
  rfl
theorem r112_17 (b : W) (hz : (b.toNat : Int) ≠ 0) (ev0 : IntKind.u64.wrap (0 - (b.toNat : Int)) = ((-b).toNat : Int)) (ev1 : IntKind.u64.wrap ((BitVec.ofInt IntKind.u64.bits (b.toNat : Int) &&& BitVec.ofInt IntKind.u64.bits ((-b).toNat : Int)).toNat : Int) = 131072) : Body (En6 []) none1 Tryd.f112 [u64A b] .nil (I 17, .nil) := by
  have ev2 : IntKind.u64.wrap (131072 * 285870213051353865) = 4243351362954461184 := by decide
  refine body_s ([Ans.o (Orc.b false), Ans.o (Orc.val 7 (u64A (-b)) H.nil), Ans.o (Orc.val 8 (AV.int IntKind.u64 (131072 : Int)) H.nil), Ans.o (Orc.val 9 (AV.int IntKind.u64 (4243351362954461184 : Int)) H.nil)]) ((↑(BitVec.toNat b) : Int) ≠ (0 : Int) ∧ aUn UnOp.neg (u64A b) = some (u64A (-b)) ∧ aBin Tryd.prog BinOp.and (74 : Nat) (u64A b) (u64A (-b)) = some (AV.int IntKind.u64 (131072 : Int)) ∧ aBin Tryd.prog BinOp.mul (74 : Nat) (AV.int IntKind.u64 (131072 : Int)) (AV.int IntKind.u64 (285870213051353865 : Int)) = some (AV.int IntKind.u64 (4243351362954461184 : Int)) ∧ (I 17, H.mk [] [] []) = (I 17, H.mk [] [] [])) (by kernel_rfl) ?_
  refine ⟨by first | with_reducible assumption | omega | assumption, ?_⟩
  refine ⟨told_neg (by with_reducible assumption), ?_⟩
  refine ⟨told_and (by with_reducible assumption), ?_⟩
  refine ⟨told_mul (by with_reducible assumption), ?_⟩
  rfl
theorem r112_18 (b : W) (hz : (b.toNat : Int) ≠ 0) (ev0 : IntKind.u64.wrap (0 - (b.toNat : Int)) = ((-b).toNat : Int)) (ev1 : IntKind.u64.wrap ((BitVec.ofInt IntKind.u64.bits (b.toNat : Int) &&& BitVec.ofInt IntKind.u64.bits ((-b).toNat : Int)).toNat : Int) = 262144) : Body (En6 []) none1 Tryd.f112 [u64A b] .nil (I 18, .nil) := by
  have ev2 : IntKind.u64.wrap (262144 * 285870213051353865) = 8486702725908922368 := by decide
  refine body_s ([Ans.o (Orc.b false), Ans.o (Orc.val 7 (u64A (-b)) H.nil), Ans.o (Orc.val 8 (AV.int IntKind.u64 (262144 : Int)) H.nil), Ans.o (Orc.val 9 (AV.int IntKind.u64 (8486702725908922368 : Int)) H.nil)]) ((↑(BitVec.toNat b) : Int) ≠ (0 : Int) ∧ aUn UnOp.neg (u64A b) = some (u64A (-b)) ∧ aBin Tryd.prog BinOp.and (74 : Nat) (u64A b) (u64A (-b)) = some (AV.int IntKind.u64 (262144 : Int)) ∧ aBin Tryd.prog BinOp.mul (74 : Nat) (AV.int IntKind.u64 (262144 : Int)) (AV.int IntKind.u64 (285870213051353865 : Int)) = some (AV.int IntKind.u64 (8486702725908922368 : Int)) ∧ (I 18, H.mk [] [] []) = (I 18, H.mk [] [] [])) (by kernel_rfl) ?_
  refine ⟨by first | with_reducible assumption | omega | assumption, ?_⟩
  refine ⟨told_neg (by with_reducible assumption), ?_⟩
  refine ⟨told_and (by with_reducible assumption), ?_⟩
  refine ⟨told_mul (by with_reducible assumption), ?_⟩
  rfl
theorem r112_19 (b : W) (hz : (b.toNat : Int) ≠ 0) (ev0 : IntKind.u64.wrap (0 - (b.toNat : Int)) = ((-b).toNat : Int)) (ev1 : IntKind.u64.wrap ((BitVec.ofInt IntKind.u64.bits (b.toNat : Int) &&& BitVec.ofInt IntKind.u64.bits ((-b).toNat : Int)).toNat : Int) = 524288) : Body (En6 []) none1 Tryd.f112 [u64A b] .nil (I 19, .nil) := by
  have ev2 : IntKind.u64.wrap (524288 * 285870213051353865) = 16973405451817844736 := by decide
  refine body_s ([Ans.o (Orc.b false), Ans.o (Orc.val 7 (u64A (-b)) H.nil), Ans.o (Orc.val 8 (AV.int IntKind.u64 (524288 : Int)) H.nil), Ans.o (Orc.val 9 (AV.int IntKind.u64 (16973405451817844736 : Int)) H.nil)]) ((↑(BitVec.toNat b) : Int) ≠ (0 : Int) ∧ aUn UnOp.neg (u64A b) = some (u64A (-b)) ∧ aBin Tryd.prog BinOp.and (74 : Nat) (u64A b) (u64A (-b)) = some (AV.int IntKind.u64 (524288 : Int)) ∧ aBin Tryd.prog BinOp.mul (74 : Nat) (AV.int IntKind.u64 (524288 : Int)) (AV.int IntKind.u64 (285870213051353865 : Int)) = some (AV.int IntKind.u64 (16973405451817844736 : Int)) ∧ (I 19, H.mk [] [] []) = (I 19, H.mk [] [] [])) (by kernel_rfl) ?_
  refine ⟨by first | with_reducible assumption | omega | assumption, ?_⟩
  refine ⟨told_neg (by with_reducible assumption), ?_⟩
  refine ⟨told_and (by with_reducible assumption), ?_⟩
  refine ⟨told_mul (by with_reducible assumption), ?_⟩
  rfl
theorem r112_20 (b : W) (hz : (b.toNat : Int) ≠ 0) (ev0 : IntKind.u64.wrap (0 - (b.toNat : Int)) = ((-b).toNat : Int)) (ev1 : IntKind.u64.wrap ((BitVec.ofInt IntKind.u64.bits (b.toNat : Int) &&& BitVec.ofInt IntKind.u64.bits ((-b).toNat : Int)).toNat : Int) = 1048576) : Body (En6 []) none1 Tryd.f112 [u64A b] .nil (I 20, .nil) := by
  have ev2 : IntKind.u64.wrap (1048576 * 285870213051353865) = 15500066829926137856 := by decide
  refine body_s ([Ans.o (Orc.b false), Ans.o (Orc.val 7 (u64A (-b)) H.nil), Ans.o (Orc.val 8 (AV.int IntKind.u64 (1048576 : Int)) H.nil), Ans.o (Orc.val 9 (AV.int IntKind.u64 (15500066829926137856 : Int)) H.nil)]) ((↑(BitVec.toNat b) : Int) ≠ (0 : Int) ∧ aUn UnOp.neg (u64A b) = some (u64A (-b)) ∧ aBin Tryd.prog BinOp.and (74 : Nat) (u64A b) (u64A (-b)) = some (AV.int IntKind.u64 (1048576 : Int)) ∧ aBin Tryd.prog BinOp.mul (74 : Nat) (AV.int IntKind.u64 (1048576 : Int)) (AV.int IntKind.u64 (285870213051353865 : Int)) = some (AV.int IntKind.u64 (15500066829926137856 : Int)) ∧ (I 20, H.mk [] [] []) = (I 20, H.mk [] [] [])) (by kernel_rfl) ?_
  refine ⟨by first | with_reducible assumption | omega | assumption, ?_⟩
  refine ⟨told_neg (by with_reducible assumption), ?_⟩
  refine ⟨told_and (by with_reducible assumption), ?_⟩
  refine ⟨told_mul (by with_reducible assumption), ?_⟩
  rfl
theorem r112_21 (b : W) (hz : (b.toNat : Int) ≠ 0) (ev0 : IntKind.u64.wrap (0 - (b.toNat : Int)) = ((-b).toNat : Int)) (ev1 : IntKind.u64.wrap ((BitVec.ofInt IntKind.u64.bits (b.toNat : Int) &&& BitVec.ofInt IntKind.u64.bits ((-b).toNat : Int)).toNat : Int) = 2097152) : Body (En6 []) none1 Tryd.f112 [u64A b] .nil (I 21, .nil) := by
  have ev2 : IntKind.u64.wrap (2097152 * 285870213051353865) = 12553389586142724096 := by decide
  refine body_s ([Ans.o (Orc.b false), Ans.o (Orc.val 7 (u64A (-b)) H.nil), Ans.o (Orc.val 8 (AV.int IntKind.u64 (2097152 : Int)) H.nil), Ans.o (Orc.val 9 (AV.int IntKind.u64 (12553389586142724096 : Int)) H.nil)]) ((↑(BitVec.toNat b) : Int) ≠ (0 : Int) ∧ aUn UnOp.neg (u64A b) = some (u64A (-b)) ∧ aBin Tryd.prog BinOp.and (74 : Nat) (u64A b) (u64A (-b)) = some (AV.int IntKind.u64 (2097152 : Int)) ∧ aBin Tryd.prog BinOp.mul (74 : Nat) (AV.int IntKind.u64 (2097152 : Int)) (AV.int IntKind.u64 (285870213051353865 : Int)) = some (AV.int IntKind.u64 (12553389586142724096 : Int)) ∧ (I 21, H.mk [] [] []) = (I 21, H.mk [] [] [])) (by kernel_rfl) ?_
  refine ⟨by first | with_reducible assumption | omega | assumption, ?_⟩
  refine ⟨told_neg (by with_reducible assumption), ?_⟩
  refine ⟨told_and (by with_reducible assumption), ?_⟩
  refine ⟨told_mul (by with_reducible assumption), ?_⟩
  rfl
theorem r112_22 (b : W) (hz : (b.toNat : Int) ≠ 0) (ev0 : IntKind.u64.wrap (0 - (b.toNat : Int)) = ((-b).toNat : Int)) (ev1 : IntKind.u64.wrap ((BitVec.ofInt IntKind.u64.bits (b.toNat : Int) &&& BitVec.ofInt IntKind.u64.bits ((-b).toNat : Int)).toNat : Int) = 4194304) : Body (En6 []) none1 Tryd.f112 [u64A b] .nil (I 22, .nil) := by
  have ev2 : IntKind.u64.wrap (4194304 * 285870213051353865) = 6660035098575896576 := by decide
  refine body_s ([Ans.o (Orc.b false), Ans.o (Orc.val 7 (u64A (-b)) H.nil), Ans.o (Orc.val 8 (AV.int IntKind.u64 (4194304 : Int)) H.nil), Ans.o (Orc.val 9 (AV.int IntKind.u64 (6660035098575896576 : Int)) H.nil)]) ((↑(BitVec.toNat b) : Int) ≠ (0 : Int) ∧ aUn UnOp.neg (u64A b) = some (u64A (-b)) ∧ aBin Tryd.prog BinOp.and (74 : Nat) (u64A b) (u64A (-b)) = some (AV.int IntKind.u64 (4194304 : Int)) ∧ aBin Tryd.prog BinOp.mul (74 : Nat) (AV.int IntKind.u64 (4194304 : Int)) (AV.int IntKind.u64 (285870213051353865 : Int)) = some (AV.int IntKind.u64 (6660035098575896576 : Int)) ∧ (I 22, H.mk [] [] []) = (I 22, H.mk [] [] [])) (by kernel_rfl) ?_
  refine ⟨by first | with_reducible assumption | omega | assumption, ?_⟩
  refine ⟨told_neg (by with_reducible assumption), ?_⟩
  refine ⟨told_and (by with_reducible assumption), ?_⟩
  refine ⟨told_mul (by with_reducible assumption), ?_⟩
  rfl
theorem r112_23 (b : W) (hz : (b.toNat : Int) ≠ 0) (ev0 : IntKind.u64.wrap (0 - (b.toNat : Int)) = ((-b).toNat : Int)) (ev1 : IntKind.u64.wrap ((BitVec.ofInt IntKind.u64.bits (b.toNat : Int) &&& BitVec.ofInt IntKind.u64.bits ((-b).toNat : Int)).toNat : Int) = 8388608) : Body (En6 []) none1 Tryd.f112 [u64A b] .nil (I 23, .nil) := by
  have ev2 : IntKind.u64.wrap (8388608 * 285870213051353865) = 13320070197151793152 := by decide
  refine body_s ([Ans.o (Orc.b false), Ans.o (Orc.val 7 (u64A (-b)) H.nil), Ans.o (Orc.val 8 (AV.int IntKind.u64 (8388608 : Int)) H.nil), Ans.o (Orc.val 9 (AV.int IntKind.u64 (13320070197151793152 : Int)) H.nil)]) ((↑(BitVec.toNat b) : Int) ≠ (0 : Int) ∧ aUn UnOp.neg (u64A b) = some (u64A (-b)) ∧ aBin Tryd.prog BinOp.and (74 : Nat) (u64A b) (u64A (-b)) = some (AV.int IntKind.u64 (8388608 : Int)) ∧ aBin Tryd.prog BinOp.mul (74 : Nat) (AV.int IntKind.u64 (8388608 : Int)) (AV.int IntKind.u64 (285870213051353865 : Int)) = some (AV.int IntKind.u64 (13320070197151793152 : Int)) ∧ (I 23, H.mk [] [] []) = (I 23, H.mk [] [] [])) (by kernel_rfl) ?_
  refine ⟨by first | with_reducible assumption | omega | assumption, ?_⟩
  refine ⟨told_neg (by with_reducible assumption), ?_⟩
  refine ⟨told_and (by with_reducible assumption), ?_⟩
  refine ⟨told_mul (by with_reducible assumption), ?_⟩
  rfl
theorem r112_24 (b : W) (hz : (b.toNat : Int) ≠ 0) (ev0 : IntKind.u64.wrap (0 - (b.toNat : Int)) = ((-b).toNat : Int)) (ev1 : IntKind.u64.wrap ((BitVec.ofInt IntKind.u64.bits (b.toNat : Int) &&& BitVec.ofInt IntKind.u64.bits ((-b).toNat : Int)).toNat : Int) = 16777216) : Body (En6 []) none1 Tryd.f112 [u64A b] .nil (I 24, .nil) := by
  have ev2 : IntKind.u64.wrap (16777216 * 285870213051353865) = 8193396320594034688 := by decide
  refine body_s ([Ans.o (Orc.b false), Ans.o (Orc.val 7 (u64A (-b)) H.nil), Ans.o (Orc.val 8 (AV.int IntKind.u64 (16777216 : Int)) H.nil), Ans.o (Orc.val 9 (AV.int IntKind.u64 (8193396320594034688 : Int)) H.nil)]) ((↑(BitVec.toNat b) : Int) ≠ (0 : Int) ∧ aUn UnOp.neg (u64A b) = some (u64A (-b)) ∧ aBin Tryd.prog BinOp.and (74 : Nat) (u64A b) (u64A (-b)) = some (AV.int IntKind.u64 (16777216 : Int)) ∧ aBin Tryd.prog BinOp.mul (74 : Nat) (AV.int IntKind.u64 (16777216 : Int)) (AV.int IntKind.u64 (285870213051353865 : Int)) = some (AV.int IntKind.u64 (8193396320594034688 : Int)) ∧ (I 24, H.mk [] [] []) = (I 24, H.mk [] [] [])) (by kernel_rfl) ?_
  refine ⟨by first | with_reducible assumption | omega | assumption, ?_⟩
  refine ⟨told_neg (by with_reducible assumption), ?_⟩
  refine ⟨told_and (by with_reducible assumption), ?_⟩
  refine ⟨told_mul (by with_reducible assumption), ?_⟩
  rfl
theorem r112_25 (b : W) (hz : (b.toNat : Int) ≠ 0) (ev0 : IntKind.u64.wrap (0 - (b.toNat : Int)) = ((-b).toNat : Int)) (ev1 : IntKind.u64.wrap ((BitVec.ofInt IntKind.u64.bits (b.toNat : Int) &&& BitVec.ofInt IntKind.u64.bits ((-b).toNat : Int)).toNat : Int) = 33554432) : Body (En6 []) none1 Tryd.f112 [u64A b] .nil (I 25, .nil) := by
  have ev2 : IntKind.u64.wrap (33554432 * 285870213051353865) = 16386792641188069376 := by decide
  refine body_s ([Ans.o (Orc.b false), Ans.o (Orc.val 7 (u64A (-b)) H.nil), Ans.o (Orc.val 8 (AV.int IntKind.u64 (33554432 : Int)) H.nil), Ans.o (Orc.val 9 (AV.int IntKind.u64 (16386792641188069376 : Int)) H.nil)]) ((↑(BitVec.toNat b) : Int) ≠ (0 : Int) ∧ aUn UnOp.neg (u64A b) = some (u64A (-b)) ∧ aBin Tryd.prog BinOp.and (74 : Nat) (u64A b) (u64A (-b)) = some (AV.int IntKind.u64 (33554432 : Int)) ∧ aBin Tryd.prog BinOp.mul (74 : Nat) (AV.int IntKind.u64 (33554432 : Int)) (AV.int IntKind.u64 (285870213051353865 : Int)) = some (AV.int IntKind.u64 (16386792641188069376 : Int)) ∧ (I 25, H.mk [] [] []) = (I 25, H.mk [] [] [])) (by kernel_rfl) ?_
  refine ⟨by first | with_reducible assumption | omega | assumption, ?_⟩
  refine ⟨told_neg (by with_reducible assumption), ?_⟩
  refine ⟨told_and (by with_reducible assumption), ?_⟩
  refine ⟨told_mul (by with_reducible assumption), ?_⟩
  rfl
theorem r112_26 (b : W) (hz : (b.toNat : Int) ≠ 0) (ev0 : IntKind.u64.wrap (0 - (b.toNat : Int)) = ((-b).toNat : Int)) (ev1 : IntKind.u64.wrap ((BitVec.ofInt IntKind.u64.bits (b.toNat : Int) &&& BitVec.ofInt IntKind.u64.bits ((-b).toNat : Int)).toNat : Int) = 67108864) : Body (En6 []) none1 Tryd.f112 [u64A b] .nil (I 26, .nil) := by
  have ev2 : IntKind.u64.wrap (67108864 * 285870213051353865) = 14326841208666587136 := by decide
  refine body_s ([Ans.o (Orc.b false), Ans.o (Orc.val 7 (u64A (-b)) H.nil), Ans.o (Orc.val 8 (AV.int IntKind.u64 (67108864 : Int)) H.nil), Ans.o (Orc.val 9 (AV.int IntKind.u64 (14326841208666587136 : Int)) H.nil)]) ((↑(BitVec.toNat b) : Int) ≠ (0 : Int) ∧ aUn UnOp.neg (u64A b) = some (u64A (-b)) ∧ aBin Tryd.prog BinOp.and (74 : Nat) (u64A b) (u64A (-b)) = some (AV.int IntKind.u64 (67108864 : Int)) ∧ aBin Tryd.prog BinOp.mul (74 : Nat) (AV.int IntKind.u64 (67108864 : Int)) (AV.int IntKind.u64 (285870213051353865 : Int)) = some (AV.int IntKind.u64 (14326841208666587136 : Int)) ∧ (I 26, H.mk [] [] []) = (I 26, H.mk [] [] [])) (by kernel_rfl) ?_
  refine ⟨by first | with_reducible assumption | omega | assumption, ?_⟩
  refine ⟨told_neg (by with_reducible assumption), ?_⟩
  refine ⟨told_and (by with_reducible assumption), ?_⟩
  refine ⟨told_mul (by with_reducible assumption), ?_⟩
  rfl
theorem r112_27 (b : W) (hz : (b.toNat : Int) ≠ 0) (ev0 : IntKind.u64.wrap (0 - (b.toNat : Int)) = ((-b).toNat : Int)) (ev1 : IntKind.u64.wrap ((BitVec.ofInt IntKind.u64.bits (b.toNat : Int) &&& BitVec.ofInt IntKind.u64.bits ((-b).toNat : Int)).toNat : Int) = 134217728) : Body (En6 []) none1 Tryd.f112 [u64A b] .nil (I 27, .nil) := by
  have ev2 : IntKind.u64.wrap (134217728 * 285870213051353865) = 10206938343623622656 := by decide
  refine body_s ([Ans.o (Orc.b false), Ans.o (Orc.val 7 (u64A (-b)) H.nil), Ans.o (Orc.val 8 (AV.int IntKind.u64 (134217728 : Int)) H.nil), Ans.o (Orc.val 9 (AV.int IntKind.u64 (10206938343623622656 : Int)) H.nil)]) ((↑(BitVec.toNat b) : Int) ≠ (0 : Int) ∧ aUn UnOp.neg (u64A b) = some (u64A (-b)) ∧ aBin Tryd.prog BinOp.and (74 : Nat) (u64A b) (u64A (-b)) = some (AV.int IntKind.u64 (134217728 : Int)) ∧ aBin Tryd.prog BinOp.mul (74 : Nat) (AV.int IntKind.u64 (134217728 : Int)) (AV.int IntKind.u64 (285870213051353865 : Int)) = some (AV.int IntKind.u64 (10206938343623622656 : Int)) ∧ (I 27, H.mk [] [] []) = (I 27, H.mk [] [] [])) (by kernel_rfl) ?_
  refine ⟨by first | with_reducible assumption | omega | assumption, ?_⟩
  refine ⟨told_neg (by with_reducible assumption), ?_⟩
  refine ⟨told_and (by with_reducible assumption), ?_⟩
  refine ⟨told_mul (by with_reducible assumption), ?_⟩
  rfl
theorem r112_28 (b : W) (hz : (b.toNat : Int) ≠ 0) (ev0 : IntKind.u64.wrap (0 - (b.toNat : Int)) = ((-b).toNat : Int)) (ev1 : IntKind.u64.wrap ((BitVec.ofInt IntKind.u64.bits (b.toNat : Int) &&& BitVec.ofInt IntKind.u64.bits ((-b).toNat : Int)).toNat : Int) = 268435456) : Body (En6 []) none1 Tryd.f112 [u64A b] .nil (I 28, .nil) := by
  have ev2 : IntKind.u64.wrap (268435456 * 285870213051353865) = 1967132613537693696 := by decide
  refine body_s ([Ans.o (Orc.b false), Ans.o (Orc.val 7 (u64A (-b)) H.nil), Ans.o (Orc.val 8 (AV.int IntKind.u64 (268435456 : Int)) H.nil), Ans.o (Orc.val 9 (AV.int IntKind.u64 (1967132613537693696 : Int)) H.nil)]) ((↑(BitVec.toNat b) : Int) ≠ (0 : Int) ∧ aUn UnOp.neg (u64A b) = some (u64A (-b)) ∧ aBin Tryd.prog BinOp.and (74 : Nat) (u64A b) (u64A (-b)) = some (AV.int IntKind.u64 (268435456 : Int)) ∧ aBin Tryd.prog BinOp.mul (74 : Nat) (AV.int IntKind.u64 (268435456 : Int)) (AV.int IntKind.u64 (285870213051353865 : Int)) = some (AV.int IntKind.u64 (1967132613537693696 : Int)) ∧ (I 28, H.mk [] [] []) = (I 28, H.mk [] [] [])) (by kernel_rfl) ?_
  refine ⟨by first | with_reducible assumption | omega | assumption, ?_⟩
  refine ⟨told_neg (by with_reducible assumption), ?_⟩
  refine ⟨told_and (by with_reducible assumption), ?_⟩
  refine ⟨told_mul (by with_reducible assumption), ?_⟩
  rfl
theorem r112_29 (b : W) (hz : (b.toNat : Int) ≠ 0) (ev0 : IntKind.u64.wrap (0 - (b.toNat : Int)) = ((-b).toNat : Int)) (ev1 : IntKind.u64.wrap ((BitVec.ofInt IntKind.u64.bits (b.toNat : Int) &&& BitVec.ofInt IntKind.u64.bits ((-b).toNat : Int)).toNat : Int) = 536870912) : Body (En6 []) none1 Tryd.f112 [u64A b] .nil (I 29, .nil) := by
  have ev2 : IntKind.u64.wrap (536870912 * 285870213051353865) = 3934265227075387392 := by decide
  refine body_s ([Ans.o (Orc.b false), Ans.o (Orc.val 7 (u64A (-b)) H.nil), Ans.o (Orc.val 8 (AV.int IntKind.u64 (536870912 : Int)) H.nil), Ans.o (Orc.val 9 (AV.int IntKind.u64 (3934265227075387392 : Int)) H.nil)]) ((↑(BitVec.toNat b) : Int) ≠ (0 : Int) ∧ aUn UnOp.neg (u64A b) = some (u64A (-b)) ∧ aBin Tryd.prog BinOp.and (74 : Nat) (u64A b) (u64A (-b)) = some (AV.int IntKind.u64 (536870912 : Int)) ∧ aBin Tryd.prog BinOp.mul (74 : Nat) (AV.int IntKind.u64 (536870912 : Int)) (AV.int IntKind.u64 (285870213051353865 : Int)) = some (AV.int IntKind.u64 (3934265227075387392 : Int)) ∧ (I 29, H.mk [] [] []) = (I 29, H.mk [] [] [])) (by kernel_rfl) ?_
  refine ⟨by first | with_reducible assumption | omega | assumption, ?_⟩
  refine ⟨told_neg (by with_reducible assumption), ?_⟩
  refine ⟨told_and (by with_reducible assumption), ?_⟩
  refine ⟨told_mul (by with_reducible assumption), ?_⟩
  rfl
theorem r112_30 (b : W) (hz : (b.toNat : Int) ≠ 0) (ev0 : IntKind.u64.wrap (0 - (b.toNat : Int)) = ((-b).toNat : Int)) (ev1 : IntKind.u64.wrap ((BitVec.ofInt IntKind.u64.bits (b.toNat : Int) &&& BitVec.ofInt IntKind.u64.bits ((-b).toNat : Int)).toNat : Int) = 1073741824) : Body (En6 []) none1 Tryd.f112 [u64A b] .nil (I 30, .nil) := by
  have ev2 : IntKind.u64.wrap (1073741824 * 285870213051353865) = 7868530454150774784 := by decide
  refine body_s ([Ans.o (Orc.b false), Ans.o (Orc.val 7 (u64A (-b)) H.nil), Ans.o (Orc.val 8 (AV.int IntKind.u64 (1073741824 : Int)) H.nil), Ans.o (Orc.val 9 (AV.int IntKind.u64 (7868530454150774784 : Int)) H.nil)]) ((↑(BitVec.toNat b) : Int) ≠ (0 : Int) ∧ aUn UnOp.neg (u64A b) = some (u64A (-b)) ∧ aBin Tryd.prog BinOp.and (74 : Nat) (u64A b) (u64A (-b)) = some (AV.int IntKind.u64 (1073741824 : Int)) ∧ aBin Tryd.prog BinOp.mul (74 : Nat) (AV.int IntKind.u64 (1073741824 : Int)) (AV.int IntKind.u64 (285870213051353865 : Int)) = some (AV.int IntKind.u64 (7868530454150774784 : Int)) ∧ (I 30, H.mk [] [] []) = (I 30, H.mk [] [] [])) (by kernel_rfl) ?_
  refine ⟨by first | with_reducible assumption | omega | assumption, ?_⟩
  refine ⟨told_neg (by with_reducible assumption), ?_⟩
  refine ⟨told_and (by with_reducible assumption), ?_⟩
  refine ⟨told_mul (by with_reducible assumption), ?_⟩
  rfl
theorem r112_31 (b : W) (hz : (b.toNat : Int) ≠ 0) (ev0 : IntKind.u64.wrap (0 - (b.toNat : Int)) = ((-b).toNat : Int)) (ev1 : IntKind.u64.wrap ((BitVec.ofInt IntKind.u64.bits (b.toNat : Int) &&& BitVec.ofInt IntKind.u64.bits ((-b).toNat : Int)).toNat : Int) = 2147483648) : Body (En6 []) none1 Tryd.f112 [u64A b] .nil (I 31, .nil) := by
  have ev2 : IntKind.u64.wrap (2147483648 * 285870213051353865) = 15737060908301549568 := by decide
  refine body_s ([Ans.o (Orc.b false), Ans.o (Orc.val 7 (u64A (-b)) H.nil), Ans.o (Orc.val 8 (AV.int IntKind.u64 (2147483648 : Int)) H.nil), Ans.o (Orc.val 9 (AV.int IntKind.u64 (15737060908301549568 : Int)) H.nil)]) ((↑(BitVec.toNat b) : Int) ≠ (0 : Int) ∧ aUn UnOp.neg (u64A b) = some (u64A (-b)) ∧ aBin Tryd.prog BinOp.and (74 : Nat) (u64A b) (u64A (-b)) = some (AV.int IntKind.u64 (2147483648 : Int)) ∧ aBin Tryd.prog BinOp.mul (74 : Nat) (AV.int IntKind.u64 (2147483648 : Int)) (AV.int IntKind.u64 (285870213051353865 : Int)) = some (AV.int IntKind.u64 (15737060908301549568 : Int)) ∧ (I 31, H.mk [] [] []) = (I 31, H.mk [] [] [])) (by kernel_rfl) ?_
  refine ⟨by first | with_reducible assumption | omega | assumption, ?_⟩
  refine ⟨told_neg (by with_reducible assumption), ?_⟩
  refine ⟨told_and (by with_reducible assumption), ?_⟩
  refine ⟨told_mul (by with_reducible assumption), ?_⟩
  rfl
theorem r112_32 (b : W) (hz : (b.toNat : Int) ≠ 0) (ev0 : IntKind.u64.wrap (0 - (b.toNat : Int)) = ((-b).toNat : Int)) (ev1 : IntKind.u64.wrap ((BitVec.ofInt IntKind.u64.bits (b.toNat : Int) &&& BitVec.ofInt IntKind.u64.bits ((-b).toNat : Int)).toNat : Int) = 4294967296) : Body (En6 []) none1 Tryd.f112 [u64A b] .nil (I 32, .nil) := by
  have ev2 : IntKind.u64.wrap (4294967296 * 285870213051353865) = 13027377742893547520 := by decide
  refine body_s ([Ans.o (Orc.b false), Ans.o (Orc.val 7 (u64A (-b)) H.nil), Ans.o (Orc.val 8 (AV.int IntKind.u64 (4294967296 : Int)) H.nil), Ans.o (Orc.val 9 (AV.int IntKind.u64 (13027377742893547520 : Int)) H.nil)]) ((↑(BitVec.toNat b) : Int) ≠ (0 : Int) ∧ aUn UnOp.neg (u64A b) = some (u64A (-b)) ∧ aBin Tryd.prog BinOp.and (74 : Nat) (u64A b) (u64A (-b)) = some (AV.int IntKind.u64 (4294967296 : Int)) ∧ aBin Tryd.prog BinOp.mul (74 : Nat) (AV.int IntKind.u64 (4294967296 : Int)) (AV.int IntKind.u64 (285870213051353865 : Int)) = some (AV.int IntKind.u64 (13027377742893547520 : Int)) ∧ (I 32, H.mk [] [] []) = (I 32, H.mk [] [] [])) (by kernel_rfl) ?_
  refine ⟨by first | with_reducible assumption | omega | assumption, ?_⟩
  refine ⟨told_neg (by with_reducible assumption), ?_⟩
  refine ⟨told_and (by with_reducible assumption), ?_⟩
  refine ⟨told_mul (by with_reducible assumption), ?_⟩
  rfl
theorem r112_33 (b : W) (hz : (b.toNat : Int) ≠ 0) (ev0 : IntKind.u64.wrap (0 - (b.toNat : Int)) = ((-b).toNat : Int)) (ev1 : IntKind.u64.wrap ((BitVec.ofInt IntKind.u64.bits (b.toNat : Int) &&& BitVec.ofInt IntKind.u64.bits ((-b).toNat : Int)).toNat : Int) = 8589934592) : Body (En6 []) none1 Tryd.f112 [u64A b] .nil (I 33, .nil) := by
  have ev2 : IntKind.u64.wrap (8589934592 * 285870213051353865) = 7608011412077543424 := by decide
  refine body_s ([Ans.o (Orc.b false), Ans.o (Orc.val 7 (u64A (-b)) H.nil), Ans.o (Orc.val 8 (AV.int IntKind.u64 (8589934592 : Int)) H.nil), Ans.o (Orc.val 9 (AV.int IntKind.u64 (7608011412077543424 : Int)) H.nil)]) ((↑(BitVec.toNat b) : Int) ≠ (0 : Int) ∧ aUn UnOp.neg (u64A b) = some (u64A (-b)) ∧ aBin Tryd.prog BinOp.and (74 : Nat) (u64A b) (u64A (-b)) = some (AV.int IntKind.u64 (8589934592 : Int)) ∧ aBin Tryd.prog BinOp.mul (74 : Nat) (AV.int IntKind.u64 (8589934592 : Int)) (AV.int IntKind.u64 (285870213051353865 : Int)) = some (AV.int IntKind.u64 (7608011412077543424 : Int)) ∧ (I 33, H.mk [] [] []) = (I 33, H.mk [] [] [])) (by kernel_rfl) ?_
  refine ⟨by first | with_reducible assumption | omega | assumption, ?_⟩
  refine ⟨told_neg (by with_reducible assumption), ?_⟩
  refine ⟨told_and (by with_reducible assumption), ?_⟩
  refine ⟨told_mul (by with_reducible assumption), ?_⟩
  rfl
theorem r112_34 (b : W) (hz : (b.toNat : Int) ≠ 0) (ev0 : IntKind.u64.wrap (0 - (b.toNat : Int)) = ((-b).toNat : Int)) (ev1 : IntKind.u64.wrap ((BitVec.ofInt IntKind.u64.bits (b.toNat : Int) &&& BitVec.ofInt IntKind.u64.bits ((-b).toNat : Int)).toNat : Int) = 17179869184) : Body (En6 []) none1 Tryd.f112 [u64A b] .nil (I 34, .nil) := by
  have ev2 : IntKind.u64.wrap (17179869184 * 285870213051353865) = 15216022824155086848 := by decide
  refine body_s ([Ans.o (Orc.b false), Ans.o (Orc.val 7 (u64A (-b)) H.nil), Ans.o (Orc.val 8 (AV.int IntKind.u64 (17179869184 : Int)) H.nil), Ans.o (Orc.val 9 (AV.int IntKind.u64 (15216022824155086848 : Int)) H.nil)]) ((↑(BitVec.toNat b) : Int) ≠ (0 : Int) ∧ aUn UnOp.neg (u64A b) = some (u64A (-b)) ∧ aBin Tryd.prog BinOp.and (74 : Nat) (u64A b) (u64A (-b)) = some (AV.int IntKind.u64 (17179869184 : Int)) ∧ aBin Tryd.prog BinOp.mul (74 : Nat) (AV.int IntKind.u64 (17179869184 : Int)) (AV.int IntKind.u64 (285870213051353865 : Int)) = some (AV.int IntKind.u64 (15216022824155086848 : Int)) ∧ (I 34, H.mk [] [] []) = (I 34, H.mk [] [] [])) (by kernel_rfl) ?_
  refine ⟨by first | with_reducible assumption | omega | assumption, ?_⟩
  refine ⟨told_neg (by with_reducible assumption), ?_⟩
  refine ⟨told_and (by with_reducible assumption), ?_⟩
  refine ⟨told_mul (by with_reducible assumption), ?_⟩
  rfl
theorem r112_35 (b : W) (hz : (b.toNat : Int) ≠ 0) (ev0 : IntKind.u64.wrap (0 - (b.toNat : Int)) = ((-b).toNat : Int)) (ev1 : IntKind.u64.wrap ((BitVec.ofInt IntKind.u64.bits (b.toNat : Int) &&& BitVec.ofInt IntKind.u64.bits ((-b).toNat : Int)).toNat : Int) = 34359738368) : Body (En6 []) none1 Tryd.f112 [u64A b] .nil (I 35, .nil) := by
  have ev2 : IntKind.u64.wrap (34359738368 * 285870213051353865) = 11985301574600622080 := by decide
  refine body_s ([Ans.o (Orc.b false), Ans.o (Orc.val 7 (u64A (-b)) H.nil), Ans.o (Orc.val 8 (AV.int IntKind.u64 (34359738368 : Int)) H.nil), Ans.o (Orc.val 9 (AV.int IntKind.u64 (11985301574600622080 : Int)) H.nil)]) ((↑(BitVec.toNat b) : Int) ≠ (0 : Int) ∧ aUn UnOp.neg (u64A b) = some (u64A (-b)) ∧ aBin Tryd.prog BinOp.and (74 : Nat) (u64A b) (u64A (-b)) = some (AV.int IntKind.u64 (34359738368 : Int)) ∧ aBin Tryd.prog BinOp.mul (74 : Nat) (AV.int IntKind.u64 (34359738368 : Int)) (AV.int IntKind.u64 (285870213051353865 : Int)) = some (AV.int IntKind.u64 (11985301574600622080 : Int)) ∧ (I 35, H.mk [] [] []) = (I 35, H.mk [] [] [])) (by kernel_rfl) ?_
  refine ⟨by first | with_reducible assumption | omega | assumption, ?_⟩
  refine ⟨told_neg (by with_reducible assumption), ?_⟩
  refine ⟨told_and (by with_reducible assumption), ?_⟩
  refine ⟨told_mul (by with_reducible assumption), ?_⟩
  rfl
theorem r112_36 (b : W) (hz : (b.toNat : Int) ≠ 0) (ev0 : IntKind.u64.wrap (0 - (b.toNat : Int)) = ((-b).toNat : Int)) (ev1 : IntKind.u64.wrap ((BitVec.ofInt IntKind.u64.bits (b.toNat : Int) &&& BitVec.ofInt IntKind.u64.bits ((-b).toNat : Int)).toNat : Int) = 68719476736) : Body (En6 []) none1 Tryd.f112 [u64A b] .nil (I 36, .nil) := by
  have ev2 : IntKind.u64.wrap (68719476736 * 285870213051353865) = 5523859075491692544 := by decide
  refine body_s ([Ans.o (Orc.b false), Ans.o (Orc.val 7 (u64A (-b)) H.nil), Ans.o (Orc.val 8 (AV.int IntKind.u64 (68719476736 : Int)) H.nil), Ans.o (Orc.val 9 (AV.int IntKind.u64 (5523859075491692544 : Int)) H.nil)]) ((↑(BitVec.toNat b) : Int) ≠ (0 : Int) ∧ aUn UnOp.neg (u64A b) = some (u64A (-b)) ∧ aBin Tryd.prog BinOp.and (74 : Nat) (u64A b) (u64A (-b)) = some (AV.int IntKind.u64 (68719476736 : Int)) ∧ aBin Tryd.prog BinOp.mul (74 : Nat) (AV.int IntKind.u64 (68719476736 : Int)) (AV.int IntKind.u64 (285870213051353865 : Int)) = some (AV.int IntKind.u64 (5523859075491692544 : Int)) ∧ (I 36, H.mk [] [] []) = (I 36, H.mk [] [] [])) (by kernel_rfl) ?_
  refine ⟨by first | with_reducible assumption | omega | assumption, ?_⟩
  refine ⟨told_neg (by with_reducible assumption), ?_⟩
  refine ⟨told_and (by with_reducible assumption), ?_⟩
  refine ⟨told_mul (by with_reducible assumption), ?_⟩
  rfl
theorem r112_37 (b : W) (hz : (b.toNat : Int) ≠ 0) (ev0 : IntKind.u64.wrap (0 - (b.toNat : Int)) = ((-b).toNat : Int)) (ev1 : IntKind.u64.wrap ((BitVec.ofInt IntKind.u64.bits (b.toNat : Int) &&& BitVec.ofInt IntKind.u64.bits ((-b).toNat : Int)).toNat : Int) = 137438953472) : Body (En6 []) none1 Tryd.f112 [u64A b] .nil (I 37, .nil) := by
  have ev2 : IntKind.u64.wrap (137438953472 * 285870213051353865) = 11047718150983385088 := by decide
  refine body_s ([Ans.o (Orc.b false), Ans.o (Orc.val 7 (u64A (-b)) H.nil), Ans.o (Orc.val 8 (AV.int IntKind.u64 (137438953472 : Int)) H.nil), Ans.o (Orc.val 9 (AV.int IntKind.u64 (11047718150983385088 : Int)) H.nil)]) ((↑(BitVec.toNat b) : Int) ≠ (0 : Int) ∧ aUn UnOp.neg (u64A b) = some (u64A (-b)) ∧ aBin Tryd.prog BinOp.and (74 : Nat) (u64A b) (u64A (-b)) = some (AV.int IntKind.u64 (137438953472 : Int)) ∧ aBin Tryd.prog BinOp.mul (74 : Nat) (AV.int IntKind.u64 (137438953472 : Int)) (AV.int IntKind.u64 (285870213051353865 : Int)) = some (AV.int IntKind.u64 (11047718150983385088 : Int)) ∧ (I 37, H.mk [] [] []) = (I 37, H.mk [] [] [])) (by kernel_rfl) ?_
  refine ⟨by first | with_reducible assumption | omega | assumption, ?_⟩
  refine ⟨told_neg (by with_reducible assumption), ?_⟩
  refine ⟨told_and (by with_reducible assumption), ?_⟩
  refine ⟨told_mul (by with_reducible assumption), ?_⟩
  rfl
theorem r112_38 (b : W) (hz : (b.toNat : Int) ≠ 0) (ev0 : IntKind.u64.wrap (0 - (b.toNat : Int)) = ((-b).toNat : Int)) (ev1 : IntKind.u64.wrap ((BitVec.ofInt IntKind.u64.bits (b.toNat : Int) &&& BitVec.ofInt IntKind.u64.bits ((-b).toNat : Int)).toNat : Int) = 274877906944) : Body (En6 []) none1 Tryd.f112 [u64A b] .nil (I 38, .nil) := by
  have ev2 : IntKind.u64.wrap (274877906944 * 285870213051353865) = 3648692228257218560 := by decide
  refine body_s ([Ans.o (Orc.b false), Ans.o (Orc.val 7 (u64A (-b)) H.nil), Ans.o (Orc.val 8 (AV.int IntKind.u64 (274877906944 : Int)) H.nil), Ans.o (Orc.val 9 (AV.int IntKind.u64 (3648692228257218560 : Int)) H.nil)]) ((↑(BitVec.toNat b) : Int) ≠ (0 : Int) ∧ aUn UnOp.neg (u64A b) = some (u64A (-b)) ∧ aBin Tryd.prog BinOp.and (74 : Nat) (u64A b) (u64A (-b)) = some (AV.int IntKind.u64 (274877906944 : Int)) ∧ aBin Tryd.prog BinOp.mul (74 : Nat) (AV.int IntKind.u64 (274877906944 : Int)) (AV.int IntKind.u64 (285870213051353865 : Int)) = some (AV.int IntKind.u64 (3648692228257218560 : Int)) ∧ (I 38, H.mk [] [] []) = (I 38, H.mk [] [] [])) (by kernel_rfl) ?_
  refine ⟨by first | with_reducible assumption | omega | assumption, ?_⟩
  refine ⟨told_neg (by with_reducible assumption), ?_⟩
  refine ⟨told_and (by with_reducible assumption), ?_⟩
  refine ⟨told_mul (by with_reducible assumption), ?_⟩
  rfl
theorem r112_39 (b : W) (hz : (b.toNat : Int) ≠ 0) (ev0 : IntKind.u64.wrap (0 - (b.toNat : Int)) = ((-b).toNat : Int)) (ev1 : IntKind.u64.wrap ((BitVec.ofInt IntKind.u64.bits (b.toNat : Int) &&& BitVec.ofInt IntKind.u64.bits ((-b).toNat : Int)).toNat : Int) = 549755813888) : Body (En6 []) none1 Tryd.f112 [u64A b] .nil (I 39, .nil) := by
  have ev2 : IntKind.u64.wrap (549755813888 * 285870213051353865) = 7297384456514437120 := by decide
  refine body_s ([Ans.o (Orc.b false), Ans.o (Orc.val 7 (u64A (-b)) H.nil), Ans.o (Orc.val 8 (AV.int IntKind.u64 (549755813888 : Int)) H.nil), Ans.o (Orc.val 9 (AV.int IntKind.u64 (7297384456514437120 : Int)) H.nil)]) ((↑(BitVec.toNat b) : Int) ≠ (0 : Int) ∧ aUn UnOp.neg (u64A b) = some (u64A (-b)) ∧ aBin Tryd.prog BinOp.and (74 : Nat) (u64A b) (u64A (-b)) = some (AV.int IntKind.u64 (549755813888 : Int)) ∧ aBin Tryd.prog BinOp.mul (74 : Nat) (AV.int IntKind.u64 (549755813888 : Int)) (AV.int IntKind.u64 (285870213051353865 : Int)) = some (AV.int IntKind.u64 (7297384456514437120 : Int)) ∧ (I 39, H.mk [] [] []) = (I 39, H.mk [] [] [])) (by kernel_rfl) ?_
  refine ⟨by first | with_reducible assumption | omega | assumption, ?_⟩
  refine ⟨told_neg (by with_reducible assumption), ?_⟩
  refine ⟨told_and (by with_reducible assumption), ?_⟩
  refine ⟨told_mul (by with_reducible assumption), ?_⟩
  rfl
theorem r112_40 (b : W) (hz : (b.toNat : Int) ≠ 0) (ev0 : IntKind.u64.wrap (0 - (b.toNat : Int)) = ((-b).toNat : Int)) (ev1 : IntKind.u64.wrap ((BitVec.ofInt IntKind.u64.bits (b.toNat : Int) &&& BitVec.ofInt IntKind.u64.bits ((-b).toNat : Int)).toNat : Int) = 1099511627776) : Body (En6 []) none1 Tryd.f112 [u64A b] .nil (I 40, .nil) := by
  have ev2 : IntKind.u64.wrap (1099511627776 * 285870213051353865) = 14594768913028874240 := by decide
  refine body_s ([Ans.o (Orc.b false), Ans.o (Orc.val 7 (u64A (-b)) H.nil), Ans.o (Orc.val 8 (AV.int IntKind.u64 (1099511627776 : Int)) H.nil), Ans.o (Orc.val 9 (AV.int IntKind.u64 (14594768913028874240 : Int)) H.nil)]) ((↑(BitVec.toNat b) : Int) ≠ (0 : Int) ∧ aUn UnOp.neg (u64A b) = some (u64A (-b)) ∧ aBin Tryd.prog BinOp.and (74 : Nat) (u64A b) (u64A (-b)) = some (AV.int IntKind.u64 (1099511627776 : Int)) ∧ aBin Tryd.prog BinOp.mul (74 : Nat) (AV.int IntKind.u64 (1099511627776 : Int)) (AV.int IntKind.u64 (285870213051353865 : Int)) = some (AV.int IntKind.u64 (14594768913028874240 : Int)) ∧ (I 40, H.mk [] [] []) = (I 40, H.mk [] [] [])) (by kernel_rfl) ?_
  refine ⟨by first | with_reducible assumption | omega | assumption, ?_⟩
  refine ⟨told_neg (by with_reducible assumption), ?_⟩
  refine ⟨told_and (by with_reducible assumption), ?_⟩
  refine ⟨told_mul (by with_reducible assumption), ?_⟩
  rfl
theorem r112_41 (b : W) (hz : (b.toNat : Int) ≠ 0) (ev0 : IntKind.u64.wrap (0 - (b.toNat : Int)) = ((-b).toNat : Int)) (ev1 : IntKind.u64.wrap ((BitVec.ofInt IntKind.u64.bits (b.toNat : Int) &&& BitVec.ofInt IntKind.u64.bits ((-b).toNat : Int)).toNat : Int) = 2199023255552) : Body (En6 []) none1 Tryd.f112 [u64A b] .nil (I 41, .nil) := by
  have ev2 : IntKind.u64.wrap (2199023255552 * 285870213051353865) = 10742793752348196864 := by decide
  refine body_s ([Ans.o (Orc.b false), Ans.o (Orc.val 7 (u64A (-b)) H.nil), Ans.o (Orc.val 8 (AV.int IntKind.u64 (2199023255552 : Int)) H.nil), Ans.o (Orc.val 9 (AV.int IntKind.u64 (10742793752348196864 : Int)) H.nil)]) ((↑(BitVec.toNat b) : Int) ≠ (0 : Int) ∧ aUn UnOp.neg (u64A b) = some (u64A (-b)) ∧ aBin Tryd.prog BinOp.and (74 : Nat) (u64A b) (u64A (-b)) = some (AV.int IntKind.u64 (2199023255552 : Int)) ∧ aBin Tryd.prog BinOp.mul (74 : Nat) (AV.int IntKind.u64 (2199023255552 : Int)) (AV.int IntKind.u64 (285870213051353865 : Int)) = some (AV.int IntKind.u64 (10742793752348196864 : Int)) ∧ (I 41, H.mk [] [] []) = (I 41, H.mk [] [] [])) (by kernel_rfl) ?_
  refine ⟨by first | with_reducible assumption | omega | assumption, ?_⟩
  refine ⟨told_neg (by with_reducible assumption), ?_⟩
  refine ⟨told_and (by with_reducible assumption), ?_⟩
  refine ⟨told_mul (by with_reducible assumption), ?_⟩
  rfl
theorem r112_42 (b : W) (hz : (b.toNat : Int) ≠ 0) (ev0 : IntKind.u64.wrap (0 - (b.toNat : Int)) = ((-b).toNat : Int)) (ev1 : IntKind.u64.wrap ((BitVec.ofInt IntKind.u64.bits (b.toNat : Int) &&& BitVec.ofInt IntKind.u64.bits ((-b).toNat : Int)).toNat : Int) = 4398046511104) : Body (En6 []) none1 Tryd.f112 [u64A b] .nil (I 42, .nil) := by
  have ev2 : IntKind.u64.wrap (4398046511104 * 285870213051353865) = 3038843430986842112 := by decide
  refine body_s ([Ans.o (Orc.b false), Ans.o (Orc.val 7 (u64A (-b)) H.nil), Ans.o (Orc.val 8 (AV.int IntKind.u64 (4398046511104 : Int)) H.nil), Ans.o (Orc.val 9 (AV.int IntKind.u64 (3038843430986842112 : Int)) H.nil)]) ((↑(BitVec.toNat b) : Int) ≠ (0 : Int) ∧ aUn UnOp.neg (u64A b) = some (u64A (-b)) ∧ aBin Tryd.prog BinOp.and (74 : Nat) (u64A b) (u64A (-b)) = some (AV.int IntKind.u64 (4398046511104 : Int)) ∧ aBin Tryd.prog BinOp.mul (74 : Nat) (AV.int IntKind.u64 (4398046511104 : Int)) (AV.int IntKind.u64 (285870213051353865 : Int)) = some (AV.int IntKind.u64 (3038843430986842112 : Int)) ∧ (I 42, H.mk [] [] []) = (I 42, H.mk [] [] [])) (by kernel_rfl) ?_
  refine ⟨by first | with_reducible assumption | omega | assumption, ?_⟩
  refine ⟨told_neg (by with_reducible assumption), ?_⟩
  refine ⟨told_and (by with_reducible assumption), ?_⟩
  refine ⟨told_mul (by with_reducible assumption), ?_⟩
  rfl
theorem r112_43 (b : W) (hz : (b.toNat : Int) ≠ 0) (ev0 : IntKind.u64.wrap (0 - (b.toNat : Int)) = ((-b).toNat : Int)) (ev1 : IntKind.u64.wrap ((BitVec.ofInt IntKind.u64.bits (b.toNat : Int) &&& BitVec.ofInt IntKind.u64.bits ((-b).toNat : Int)).toNat : Int) = 8796093022208) : Body (En6 []) none1 Tryd.f112 [u64A b] .nil (I 43, .nil) := by
  have ev2 : IntKind.u64.wrap (8796093022208 * 285870213051353865) = 6077686861973684224 := by decide
  refine body_s ([Ans.o (Orc.b false), Ans.o (Orc.val 7 (u64A (-b)) H.nil), Ans.o (Orc.val 8 (AV.int IntKind.u64 (8796093022208 : Int)) H.nil), Ans.o (Orc.val 9 (AV.int IntKind.u64 (6077686861973684224 : Int)) H.nil)]) ((↑(BitVec.toNat b) : Int) ≠ (0 : Int) ∧ aUn UnOp.neg (u64A b) = some (u64A (-b)) ∧ aBin Tryd.prog BinOp.and (74 : Nat) (u64A b) (u64A (-b)) = some (AV.int IntKind.u64 (8796093022208 : Int)) ∧ aBin Tryd.prog BinOp.mul (74 : Nat) (AV.int IntKind.u64 (8796093022208 : Int)) (AV.int IntKind.u64 (285870213051353865 : Int)) = some (AV.int IntKind.u64 (6077686861973684224 : Int)) ∧ (I 43, H.mk [] [] []) = (I 43, H.mk [] [] [])) (by kernel_rfl) ?_
  refine ⟨by first | with_reducible assumption | omega | assumption, ?_⟩
  refine ⟨told_neg (by with_reducible assumption), ?_⟩
  refine ⟨told_and (by with_reducible assumption), ?_⟩
  refine ⟨told_mul (by with_reducible assumption), ?_⟩
  rfl
theorem r112_44 (b : W) (hz : (b.toNat : Int) ≠ 0) (ev0 : IntKind.u64.wrap (0 - (b.toNat : Int)) = ((-b).toNat : Int)) (ev1 : IntKind.u64.wrap ((BitVec.ofInt IntKind.u64.bits (b.toNat : Int) &&& BitVec.ofInt IntKind.u64.bits ((-b).toNat : Int)).toNat : Int) = 17592186044416) : Body (En6 []) none1 Tryd.f112 [u64A b] .nil (I 44, .nil) := by
  have ev2 : IntKind.u64.wrap (17592186044416 * 285870213051353865) = 12155373723947368448 := by decide
  refine body_s ([Ans.o (Orc.b false), Ans.o (Orc.val 7 (u64A (-b)) H.nil), Ans.o (Orc.val 8 (AV.int IntKind.u64 (17592186044416 : Int)) H.nil), Ans.o (Orc.val 9 (AV.int IntKind.u64 (12155373723947368448 : Int)) H.nil)]) ((↑(BitVec.toNat b) : Int) ≠ (0 : Int) ∧ aUn UnOp.neg (u64A b) = some (u64A (-b)) ∧ aBin Tryd.prog BinOp.and (74 : Nat) (u64A b) (u64A (-b)) = some (AV.int IntKind.u64 (17592186044416 : Int)) ∧ aBin Tryd.prog BinOp.mul (74 : Nat) (AV.int IntKind.u64 (17592186044416 : Int)) (AV.int IntKind.u64 (285870213051353865 : Int)) = some (AV.int IntKind.u64 (12155373723947368448 : Int)) ∧ (I 44, H.mk [] [] []) = (I 44, H.mk [] [] [])) (by kernel_rfl) ?_
  refine ⟨by first | with_reducible assumption | omega | assumption, ?_⟩
  refine ⟨told_neg (by with_reducible assumption), ?_⟩
  refine ⟨told_and (by with_reducible assumption), ?_⟩
  refine ⟨told_mul (by with_reducible assumption), ?_⟩
  rfl
theorem r112_45 (b : W) (hz : (b.toNat : Int) ≠ 0) (ev0 : IntKind.u64.wrap (0 - (b.toNat : Int)) = ((-b).toNat : Int)) (ev1 : IntKind.u64.wrap ((BitVec.ofInt IntKind.u64.bits (b.toNat : Int) &&& BitVec.ofInt IntKind.u64.bits ((-b).toNat : Int)).toNat : Int) = 35184372088832) : Body (En6 []) none1 Tryd.f112 [u64A b] .nil (I 45, .nil) := by
  have ev2 : IntKind.u64.wrap (35184372088832 * 285870213051353865) = 5864003374185185280 := by decide
  refine body_s ([Ans.o (Orc.b false), Ans.o (Orc.val 7 (u64A (-b)) H.nil), Ans.o (Orc.val 8 (AV.int IntKind.u64 (35184372088832 : Int)) H.nil), Ans.o (Orc.val 9 (AV.int IntKind.u64 (5864003374185185280 : Int)) H.nil)]) ((↑(BitVec.toNat b) : Int) ≠ (0 : Int) ∧ aUn UnOp.neg (u64A b) = some (u64A (-b)) ∧ aBin Tryd.prog BinOp.and (74 : Nat) (u64A b) (u64A (-b)) = some (AV.int IntKind.u64 (35184372088832 : Int)) ∧ aBin Tryd.prog BinOp.mul (74 : Nat) (AV.int IntKind.u64 (35184372088832 : Int)) (AV.int IntKind.u64 (285870213051353865 : Int)) = some (AV.int IntKind.u64 (5864003374185185280 : Int)) ∧ (I 45, H.mk [] [] []) = (I 45, H.mk [] [] [])) (by kernel_rfl) ?_
  refine ⟨by first | with_reducible assumption | omega | assumption, ?_⟩
  refine ⟨told_neg (by with_reducible assumption), ?_⟩
  refine ⟨told_and (by with_reducible assumption), ?_⟩
  refine ⟨told_mul (by with_reducible assumption), ?_⟩
  rfl
theorem r112_46 (b : W) (hz : (b.toNat : Int) ≠ 0) (ev0 : IntKind.u64.wrap (0 - (b.toNat : Int)) = ((-b).toNat : Int)) (ev1 : IntKind.u64.wrap ((BitVec.ofInt IntKind.u64.bits (b.toNat : Int) &&& BitVec.ofInt IntKind.u64.bits ((-b).toNat : Int)).toNat : Int) = 70368744177664) : Body (En6 []) none1 Tryd.f112 [u64A b] .nil (I 46, .nil) := by
  have ev2 : IntKind.u64.wrap (70368744177664 * 285870213051353865) = 11728006748370370560 := by decide
  refine body_s ([Ans.o (Orc.b false), Ans.o (Orc.val 7 (u64A (-b)) H.nil), Ans.o (Orc.val 8 (AV.int IntKind.u64 (70368744177664 : Int)) H.nil), Ans.o (Orc.val 9 (AV.int IntKind.u64 (11728006748370370560 : Int)) H.nil)]) ((↑(BitVec.toNat b) : Int) ≠ (0 : Int) ∧ aUn UnOp.neg (u64A b) = some (u64A (-b)) ∧ aBin Tryd.prog BinOp.and (74 : Nat) (u64A b) (u64A (-b)) = some (AV.int IntKind.u64 (70368744177664 : Int)) ∧ aBin Tryd.prog BinOp.mul (74 : Nat) (AV.int IntKind.u64 (70368744177664 : Int)) (AV.int IntKind.u64 (285870213051353865 : Int)) = some (AV.int IntKind.u64 (11728006748370370560 : Int)) ∧ (I 46, H.mk [] [] []) = (I 46, H.mk [] [] [])) (by kernel_rfl) ?_
  refine ⟨by first | with_reducible assumption | omega | assumption, ?_⟩
  refine ⟨told_neg (by with_reducible assumption), ?_⟩
  refine ⟨told_and (by with_reducible assumption), ?_⟩
  refine ⟨told_mul (by with_reducible assumption), ?_⟩
  rfl
theorem r112_47 (b : W) (hz : (b.toNat : Int) ≠ 0) (ev0 : IntKind.u64.wrap (0 - (b.toNat : Int)) = ((-b).toNat : Int)) (ev1 : IntKind.u64.wrap ((BitVec.ofInt IntKind.u64.bits (b.toNat : Int) &&& BitVec.ofInt IntKind.u64.bits ((-b).toNat : Int)).toNat : Int) = 140737488355328) : Body (En6 []) none1 Tryd.f112 [u64A b] .nil (I 47, .nil) := by
  have ev2 : IntKind.u64.wrap (140737488355328 * 285870213051353865) = 5009269423031189504 := by decide
  refine body_s ([Ans.o (Orc.b false), Ans.o (Orc.val 7 (u64A (-b)) H.nil), Ans.o (Orc.val 8 (AV.int IntKind.u64 (140737488355328 : Int)) H.nil), Ans.o (Orc.val 9 (AV.int IntKind.u64 (5009269423031189504 : Int)) H.nil)]) ((↑(BitVec.toNat b) : Int) ≠ (0 : Int) ∧ aUn UnOp.neg (u64A b) = some (u64A (-b)) ∧ aBin Tryd.prog BinOp.and (74 : Nat) (u64A b) (u64A (-b)) = some (AV.int IntKind.u64 (140737488355328 : Int)) ∧ aBin Tryd.prog BinOp.mul (74 : Nat) (AV.int IntKind.u64 (140737488355328 : Int)) (AV.int IntKind.u64 (285870213051353865 : Int)) = some (AV.int IntKind.u64 (5009269423031189504 : Int)) ∧ (I 47, H.mk [] [] []) = (I 47, H.mk [] [] [])) (by kernel_rfl) ?_
  refine ⟨by first | with_reducible assumption | omega | assumption, ?_⟩
  refine ⟨told_neg (by with_reducible assumption), ?_⟩
  refine ⟨told_and (by with_reducible assumption), ?_⟩
  refine ⟨told_mul (by with_reducible assumption), ?_⟩
  rfl
theorem r112_48 (b : W) (hz : (b.toNat : Int) ≠ 0) (ev0 : IntKind.u64.wrap (0 - (b.toNat : Int)) = ((-b).toNat : Int)) (ev1 : IntKind.u64.wrap ((BitVec.ofInt IntKind.u64.bits (b.toNat : Int) &&& BitVec.ofInt IntKind.u64.bits ((-b).toNat : Int)).toNat : Int) = 281474976710656) : Body (En6 []) none1 Tryd.f112 [u64A b] .nil (I 48, .nil) := by
  have ev2 : IntKind.u64.wrap (281474976710656 * 285870213051353865) = 10018538846062379008 := by decide
  refine body_s ([Ans.o (Orc.b false), Ans.o (Orc.val 7 (u64A (-b)) H.nil), Ans.o (Orc.val 8 (AV.int IntKind.u64 (281474976710656 : Int)) H.nil), Ans.o (Orc.val 9 (AV.int IntKind.u64 (10018538846062379008 : Int)) H.nil)]) ((↑(BitVec.toNat b) : Int) ≠ (0 : Int) ∧ aUn UnOp.neg (u64A b) = some (u64A (-b)) ∧ aBin Tryd.prog BinOp.and (74 : Nat) (u64A b) (u64A (-b)) = some (AV.int IntKind.u64 (281474976710656 : Int)) ∧ aBin Tryd.prog BinOp.mul (74 : Nat) (AV.int IntKind.u64 (281474976710656 : Int)) (AV.int IntKind.u64 (285870213051353865 : Int)) = some (AV.int IntKind.u64 (10018538846062379008 : Int)) ∧ (I 48, H.mk [] [] []) = (I 48, H.mk [] [] [])) (by kernel_rfl) ?_
  refine ⟨by first | with_reducible assumption | omega | assumption, ?_⟩
  refine ⟨told_neg (by with_reducible assumption), ?_⟩
  refine ⟨told_and (by with_reducible assumption), ?_⟩
  refine ⟨told_mul (by with_reducible assumption), ?_⟩
  rfl
theorem r112_49 (b : W) (hz : (b.toNat : Int) ≠ 0) (ev0 : IntKind.u64.wrap (0 - (b.toNat : Int)) = ((-b).toNat : Int)) (ev1 : IntKind.u64.wrap ((BitVec.ofInt IntKind.u64.bits (b.toNat : Int) &&& BitVec.ofInt IntKind.u64.bits ((-b).toNat : Int)).toNat : Int) = 562949953421312) : Body (En6 []) none1 Tryd.f112 [u64A b] .nil (I 49, .nil) := by
  have ev2 : IntKind.u64.wrap (562949953421312 * 285870213051353865) = 1590333618415206400 := by decide
  refine body_s ([Ans.o (Orc.b false), Ans.o (Orc.val 7 (u64A (-b)) H.nil), Ans.o (Orc.val 8 (AV.int IntKind.u64 (562949953421312 : Int)) H.nil), Ans.o (Orc.val 9 (AV.int IntKind.u64 (1590333618415206400 : Int)) H.nil)]) ((↑(BitVec.toNat b) : Int) ≠ (0 : Int) ∧ aUn UnOp.neg (u64A b) = some (u64A (-b)) ∧ aBin Tryd.prog BinOp.and (74 : Nat) (u64A b) (u64A (-b)) = some (AV.int IntKind.u64 (562949953421312 : Int)) ∧ aBin Tryd.prog BinOp.mul (74 : Nat) (AV.int IntKind.u64 (562949953421312 : Int)) (AV.int IntKind.u64 (285870213051353865 : Int)) = some (AV.int IntKind.u64 (1590333618415206400 : Int)) ∧ (I 49, H.mk [] [] []) = (I 49, H.mk [] [] [])) (by kernel_rfl) ?_
  refine ⟨by first | with_reducible assumption | omega | assumption, ?_⟩
  refine ⟨told_neg (by with_reducible assumption), ?_⟩
  refine ⟨told_and (by with_reducible assumption), ?_⟩
  refine ⟨told_mul (by with_reducible assumption), ?_⟩
  rfl
theorem r112_50 (b : W) (hz : (b.toNat : Int) ≠ 0) (ev0 : IntKind.u64.wrap (0 - (b.toNat : Int)) = ((-b).toNat : Int)) (ev1 : IntKind.u64.wrap ((BitVec.ofInt IntKind.u64.bits (b.toNat : Int) &&& BitVec.ofInt IntKind.u64.bits ((-b).toNat : Int)).toNat : Int) = 1125899906842624) : Body (En6 []) none1 Tryd.f112 [u64A b] .nil (I 50, .nil) := by
  have ev2 : IntKind.u64.wrap (1125899906842624 * 285870213051353865) = 3180667236830412800 := by decide
  refine body_s ([Ans.o (Orc.b false), Ans.o (Orc.val 7 (u64A (-b)) H.nil), Ans.o (Orc.val 8 (AV.int IntKind.u64 (1125899906842624 : Int)) H.nil), Ans.o (Orc.val 9 (AV.int IntKind.u64 (3180667236830412800 : Int)) H.nil)]) ((↑(BitVec.toNat b) : Int) ≠ (0 : Int) ∧ aUn UnOp.neg (u64A b) = some (u64A (-b)) ∧ aBin Tryd.prog BinOp.and (74 : Nat) (u64A b) (u64A (-b)) = some (AV.int IntKind.u64 (1125899906842624 : Int)) ∧ aBin Tryd.prog BinOp.mul (74 : Nat) (AV.int IntKind.u64 (1125899906842624 : Int)) (AV.int IntKind.u64 (285870213051353865 : Int)) = some (AV.int IntKind.u64 (3180667236830412800 : Int)) ∧ (I 50, H.mk [] [] []) = (I 50, H.mk [] [] [])) (by kernel_rfl) ?_
  refine ⟨by first | with_reducible assumption | omega | assumption, ?_⟩
  refine ⟨told_neg (by with_reducible assumption), ?_⟩
  refine ⟨told_and (by with_reducible assumption), ?_⟩
  refine ⟨told_mul (by with_reducible assumption), ?_⟩
  rfl
theorem r112_51 (b : W) (hz : (b.toNat : Int) ≠ 0) (ev0 : IntKind.u64.wrap (0 - (b.toNat : Int)) = ((-b).toNat : Int)) (ev1 : IntKind.u64.wrap ((BitVec.ofInt IntKind.u64.bits (b.toNat : Int) &&& BitVec.ofInt IntKind.u64.bits ((-b).toNat : Int)).toNat : Int) = 2251799813685248) : Body (En6 []) none1 Tryd.f112 [u64A b] .nil (I 51, .nil) := by
  have ev2 : IntKind.u64.wrap (2251799813685248 * 285870213051353865) = 6361334473660825600 := by decide
  refine body_s ([Ans.o (Orc.b false), Ans.o (Orc.val 7 (u64A (-b)) H.nil), Ans.o (Orc.val 8 (AV.int IntKind.u64 (2251799813685248 : Int)) H.nil), Ans.o (Orc.val 9 (AV.int IntKind.u64 (6361334473660825600 : Int)) H.nil)]) ((↑(BitVec.toNat b) : Int) ≠ (0 : Int) ∧ aUn UnOp.neg (u64A b) = some (u64A (-b)) ∧ aBin Tryd.prog BinOp.and (74 : Nat) (u64A b) (u64A (-b)) = some (AV.int IntKind.u64 (2251799813685248 : Int)) ∧ aBin Tryd.prog BinOp.mul (74 : Nat) (AV.int IntKind.u64 (2251799813685248 : Int)) (AV.int IntKind.u64 (285870213051353865 : Int)) = some (AV.int IntKind.u64 (6361334473660825600 : Int)) ∧ (I 51, H.mk [] [] []) = (I 51, H.mk [] [] [])) (by kernel_rfl) ?_
  refine ⟨by first | with_reducible assumption | omega | assumption, ?_⟩
  refine ⟨told_neg (by with_reducible assumption), ?_⟩
  refine ⟨told_and (by with_reducible assumption), ?_⟩
  refine ⟨told_mul (by with_reducible assumption), ?_⟩
  rfl
theorem r112_52 (b : W) (hz : (b.toNat : Int) ≠ 0) (ev0 : IntKind.u64.wrap (0 - (b.toNat : Int)) = ((-b).toNat : Int)) (ev1 : IntKind.u64.wrap ((BitVec.ofInt IntKind.u64.bits (b.toNat : Int) &&& BitVec.ofInt IntKind.u64.bits ((-b).toNat : Int)).toNat : Int) = 4503599627370496) : Body (En6 []) none1 Tryd.f112 [u64A b] .nil (I 52, .nil) := by
  have ev2 : IntKind.u64.wrap (4503599627370496 * 285870213051353865) = 12722668947321651200 := by decide
  refine body_s ([Ans.o (Orc.b false), Ans.o (Orc.val 7 (u64A (-b)) H.nil), Ans.o (Orc.val 8 (AV.int IntKind.u64 (4503599627370496 : Int)) H.nil), Ans.o (Orc.val 9 (AV.int IntKind.u64 (12722668947321651200 : Int)) H.nil)]) ((↑(BitVec.toNat b) : Int) ≠ (0 : Int) ∧ aUn UnOp.neg (u64A b) = some (u64A (-b)) ∧ aBin Tryd.prog BinOp.and (74 : Nat) (u64A b) (u64A (-b)) = some (AV.int IntKind.u64 (4503599627370496 : Int)) ∧ aBin Tryd.prog BinOp.mul (74 : Nat) (AV.int IntKind.u64 (4503599627370496 : Int)) (AV.int IntKind.u64 (285870213051353865 : Int)) = some (AV.int IntKind.u64 (12722668947321651200 : Int)) ∧ (I 52, H.mk [] [] []) = (I 52, H.mk [] [] [])) (by kernel_rfl) ?_
  refine ⟨by first | with_reducible assumption | omega | assumption, ?_⟩
  refine ⟨told_neg (by with_reducible assumption), ?_⟩
  refine ⟨told_and (by with_reducible assumption), ?_⟩
  refine ⟨told_mul (by with_reducible assumption), ?_⟩
  rfl
theorem r112_53 (b : W) (hz : (b.toNat : Int) ≠ 0) (ev0 : IntKind.u64.wrap (0 - (b.toNat : Int)) = ((-b).toNat : Int)) (ev1 : IntKind.u64.wrap ((BitVec.ofInt IntKind.u64.bits (b.toNat : Int) &&& BitVec.ofInt IntKind.u64.bits ((-b).toNat : Int)).toNat : Int) = 9007199254740992) : Body (En6 []) none1 Tryd.f112 [u64A b] .nil (I 53, .nil) := by
  have ev2 : IntKind.u64.wrap (9007199254740992 * 285870213051353865) = 6998593820933750784 := by decide
  refine body_s ([Ans.o (Orc.b false), Ans.o (Orc.val 7 (u64A (-b)) H.nil), Ans.o (Orc.val 8 (AV.int IntKind.u64 (9007199254740992 : Int)) H.nil), Ans.o (Orc.val 9 (AV.int IntKind.u64 (6998593820933750784 : Int)) H.nil)]) ((↑(BitVec.toNat b) : Int) ≠ (0 : Int) ∧ aUn UnOp.neg (u64A b) = some (u64A (-b)) ∧ aBin Tryd.prog BinOp.and (74 : Nat) (u64A b) (u64A (-b)) = some (AV.int IntKind.u64 (9007199254740992 : Int)) ∧ aBin Tryd.prog BinOp.mul (74 : Nat) (AV.int IntKind.u64 (9007199254740992 : Int)) (AV.int IntKind.u64 (285870213051353865 : Int)) = some (AV.int IntKind.u64 (6998593820933750784 : Int)) ∧ (I 53, H.mk [] [] []) = (I 53, H.mk [] [] [])) (by kernel_rfl) ?_
  refine ⟨by first | with_reducible assumption | omega | assumption, ?_⟩
  refine ⟨told_neg (by with_reducible assumption), ?_⟩
  refine ⟨told_and (by with_reducible assumption), ?_⟩
  refine ⟨told_mul (by with_reducible assumption), ?_⟩
  rfl
theorem r112_54 (b : W) (hz : (b.toNat : Int) ≠ 0) (ev0 : IntKind.u64.wrap (0 - (b.toNat : Int)) = ((-b).toNat : Int)) (ev1 : IntKind.u64.wrap ((BitVec.ofInt IntKind.u64.bits (b.toNat : Int) &&& BitVec.ofInt IntKind.u64.bits ((-b).toNat : Int)).toNat : Int) = 18014398509481984) : Body (En6 []) none1 Tryd.f112 [u64A b] .nil (I 54, .nil) := by
  have ev2 : IntKind.u64.wrap (18014398509481984 * 285870213051353865) = 13997187641867501568 := by decide
  refine body_s ([Ans.o (Orc.b false), Ans.o (Orc.val 7 (u64A (-b)) H.nil), Ans.o (Orc.val 8 (AV.int IntKind.u64 (18014398509481984 : Int)) H.nil), Ans.o (Orc.val 9 (AV.int IntKind.u64 (13997187641867501568 : Int)) H.nil)]) ((↑(BitVec.toNat b) : Int) ≠ (0 : Int) ∧ aUn UnOp.neg (u64A b) = some (u64A (-b)) ∧ aBin Tryd.prog BinOp.and (74 : Nat) (u64A b) (u64A (-b)) = some (AV.int IntKind.u64 (18014398509481984 : Int)) ∧ aBin Tryd.prog BinOp.mul (74 : Nat) (AV.int IntKind.u64 (18014398509481984 : Int)) (AV.int IntKind.u64 (285870213051353865 : Int)) = some (AV.int IntKind.u64 (13997187641867501568 : Int)) ∧ (I 54, H.mk [] [] []) = (I 54, H.mk [] [] [])) (by kernel_rfl) ?_
  refine ⟨by first | with_reducible assumption | omega | assumption, ?_⟩
  refine ⟨told_neg (by with_reducible assumption), ?_⟩
  refine ⟨told_and (by with_reducible assumption), ?_⟩
  refine ⟨told_mul (by with_reducible assumption), ?_⟩
  rfl
theorem r112_55 (b : W) (hz : (b.toNat : Int) ≠ 0) (ev0 : IntKind.u64.wrap (0 - (b.toNat : Int)) = ((-b).toNat : Int)) (ev1 : IntKind.u64.wrap ((BitVec.ofInt IntKind.u64.bits (b.toNat : Int) &&& BitVec.ofInt IntKind.u64.bits ((-b).toNat : Int)).toNat : Int) = 36028797018963968) : Body (En6 []) none1 Tryd.f112 [u64A b] .nil (I 55, .nil) := by
  have ev2 : IntKind.u64.wrap (36028797018963968 * 285870213051353865) = 9547631210025451520 := by decide
  refine body_s ([Ans.o (Orc.b false), Ans.o (Orc.val 7 (u64A (-b)) H.nil), Ans.o (Orc.val 8 (AV.int IntKind.u64 (36028797018963968 : Int)) H.nil), Ans.o (Orc.val 9 (AV.int IntKind.u64 (9547631210025451520 : Int)) H.nil)]) ((↑(BitVec.toNat b) : Int) ≠ (0 : Int) ∧ aUn UnOp.neg (u64A b) = some (u64A (-b)) ∧ aBin Tryd.prog BinOp.and (74 : Nat) (u64A b) (u64A (-b)) = some (AV.int IntKind.u64 (36028797018963968 : Int)) ∧ aBin Tryd.prog BinOp.mul (74 : Nat) (AV.int IntKind.u64 (36028797018963968 : Int)) (AV.int IntKind.u64 (285870213051353865 : Int)) = some (AV.int IntKind.u64 (9547631210025451520 : Int)) ∧ (I 55, H.mk [] [] []) = (I 55, H.mk [] [] [])) (by kernel_rfl) ?_
  refine ⟨by first | with_reducible assumption | omega | assumption, ?_⟩
  refine ⟨told_neg (by with_reducible assumption), ?_⟩
  refine ⟨told_and (by with_reducible assumption), ?_⟩
  refine ⟨told_mul (by with_reducible assumption), ?_⟩
  rfl
theorem r112_56 (b : W) (hz : (b.toNat : Int) ≠ 0) (ev0 : IntKind.u64.wrap (0 - (b.toNat : Int)) = ((-b).toNat : Int)) (ev1 : IntKind.u64.wrap ((BitVec.ofInt IntKind.u64.bits (b.toNat : Int) &&& BitVec.ofInt IntKind.u64.bits ((-b).toNat : Int)).toNat : Int) = 72057594037927936) : Body (En6 []) none1 Tryd.f112 [u64A b] .nil (I 56, .nil) := by
  have ev2 : IntKind.u64.wrap (72057594037927936 * 285870213051353865) = 648518346341351424 := by decide
  refine body_s ([Ans.o (Orc.b false), Ans.o (Orc.val 7 (u64A (-b)) H.nil), Ans.o (Orc.val 8 (AV.int IntKind.u64 (72057594037927936 : Int)) H.nil), Ans.o (Orc.val 9 (AV.int IntKind.u64 (648518346341351424 : Int)) H.nil)]) ((↑(BitVec.toNat b) : Int) ≠ (0 : Int) ∧ aUn UnOp.neg (u64A b) = some (u64A (-b)) ∧ aBin Tryd.prog BinOp.and (74 : Nat) (u64A b) (u64A (-b)) = some (AV.int IntKind.u64 (72057594037927936 : Int)) ∧ aBin Tryd.prog BinOp.mul (74 : Nat) (AV.int IntKind.u64 (72057594037927936 : Int)) (AV.int IntKind.u64 (285870213051353865 : Int)) = some (AV.int IntKind.u64 (648518346341351424 : Int)) ∧ (I 56, H.mk [] [] []) = (I 56, H.mk [] [] [])) (by kernel_rfl) ?_
  refine ⟨by first | with_reducible assumption | omega | assumption, ?_⟩
  refine ⟨told_neg (by with_reducible assumption), ?_⟩
  refine ⟨told_and (by with_reducible assumption), ?_⟩
  refine ⟨told_mul (by with_reducible assumption), ?_⟩
  rfl
theorem r112_57 (b : W) (hz : (b.toNat : Int) ≠ 0) (ev0 : IntKind.u64.wrap (0 - (b.toNat : Int)) = ((-b).toNat : Int)) (ev1 : IntKind.u64.wrap ((BitVec.ofInt IntKind.u64.bits (b.toNat : Int) &&& BitVec.ofInt IntKind.u64.bits ((-b).toNat : Int)).toNat : Int) = 144115188075855872) : Body (En6 []) none1 Tryd.f112 [u64A b] .nil (I 57, .nil) := by
  have ev2 : IntKind.u64.wrap (144115188075855872 * 285870213051353865) = 1297036692682702848 := by decide
  refine body_s ([Ans.o (Orc.b false), Ans.o (Orc.val 7 (u64A (-b)) H.nil), Ans.o (Orc.val 8 (AV.int IntKind.u64 (144115188075855872 : Int)) H.nil), Ans.o (Orc.val 9 (AV.int IntKind.u64 (1297036692682702848 : Int)) H.nil)]) ((↑(BitVec.toNat b) : Int) ≠ (0 : Int) ∧ aUn UnOp.neg (u64A b) = some (u64A (-b)) ∧ aBin Tryd.prog BinOp.and (74 : Nat) (u64A b) (u64A (-b)) = some (AV.int IntKind.u64 (144115188075855872 : Int)) ∧ aBin Tryd.prog BinOp.mul (74 : Nat) (AV.int IntKind.u64 (144115188075855872 : Int)) (AV.int IntKind.u64 (285870213051353865 : Int)) = some (AV.int IntKind.u64 (1297036692682702848 : Int)) ∧ (I 57, H.mk [] [] []) = (I 57, H.mk [] [] [])) (by kernel_rfl) ?_
  refine ⟨by first | with_reducible assumption | omega | assumption, ?_⟩
  refine ⟨told_neg (by with_reducible assumption), ?_⟩
  refine ⟨told_and (by with_reducible assumption), ?_⟩
  refine ⟨told_mul (by with_reducible assumption), ?_⟩
  rfl
theorem r112_58 (b : W) (hz : (b.toNat : Int) ≠ 0) (ev0 : IntKind.u64.wrap (0 - (b.toNat : Int)) = ((-b).toNat : Int)) (ev1 : IntKind.u64.wrap ((BitVec.ofInt IntKind.u64.bits (b.toNat : Int) &&& BitVec.ofInt IntKind.u64.bits ((-b).toNat : Int)).toNat : Int) = 288230376151711744) : Body (En6 []) none1 Tryd.f112 [u64A b] .nil (I 58, .nil) := by
  have ev2 : IntKind.u64.wrap (288230376151711744 * 285870213051353865) = 2594073385365405696 := by decide
  refine body_s ([Ans.o (Orc.b false), Ans.o (Orc.val 7 (u64A (-b)) H.nil), Ans.o (Orc.val 8 (AV.int IntKind.u64 (288230376151711744 : Int)) H.nil), Ans.o (Orc.val 9 (AV.int IntKind.u64 (2594073385365405696 : Int)) H.nil)]) ((↑(BitVec.toNat b) : Int) ≠ (0 : Int) ∧ aUn UnOp.neg (u64A b) = some (u64A (-b)) ∧ aBin Tryd.prog BinOp.and (74 : Nat) (u64A b) (u64A (-b)) = some (AV.int IntKind.u64 (288230376151711744 : Int)) ∧ aBin Tryd.prog BinOp.mul (74 : Nat) (AV.int IntKind.u64 (288230376151711744 : Int)) (AV.int IntKind.u64 (285870213051353865 : Int)) = some (AV.int IntKind.u64 (2594073385365405696 : Int)) ∧ (I 58, H.mk [] [] []) = (I 58, H.mk [] [] [])) (by kernel_rfl) ?_
  refine ⟨by first | with_reducible assumption | omega | assumption, ?_⟩
  refine ⟨told_neg (by with_reducible assumption), ?_⟩
  refine ⟨told_and (by with_reducible assumption), ?_⟩
  refine ⟨told_mul (by with_reducible assumption), ?_⟩
  rfl
theorem r112_59 (b : W) (hz : (b.toNat : Int) ≠ 0) (ev0 : IntKind.u64.wrap (0 - (b.toNat : Int)) = ((-b).toNat : Int)) (ev1 : IntKind.u64.wrap ((BitVec.ofInt IntKind.u64.bits (b.toNat : Int) &&& BitVec.ofInt IntKind.u64.bits ((-b).toNat : Int)).toNat : Int) = 576460752303423488) : Body (En6 []) none1 Tryd.f112 [u64A b] .nil (I 59, .nil) := by
  have ev2 : IntKind.u64.wrap (576460752303423488 * 285870213051353865) = 5188146770730811392 := by decide
  refine body_s ([Ans.o (Orc.b false), Ans.o (Orc.val 7 (u64A (-b)) H.nil), Ans.o (Orc.val 8 (AV.int IntKind.u64 (576460752303423488 : Int)) H.nil), Ans.o (Orc.val 9 (AV.int IntKind.u64 (5188146770730811392 : Int)) H.nil)]) ((↑(BitVec.toNat b) : Int) ≠ (0 : Int) ∧ aUn UnOp.neg (u64A b) = some (u64A (-b)) ∧ aBin Tryd.prog BinOp.and (74 : Nat) (u64A b) (u64A (-b)) = some (AV.int IntKind.u64 (576460752303423488 : Int)) ∧ aBin Tryd.prog BinOp.mul (74 : Nat) (AV.int IntKind.u64 (576460752303423488 : Int)) (AV.int IntKind.u64 (285870213051353865 : Int)) = some (AV.int IntKind.u64 (5188146770730811392 : Int)) ∧ (I 59, H.mk [] [] []) = (I 59, H.mk [] [] [])) (by kernel_rfl) ?_
  refine ⟨by first | with_reducible assumption | omega | assumption, ?_⟩
  refine ⟨told_neg (by with_reducible assumption), ?_⟩
  refine ⟨told_and (by with_reducible assumption), ?_⟩
  refine ⟨told_mul (by with_reducible assumption), ?_⟩
  rfl
theorem r112_60 (b : W) (hz : (b.toNat : Int) ≠ 0) (ev0 : IntKind.u64.wrap (0 - (b.toNat : Int)) = ((-b).toNat : Int)) (ev1 : IntKind.u64.wrap ((BitVec.ofInt IntKind.u64.bits (b.toNat : Int) &&& BitVec.ofInt IntKind.u64.bits ((-b).toNat : Int)).toNat : Int) = 1152921504606846976) : Body (En6 []) none1 Tryd.f112 [u64A b] .nil (I 60, .nil) := by
  have ev2 : IntKind.u64.wrap (1152921504606846976 * 285870213051353865) = 10376293541461622784 := by decide
  refine body_s ([Ans.o (Orc.b false), Ans.o (Orc.val 7 (u64A (-b)) H.nil), Ans.o (Orc.val 8 (AV.int IntKind.u64 (1152921504606846976 : Int)) H.nil), Ans.o (Orc.val 9 (AV.int IntKind.u64 (10376293541461622784 : Int)) H.nil)]) ((↑(BitVec.toNat b) : Int) ≠ (0 : Int) ∧ aUn UnOp.neg (u64A b) = some (u64A (-b)) ∧ aBin Tryd.prog BinOp.and (74 : Nat) (u64A b) (u64A (-b)) = some (AV.int IntKind.u64 (1152921504606846976 : Int)) ∧ aBin Tryd.prog BinOp.mul (74 : Nat) (AV.int IntKind.u64 (1152921504606846976 : Int)) (AV.int IntKind.u64 (285870213051353865 : Int)) = some (AV.int IntKind.u64 (10376293541461622784 : Int)) ∧ (I 60, H.mk [] [] []) = (I 60, H.mk [] [] [])) (by kernel_rfl) ?_
  refine ⟨by first | with_reducible assumption | omega | assumption, ?_⟩
  refine ⟨told_neg (by with_reducible assumption), ?_⟩
  refine ⟨told_and (by with_reducible assumption), ?_⟩
  refine ⟨told_mul (by with_reducible assumption), ?_⟩
  rfl
theorem r112_61 (b : W) (hz : (b.toNat : Int) ≠ 0) (ev0 : IntKind.u64.wrap (0 - (b.toNat : Int)) = ((-b).toNat : Int)) (ev1 : IntKind.u64.wrap ((BitVec.ofInt IntKind.u64.bits (b.toNat : Int) &&& BitVec.ofInt IntKind.u64.bits ((-b).toNat : Int)).toNat : Int) = 2305843009213693952) : Body (En6 []) none1 Tryd.f112 [u64A b] .nil (I 61, .nil) := by
  have ev2 : IntKind.u64.wrap (2305843009213693952 * 285870213051353865) = 2305843009213693952 := by decide
  refine body_s ([Ans.o (Orc.b false), Ans.o (Orc.val 7 (u64A (-b)) H.nil), Ans.o (Orc.val 8 (AV.int IntKind.u64 (2305843009213693952 : Int)) H.nil), Ans.o (Orc.val 9 (AV.int IntKind.u64 (2305843009213693952 : Int)) H.nil)]) ((↑(BitVec.toNat b) : Int) ≠ (0 : Int) ∧ aUn UnOp.neg (u64A b) = some (u64A (-b)) ∧ aBin Tryd.prog BinOp.and (74 : Nat) (u64A b) (u64A (-b)) = some (AV.int IntKind.u64 (2305843009213693952 : Int)) ∧ aBin Tryd.prog BinOp.mul (74 : Nat) (AV.int IntKind.u64 (2305843009213693952 : Int)) (AV.int IntKind.u64 (285870213051353865 : Int)) = some (AV.int IntKind.u64 (2305843009213693952 : Int)) ∧ (I 61, H.mk [] [] []) = (I 61, H.mk [] [] [])) (by kernel_rfl) ?_
  refine ⟨by first | with_reducible assumption | omega | assumption, ?_⟩
  refine ⟨told_neg (by with_reducible assumption), ?_⟩
  refine ⟨told_and (by with_reducible assumption), ?_⟩
  refine ⟨told_mul (by with_reducible assumption), ?_⟩
  rfl
theorem r112_62 (b : W) (hz : (b.toNat : Int) ≠ 0) (ev0 : IntKind.u64.wrap (0 - (b.toNat : Int)) = ((-b).toNat : Int)) (ev1 : IntKind.u64.wrap ((BitVec.ofInt IntKind.u64.bits (b.toNat : Int) &&& BitVec.ofInt IntKind.u64.bits ((-b).toNat : Int)).toNat : Int) = 4611686018427387904) : Body (En6 []) none1 Tryd.f112 [u64A b] .nil (I 62, .nil) := by
  have ev2 : IntKind.u64.wrap (4611686018427387904 * 285870213051353865) = 4611686018427387904 := by decide
  refine body_s ([Ans.o (Orc.b false), Ans.o (Orc.val 7 (u64A (-b)) H.nil), Ans.o (Orc.val 8 (AV.int IntKind.u64 (4611686018427387904 : Int)) H.nil), Ans.o (Orc.val 9 (AV.int IntKind.u64 (4611686018427387904 : Int)) H.nil)]) ((↑(BitVec.toNat b) : Int) ≠ (0 : Int) ∧ aUn UnOp.neg (u64A b) = some (u64A (-b)) ∧ aBin Tryd.prog BinOp.and (74 : Nat) (u64A b) (u64A (-b)) = some (AV.int IntKind.u64 (4611686018427387904 : Int)) ∧ aBin Tryd.prog BinOp.mul (74 : Nat) (AV.int IntKind.u64 (4611686018427387904 : Int)) (AV.int IntKind.u64 (285870213051353865 : Int)) = some (AV.int IntKind.u64 (4611686018427387904 : Int)) ∧ (I 62, H.mk [] [] []) = (I 62, H.mk [] [] [])) (by kernel_rfl) ?_
  refine ⟨by first | with_reducible assumption | omega | assumption, ?_⟩
  refine ⟨told_neg (by with_reducible assumption), ?_⟩
  refine ⟨told_and (by with_reducible assumption), ?_⟩
  refine ⟨told_mul (by with_reducible assumption), ?_⟩
  rfl
theorem r112_63 (b : W) (hz : (b.toNat : Int) ≠ 0) (ev0 : IntKind.u64.wrap (0 - (b.toNat : Int)) = ((-b).toNat : Int)) (ev1 : IntKind.u64.wrap ((BitVec.ofInt IntKind.u64.bits (b.toNat : Int) &&& BitVec.ofInt IntKind.u64.bits ((-b).toNat : Int)).toNat : Int) = 9223372036854775808) : Body (En6 []) none1 Tryd.f112 [u64A b] .nil (I 63, .nil) := by
  have ev2 : IntKind.u64.wrap (9223372036854775808 * 285870213051353865) = 9223372036854775808 := by decide
  refine body_s ([Ans.o (Orc.b false), Ans.o (Orc.val 7 (u64A (-b)) H.nil), Ans.o (Orc.val 8 (AV.int IntKind.u64 (9223372036854775808 : Int)) H.nil), Ans.o (Orc.val 9 (AV.int IntKind.u64 (9223372036854775808 : Int)) H.nil)]) ((↑(BitVec.toNat b) : Int) ≠ (0 : Int) ∧ aUn UnOp.neg (u64A b) = some (u64A (-b)) ∧ aBin Tryd.prog BinOp.and (74 : Nat) (u64A b) (u64A (-b)) = some (AV.int IntKind.u64 (9223372036854775808 : Int)) ∧ aBin Tryd.prog BinOp.mul (74 : Nat) (AV.int IntKind.u64 (9223372036854775808 : Int)) (AV.int IntKind.u64 (285870213051353865 : Int)) = some (AV.int IntKind.u64 (9223372036854775808 : Int)) ∧ (I 63, H.mk [] [] []) = (I 63, H.mk [] [] [])) (by kernel_rfl) ?_
  refine ⟨by first | with_reducible assumption | omega | assumption, ?_⟩
  refine ⟨told_neg (by with_reducible assumption), ?_⟩
  refine ⟨told_and (by with_reducible assumption), ?_⟩
  refine ⟨told_mul (by with_reducible assumption), ?_⟩
  rfl
theorem r112q0 (b : W) (t : Nat) (h1 : 0 ≤ t) (h2 : t < 16) (hz : (b.toNat : Int) ≠ 0) (ev0 : IntKind.u64.wrap (0 - (b.toNat : Int)) = ((-b).toNat : Int)) (ev1 : IntKind.u64.wrap ((BitVec.ofInt IntKind.u64.bits (b.toNat : Int) &&& BitVec.ofInt IntKind.u64.bits ((-b).toNat : Int)).toNat : Int) = ((BitVec.ofNat 64 (2 ^ t)).toNat : Int)) : Body (En6 []) none1 Tryd.f112 [u64A b] .nil (I (t : Nat), .nil) := by
  have hc : t = 0 ∨ t = 1 ∨ t = 2 ∨ t = 3 ∨ t = 4 ∨ t = 5 ∨ t = 6 ∨ t = 7 ∨ t = 8 ∨ t = 9 ∨ t = 10 ∨ t = 11 ∨ t = 12 ∨ t = 13 ∨ t = 14 ∨ t = 15 := by omega
  rcases hc with rfl | rfl | rfl | rfl | rfl | rfl | rfl | rfl | rfl | rfl | rfl | rfl | rfl | rfl | rfl | rfl
  · exact r112_0 b hz ev0 ev1
  · exact r112_1 b hz ev0 ev1
  · exact r112_2 b hz ev0 ev1
  · exact r112_3 b hz ev0 ev1
  · exact r112_4 b hz ev0 ev1
  · exact r112_5 b hz ev0 ev1
  · exact r112_6 b hz ev0 ev1
  · exact r112_7 b hz ev0 ev1
  · exact r112_8 b hz ev0 ev1
  · exact r112_9 b hz ev0 ev1
  · exact r112_10 b hz ev0 ev1
  · exact r112_11 b hz ev0 ev1
  · exact r112_12 b hz ev0 ev1
  · exact r112_13 b hz ev0 ev1
  · exact r112_14 b hz ev0 ev1
  · exact r112_15 b hz ev0 ev1
theorem r112q1 (b : W) (t : Nat) (h1 : 16 ≤ t) (h2 : t < 32) (hz : (b.toNat : Int) ≠ 0) (ev0 : IntKind.u64.wrap (0 - (b.toNat : Int)) = ((-b).toNat : Int)) (ev1 : IntKind.u64.wrap ((BitVec.ofInt IntKind.u64.bits (b.toNat : Int) &&& BitVec.ofInt IntKind.u64.bits ((-b).toNat : Int)).toNat : Int) = ((BitVec.ofNat 64 (2 ^ t)).toNat : Int)) : Body (En6 []) none1 Tryd.f112 [u64A b] .nil (I (t : Nat), .nil) := by
  have hc : t = 16 ∨ t = 17 ∨ t = 18 ∨ t = 19 ∨ t = 20 ∨ t = 21 ∨ t = 22 ∨ t = 23 ∨ t = 24 ∨ t = 25 ∨ t = 26 ∨ t = 27 ∨ t = 28 ∨ t = 29 ∨ t = 30 ∨ t = 31 := by omega
  rcases hc with rfl | rfl | rfl | rfl | rfl | rfl | rfl | rfl | rfl | rfl | rfl | rfl | rfl | rfl | rfl | rfl
  · exact r112_16 b hz ev0 ev1
  · exact r112_17 b hz ev0 ev1
  · exact r112_18 b hz ev0 ev1
  · exact r112_19 b hz ev0 ev1
  · exact r112_20 b hz ev0 ev1
  · exact r112_21 b hz ev0 ev1
  · exact r112_22 b hz ev0 ev1
  · exact r112_23 b hz ev0 ev1
  · exact r112_24 b hz ev0 ev1
  · exact r112_25 b hz ev0 ev1
  · exact r112_26 b hz ev0 ev1
  · exact r112_27 b hz ev0 ev1
  · exact r112_28 b hz ev0 ev1
  · exact r112_29 b hz ev0 ev1
  · exact r112_30 b hz ev0 ev1
  · exact r112_31 b hz ev0 ev1
theorem r112q2 (b : W) (t : Nat) (h1 : 32 ≤ t) (h2 : t < 48) (hz : (b.toNat : Int) ≠ 0) (ev0 : IntKind.u64.wrap (0 - (b.toNat : Int)) = ((-b).toNat : Int)) (ev1 : IntKind.u64.wrap ((BitVec.ofInt IntKind.u64.bits (b.toNat : Int) &&& BitVec.ofInt IntKind.u64.bits ((-b).toNat : Int)).toNat : Int) = ((BitVec.ofNat 64 (2 ^ t)).toNat : Int)) : Body (En6 []) none1 Tryd.f112 [u64A b] .nil (I (t : Nat), .nil) := by
  have hc : t = 32 ∨ t = 33 ∨ t = 34 ∨ t = 35 ∨ t = 36 ∨ t = 37 ∨ t = 38 ∨ t = 39 ∨ t = 40 ∨ t = 41 ∨ t = 42 ∨ t = 43 ∨ t = 44 ∨ t = 45 ∨ t = 46 ∨ t = 47 := by omega
  rcases hc with rfl | rfl | rfl | rfl | rfl | rfl | rfl | rfl | rfl | rfl | rfl | rfl | rfl | rfl | rfl | rfl
  · exact r112_32 b hz ev0 ev1
  · exact r112_33 b hz ev0 ev1
  · exact r112_34 b hz ev0 ev1
  · exact r112_35 b hz ev0 ev1
  · exact r112_36 b hz ev0 ev1
  · exact r112_37 b hz ev0 ev1
  · exact r112_38 b hz ev0 ev1
  · exact r112_39 b hz ev0 ev1
  · exact r112_40 b hz ev0 ev1
  · exact r112_41 b hz ev0 ev1
  · exact r112_42 b hz ev0 ev1
  · exact r112_43 b hz ev0 ev1
  · exact r112_44 b hz ev0 ev1
  · exact r112_45 b hz ev0 ev1
  · exact r112_46 b hz ev0 ev1
  · exact r112_47 b hz ev0 ev1
theorem r112q3 (b : W) (t : Nat) (h1 : 48 ≤ t) (h2 : t < 64) (hz : (b.toNat : Int) ≠ 0) (ev0 : IntKind.u64.wrap (0 - (b.toNat : Int)) = ((-b).toNat : Int)) (ev1 : IntKind.u64.wrap ((BitVec.ofInt IntKind.u64.bits (b.toNat : Int) &&& BitVec.ofInt IntKind.u64.bits ((-b).toNat : Int)).toNat : Int) = ((BitVec.ofNat 64 (2 ^ t)).toNat : Int)) : Body (En6 []) none1 Tryd.f112 [u64A b] .nil (I (t : Nat), .nil) := by
  have hc : t = 48 ∨ t = 49 ∨ t = 50 ∨ t = 51 ∨ t = 52 ∨ t = 53 ∨ t = 54 ∨ t = 55 ∨ t = 56 ∨ t = 57 ∨ t = 58 ∨ t = 59 ∨ t = 60 ∨ t = 61 ∨ t = 62 ∨ t = 63 := by omega
  rcases hc with rfl | rfl | rfl | rfl | rfl | rfl | rfl | rfl | rfl | rfl | rfl | rfl | rfl | rfl | rfl | rfl
  · exact r112_48 b hz ev0 ev1
  · exact r112_49 b hz ev0 ev1
  · exact r112_50 b hz ev0 ev1
  · exact r112_51 b hz ev0 ev1
  · exact r112_52 b hz ev0 ev1
  · exact r112_53 b hz ev0 ev1
  · exact r112_54 b hz ev0 ev1
  · exact r112_55 b hz ev0 ev1
  · exact r112_56 b hz ev0 ev1
  · exact r112_57 b hz ev0 ev1
  · exact r112_58 b hz ev0 ev1
  · exact r112_59 b hz ev0 ev1
  · exact r112_60 b hz ev0 ev1
  · exact r112_61 b hz ev0 ev1
  · exact r112_62 b hz ev0 ev1
  · exact r112_63 b hz ev0 ev1
theorem ok112 : FokM Tryd.prog none1 112 Tryd.f112 := ⟨mixed, by kernel_rfl, by kernel_rfl, by kernel_rfl, by kernel_rfl⟩
theorem r112 (b : W) (hp : b ≠ 0#64) : Body (En6 []) none1 Tryd.f112 [u64A b] .nil (I (tz b : Nat), .nil) := by
  have hl := low_bit hp
  have hz : (b.toNat : Int) ≠ 0 := fun h => hp ((w_eq0 b).1 h)
  obtain ⟨_, ht, _⟩ := tz_ok hp
  have ev0 := neg_nat b
  have ev1 := w_and b (-b)
  rw [hl] at ev1
  generalize hT : tz b = t at ev1 ht ⊢
  clear hl hT hp
  by_cases q1 : t < 32
  · by_cases q0 : t < 16
    · exact r112q0 b t (Nat.zero_le _) q0 hz ev0 ev1
    · exact r112q1 b t (by omega) q1 hz ev0 ev1
  · by_cases q0 : t < 48
    · exact r112q2 b t (by omega) q0 hz ev0 ev1
    · exact r112q3 b t (by omega) ht hz ev0 ev1
noncomputable def c112 : PCtr Tryd.prog := sctr ok112 (X := W) (fun x => [u64A x]) (fun x => x ≠ 0#64) (fun x => I (tz x : Nat)) (by intro x y e _ _; simp at e; simp [e]) (fun x => by simp [AV.bnds, AV.bnd, AV.wk]) (fun x => rfl) (fun x hx => ⟨_, _, _, .nil, r112 x hx⟩)
end Go.Proofs.Evd

