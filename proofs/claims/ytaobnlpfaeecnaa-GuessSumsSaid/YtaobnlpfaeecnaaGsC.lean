/- Layer 6: the reference's marks; are numbers codes of a game? -/
import Derived.Test.YtaobnlpfaeecnaaGsB
import Derived.KernelRfl
set_option linter.unusedSimpArgs false
set_option linter.unusedVariables false
set_option linter.unnecessarySimpa false
set_option maxHeartbeats 4000000
set_option maxRecDepth 100000
namespace Go.Proofs.Gss
open Go Go.VM

abbrev C6 (f : Nat → Nat) (j : Nat) : List Int := six fun k => ct f k j
theorem C6_st {f : Nat → Nat} {j : Nat} (h6 : f j < 6) : (C6 f j).set (f j) (((ct f (f j) j : Nat) : Int) + 1) = C6 f (j + 1) :=
  six_set _ _ h6 (by show ct f (f j) j + _ = _; rw [if_pos rfl]) (fun i hi => by show ct f i j + _ = _; rw [if_neg (fun k => hi k.symm)]; rfl)
abbrev h21 (f g : Nat → Nat) (j : Nat) : H := ⟨[ints (C6 f j), ints (C6 g j)], [], []⟩
abbrev o21 (p c a b : Nat) : List Out :=
  [.mk Unit (.exit 0) [10, 11, 12, 13] (fun _ => True) (fun _ => [.ptr 0 0, .ptr 1 0, I (bl (dg c a) (dg c b) p : Nat), I 0]) (fun _ => h21 (dg c a) (dg c b) p) (fun _ => [])]
theorem simp21 : allSimpleM none1 (loopAt Try.f21 0) = true := by kernel_rfl
theorem lp21 (p c a b : Nat) (hp : p ≤ 4) (hc : 1 ≤ c ∧ c ≤ 6) (ha : a ≤ 1000) (hb : b ≤ 1000) :
    LoopS (En6 []) (loopAt Try.f21 0) 65 [1, 2, 3, 10, 11, 12, 13, 15, 16] [I c, I a, I b, .ptr 0 0, .ptr 1 0, I 0, I 0, I p, I 0] (h21 (dg c a) (dg c b) 0) (o21 p c a b) := by
  have hR : Rests (En6 []) none1 := rests mixed .nil
  refine loop_s hR simp21 none (by intro _ h; cases h) (fun j vs h => h = h21 (dg c a) (dg c b) j ∧ vs = [I c, I (qt c a j : Nat), I (qt c b j : Nat), .ptr 0 0, .ptr 1 0, I (bl (dg c a) (dg c b) j : Nat), I 0, I p, I j]) p ⟨rfl, by rw [qt_0, qt_0]; rfl⟩ (by intro _ h; cases h) ?_
  rintro j vs h hj ⟨rfl, rfl⟩
  by_cases hz : (j : Int) < p
  · have d1 := dg_lt hc.1 a j
    have d2 := dg_lt hc.1 b j
    have q1 := qt_le c a j
    have q2 := qt_le c b j
    have hc0 : (c : Int) ≠ 0 := by omega
    have ev0 : Int.tmod (qt c a j : Int) (c : Int) = (dg c a j : Nat) := tm_nat _ _
    have ev1 : Int.tmod (qt c b j : Int) (c : Int) = (dg c b j : Nat) := tm_nat _ _
    have w2 : IntKind.i64.wrap (Int.tdiv (qt c a j : Int) (c : Int)) = (qt c a (j + 1) : Nat) := by rw [td_nat (by omega), qt_succ]
    have w3 : IntKind.i64.wrap (Int.tdiv (qt c b j : Int) (c : Int)) = (qt c b (j + 1) : Nat) := by rw [td_nat (by omega), qt_succ]
    have ev2 : Int.tdiv (qt c a j : Int) (c : Int) = (qt c a (j + 1) : Nat) := by rw [← qt_succ]; rfl
    have ev3 : Int.tdiv (qt c b j : Int) (c : Int) = (qt c b (j + 1) : Nat) := by rw [← qt_succ]; rfl
    have hbl := bl_le (dg c a) (dg c b) j
    have k1 := C6_st (f := dg c a) (j := j) (by omega)
    have k2 := C6_st (f := dg c b) (j := j) (by omega)
    have g1 := ct_le (dg c a) (dg c a j) j
    have g2 := ct_le (dg c b) (dg c b j) j
    have s1 := six_get (fun k => ct (dg c a) k j) (show dg c a j < 6 by omega)
    have s2 := six_get (fun k => ct (dg c b) k j) (show dg c b j < 6 by omega)
    have ev5 : IntKind.i64.wrap (ia (C6 (dg c a) j) (dg c a j) + 1) = ((ct (dg c a) (dg c a j) j : Nat) : Int) + 1 := by rw [s1]; exact wr _ (by omega) (by omega)
    have ev6 : IntKind.i64.wrap (ia (C6 (dg c b) j) (dg c b j) + 1) = ((ct (dg c b) (dg c b j) j : Nat) : Int) + 1 := by rw [s2]; exact wr _ (by omega) (by omega)
    by_cases e : dg c a j = dg c b j
    · have e' : ((dg c a j : Nat) : Int) = (dg c b j : Nat) := by omega
      have k3 : bl (dg c a) (dg c b) (j + 1) = bl (dg c a) (dg c b) j + 1 := by simp only [bl]; rw [if_pos e]
      have ev4 : IntKind.i64.wrap ((bl (dg c a) (dg c b) j : Int) + 1) = (bl (dg c a) (dg c b) (j + 1) : Nat) := by rw [k3]; exact wr _ (by omega) (by omega)
      refine ⟨[Ans.o (Orc.b true), Ans.o (Orc.val 20 (I (↑(dg c a j) : Int)) H.nil), Ans.o (Orc.val 23 (I (↑(dg c b j) : Int)) H.nil), Ans.o (Orc.b true), Ans.o (Orc.val 26 (I (↑(bl (dg c a) (dg c b) (j + (1 : Nat))) : Int)) H.nil), Ans.o (Orc.val 29 (I (↑(dg c a j) : Int)) H.nil), Ans.o (Orc.val 30 (AV.ptr 0 (dg c a j)) H.nil), Ans.o (Orc.val 31 (I ((C6 (dg c a) j).getD (dg c a j) i0)) H.nil), Ans.o (Orc.val 32 (I ((↑(ct (dg c a) (dg c a j) j) : Int) + (1 : Int))) H.nil), Ans.o (Orc.val 33 (AV.ptr 0 (dg c a j)) H.nil), Ans.o (Orc.val 9999 (AV.tup []) (H.mk [ints ((C6 (dg c a) j).set (dg c a j) ((↑(ct (dg c a) (dg c a j) j) : Int) + (1 : Int))), ints (C6 (dg c b) j)] [] [])), Ans.o (Orc.val 36 (I (↑(dg c b j) : Int)) H.nil), Ans.o (Orc.val 37 (AV.ptr 1 (dg c b j)) H.nil), Ans.o (Orc.val 38 (I ((C6 (dg c b) j).getD (dg c b j) i0)) H.nil), Ans.o (Orc.val 39 (I ((↑(ct (dg c b) (dg c b j) j) : Int) + (1 : Int))) H.nil), Ans.o (Orc.val 40 (AV.ptr 1 (dg c b j)) H.nil), Ans.o (Orc.val 9999 (AV.tup []) (H.mk [ints ((C6 (dg c a) j).set (dg c a j) ((↑(ct (dg c a) (dg c a j) j) : Int) + (1 : Int))), ints ((C6 (dg c b) j).set (dg c b j) ((↑(ct (dg c b) (dg c b j) j) : Int) + (1 : Int)))] [] [])), Ans.o (Orc.val 43 (I (↑(qt c a (j + (1 : Nat))) : Int)) H.nil), Ans.o (Orc.val 46 (I (↑(qt c b (j + (1 : Nat))) : Int)) H.nil)], fun u => of_eq ((↑j : Int) < (↑p : Int) ∧ aBin Try.prog BinOp.rem (3 : Nat) (I (↑(qt c a j) : Int)) (I (↑c : Int)) = some (I (↑(dg c a j) : Int)) ∧ aBin Try.prog BinOp.rem (3 : Nat) (I (↑(qt c b j) : Int)) (I (↑c : Int)) = some (I (↑(dg c b j) : Int)) ∧ (↑(dg c a j) : Int) = (↑(dg c b j) : Int) ∧ aBin Try.prog BinOp.add (3 : Nat) (I (↑(bl (dg c a) (dg c b) j) : Int)) (I 1) = some (I (↑(bl (dg c a) (dg c b) (j + (1 : Nat))) : Int)) ∧ aBin Try.prog BinOp.rem (3 : Nat) (I (↑(qt c a j) : Int)) (I (↑c : Int)) = some (I (↑(dg c a j) : Int)) ∧ aIndexAddr Try.prog (71 : Nat) (AV.ptr 0 0) (I (↑(dg c a j) : Int)) = some (AV.ptr 0 (dg c a j)) ∧ aLoad Try.prog (3 : Nat) (List.drop (dg c a j) (ints (C6 (dg c a) j))) = some (I ((C6 (dg c a) j).getD (dg c a j) i0)) ∧ aBin Try.prog BinOp.add (3 : Nat) (I ((C6 (dg c a) j).getD (dg c a j) i0)) (I 1) = some (I ((↑(ct (dg c a) (dg c a j) j) : Int) + (1 : Int))) ∧ aIndexAddr Try.prog (71 : Nat) (AV.ptr 0 0) (I (↑(dg c a j) : Int)) = some (AV.ptr 0 (dg c a j)) ∧ aStore Try.prog H.nil.base (3 : Nat) (AV.ptr 0 (dg c a j)) (I ((↑(ct (dg c a) (dg c a j) j) : Int) + (1 : Int))) (H.mk [ints (C6 (dg c a) j), ints (C6 (dg c b) j)] [] []) = some (H.mk [ints ((C6 (dg c a) j).set (dg c a j) ((↑(ct (dg c a) (dg c a j) j) : Int) + (1 : Int))), ints (C6 (dg c b) j)] [] []) ∧ aBin Try.prog BinOp.rem (3 : Nat) (I (↑(qt c b j) : Int)) (I (↑c : Int)) = some (I (↑(dg c b j) : Int)) ∧ aIndexAddr Try.prog (71 : Nat) (AV.ptr 1 0) (I (↑(dg c b j) : Int)) = some (AV.ptr 1 (dg c b j)) ∧ aLoad Try.prog (3 : Nat) (List.drop (dg c b j) (ints (C6 (dg c b) j))) = some (I ((C6 (dg c b) j).getD (dg c b j) i0)) ∧ aBin Try.prog BinOp.add (3 : Nat) (I ((C6 (dg c b) j).getD (dg c b j) i0)) (I 1) = some (I ((↑(ct (dg c b) (dg c b j) j) : Int) + (1 : Int))) ∧ aIndexAddr Try.prog (71 : Nat) (AV.ptr 1 0) (I (↑(dg c b j) : Int)) = some (AV.ptr 1 (dg c b j)) ∧ aStore Try.prog H.nil.base (3 : Nat) (AV.ptr 1 (dg c b j)) (I ((↑(ct (dg c b) (dg c b j) j) : Int) + (1 : Int))) (H.mk [ints ((C6 (dg c a) j).set (dg c a j) ((↑(ct (dg c a) (dg c a j) j) : Int) + (1 : Int))), ints (C6 (dg c b) j)] [] []) = some (H.mk [ints ((C6 (dg c a) j).set (dg c a j) ((↑(ct (dg c a) (dg c a j) j) : Int) + (1 : Int))), ints ((C6 (dg c b) j).set (dg c b j) ((↑(ct (dg c b) (dg c b j) j) : Int) + (1 : Int)))] [] []) ∧ aBin Try.prog BinOp.quo (3 : Nat) (I (↑(qt c a j) : Int)) (I (↑c : Int)) = some (I (↑(qt c a (j + (1 : Nat))) : Int)) ∧ aBin Try.prog BinOp.quo (3 : Nat) (I (↑(qt c b j) : Int)) (I (↑c : Int)) = some (I (↑(qt c b (j + (1 : Nat))) : Int)) ∧ IntKind.i64.wrap ((↑j : Int) + (1 : Int)) = (↑j : Int) + (1 : Int) ∧ (65 : Nat) = (65 : Nat) ∧ j < p ∧ Keep (H.mk [ints ((C6 (dg c a) j).set (dg c a j) ((↑(ct (dg c a) (dg c a j) j) : Int) + (1 : Int))), ints ((C6 (dg c b) j).set (dg c b j) ((↑(ct (dg c b) (dg c b j) j) : Int) + (1 : Int)))] [] [] = H.mk [ints (C6 (dg c a) (j + (1 : Nat))), ints (C6 (dg c b) (j + (1 : Nat)))] [] [] ∧ [I (↑c : Int), I (↑(qt c a (j + (1 : Nat))) : Int), I (↑(qt c b (j + (1 : Nat))) : Int), AV.ptr 0 0, AV.ptr 1 0, I (↑(bl (dg c a) (dg c b) (j + (1 : Nat))) : Int), I 0, I (↑p : Int), I ((↑j : Int) + (1 : Int))] = [I (↑c : Int), I (↑(qt c a (j + (1 : Nat))) : Int), I (↑(qt c b (j + (1 : Nat))) : Int), AV.ptr 0 0, AV.ptr 1 0, I (↑(bl (dg c a) (dg c b) (j + (1 : Nat))) : Int), I 0, I (↑p : Int), I (↑(j + (1 : Nat)) : Int)])) (by kernel_rfl) ?_⟩
      refine ⟨by first | with_reducible assumption | omega | assumption, ?_⟩
      refine ⟨told_rem (by first | decide | omega) (by with_reducible assumption), ?_⟩
      refine ⟨told_rem (by first | decide | omega) (by with_reducible assumption), ?_⟩
      refine ⟨by first | with_reducible assumption | omega | assumption, ?_⟩
      refine ⟨told_add (by with_reducible assumption), ?_⟩
      refine ⟨told_rem (by first | decide | omega) (by with_reducible assumption), ?_⟩
      refine ⟨ixa0 (n := 6) (by kernel_rfl) (by omega), ?_⟩
      refine ⟨by first | exact ld_ints (by kernel_rfl) (by kernel_rfl) (by omega) | exact ldm_ints (by kernel_rfl) (by kernel_rfl) (by first | omega | (simp; omega)), ?_⟩
      refine ⟨told_add (by with_reducible assumption), ?_⟩
      refine ⟨ixa0 (n := 6) (by kernel_rfl) (by omega), ?_⟩
      refine ⟨by first | exact st_ints (by kernel_rfl) rfl (by first | omega | (simp; omega) | (simp at *; omega)) | exact st_u64s (by kernel_rfl) rfl (by first | omega | (simp; omega) | (simp at *; omega)) | exact st_bools (by kernel_rfl) rfl (by first | omega | (simp; omega) | (simp at *; omega)), ?_⟩
      refine ⟨told_rem (by first | decide | omega) (by with_reducible assumption), ?_⟩
      refine ⟨ixa0 (n := 6) (by kernel_rfl) (by omega), ?_⟩
      refine ⟨by first | exact ld_ints (by kernel_rfl) (by kernel_rfl) (by omega) | exact ldm_ints (by kernel_rfl) (by kernel_rfl) (by first | omega | (simp; omega)), ?_⟩
      refine ⟨told_add (by with_reducible assumption), ?_⟩
      refine ⟨ixa0 (n := 6) (by kernel_rfl) (by omega), ?_⟩
      refine ⟨by first | exact st_ints (by kernel_rfl) rfl (by first | omega | (simp; omega) | (simp at *; omega)) | exact st_u64s (by kernel_rfl) rfl (by first | omega | (simp; omega) | (simp at *; omega)) | exact st_bools (by kernel_rfl) rfl (by first | omega | (simp; omega) | (simp at *; omega)), ?_⟩
      refine ⟨told_quo (by first | decide | omega) (by with_reducible assumption), ?_⟩
      refine ⟨told_quo (by first | decide | omega) (by with_reducible assumption), ?_⟩
      refine ⟨wr _ (by omega) (by omega), ?_⟩
      refine ⟨by first | with_reducible assumption | omega | assumption, ?_⟩
      refine ⟨by first | with_reducible assumption | omega | assumption, ?_⟩
      exact ⟨by rw [k1, k2], rfl⟩
    · have e' : ((dg c a j : Nat) : Int) ≠ (dg c b j : Nat) := by omega
      have k3 : bl (dg c a) (dg c b) (j + 1) = bl (dg c a) (dg c b) j := by simp only [bl]; rw [if_neg e]; rfl
      refine ⟨[Ans.o (Orc.b true), Ans.o (Orc.val 20 (I (↑(dg c a j) : Int)) H.nil), Ans.o (Orc.val 23 (I (↑(dg c b j) : Int)) H.nil), Ans.o (Orc.b false), Ans.o (Orc.val 29 (I (↑(dg c a j) : Int)) H.nil), Ans.o (Orc.val 30 (AV.ptr 0 (dg c a j)) H.nil), Ans.o (Orc.val 31 (I ((C6 (dg c a) j).getD (dg c a j) i0)) H.nil), Ans.o (Orc.val 32 (I ((↑(ct (dg c a) (dg c a j) j) : Int) + (1 : Int))) H.nil), Ans.o (Orc.val 33 (AV.ptr 0 (dg c a j)) H.nil), Ans.o (Orc.val 9999 (AV.tup []) (H.mk [ints ((C6 (dg c a) j).set (dg c a j) ((↑(ct (dg c a) (dg c a j) j) : Int) + (1 : Int))), ints (C6 (dg c b) j)] [] [])), Ans.o (Orc.val 36 (I (↑(dg c b j) : Int)) H.nil), Ans.o (Orc.val 37 (AV.ptr 1 (dg c b j)) H.nil), Ans.o (Orc.val 38 (I ((C6 (dg c b) j).getD (dg c b j) i0)) H.nil), Ans.o (Orc.val 39 (I ((↑(ct (dg c b) (dg c b j) j) : Int) + (1 : Int))) H.nil), Ans.o (Orc.val 40 (AV.ptr 1 (dg c b j)) H.nil), Ans.o (Orc.val 9999 (AV.tup []) (H.mk [ints ((C6 (dg c a) j).set (dg c a j) ((↑(ct (dg c a) (dg c a j) j) : Int) + (1 : Int))), ints ((C6 (dg c b) j).set (dg c b j) ((↑(ct (dg c b) (dg c b j) j) : Int) + (1 : Int)))] [] [])), Ans.o (Orc.val 43 (I (↑(qt c a (j + (1 : Nat))) : Int)) H.nil), Ans.o (Orc.val 46 (I (↑(qt c b (j + (1 : Nat))) : Int)) H.nil)], fun u => of_eq ((↑j : Int) < (↑p : Int) ∧ aBin Try.prog BinOp.rem (3 : Nat) (I (↑(qt c a j) : Int)) (I (↑c : Int)) = some (I (↑(dg c a j) : Int)) ∧ aBin Try.prog BinOp.rem (3 : Nat) (I (↑(qt c b j) : Int)) (I (↑c : Int)) = some (I (↑(dg c b j) : Int)) ∧ (↑(dg c a j) : Int) ≠ (↑(dg c b j) : Int) ∧ aBin Try.prog BinOp.rem (3 : Nat) (I (↑(qt c a j) : Int)) (I (↑c : Int)) = some (I (↑(dg c a j) : Int)) ∧ aIndexAddr Try.prog (71 : Nat) (AV.ptr 0 0) (I (↑(dg c a j) : Int)) = some (AV.ptr 0 (dg c a j)) ∧ aLoad Try.prog (3 : Nat) (List.drop (dg c a j) (ints (C6 (dg c a) j))) = some (I ((C6 (dg c a) j).getD (dg c a j) i0)) ∧ aBin Try.prog BinOp.add (3 : Nat) (I ((C6 (dg c a) j).getD (dg c a j) i0)) (I 1) = some (I ((↑(ct (dg c a) (dg c a j) j) : Int) + (1 : Int))) ∧ aIndexAddr Try.prog (71 : Nat) (AV.ptr 0 0) (I (↑(dg c a j) : Int)) = some (AV.ptr 0 (dg c a j)) ∧ aStore Try.prog H.nil.base (3 : Nat) (AV.ptr 0 (dg c a j)) (I ((↑(ct (dg c a) (dg c a j) j) : Int) + (1 : Int))) (H.mk [ints (C6 (dg c a) j), ints (C6 (dg c b) j)] [] []) = some (H.mk [ints ((C6 (dg c a) j).set (dg c a j) ((↑(ct (dg c a) (dg c a j) j) : Int) + (1 : Int))), ints (C6 (dg c b) j)] [] []) ∧ aBin Try.prog BinOp.rem (3 : Nat) (I (↑(qt c b j) : Int)) (I (↑c : Int)) = some (I (↑(dg c b j) : Int)) ∧ aIndexAddr Try.prog (71 : Nat) (AV.ptr 1 0) (I (↑(dg c b j) : Int)) = some (AV.ptr 1 (dg c b j)) ∧ aLoad Try.prog (3 : Nat) (List.drop (dg c b j) (ints (C6 (dg c b) j))) = some (I ((C6 (dg c b) j).getD (dg c b j) i0)) ∧ aBin Try.prog BinOp.add (3 : Nat) (I ((C6 (dg c b) j).getD (dg c b j) i0)) (I 1) = some (I ((↑(ct (dg c b) (dg c b j) j) : Int) + (1 : Int))) ∧ aIndexAddr Try.prog (71 : Nat) (AV.ptr 1 0) (I (↑(dg c b j) : Int)) = some (AV.ptr 1 (dg c b j)) ∧ aStore Try.prog H.nil.base (3 : Nat) (AV.ptr 1 (dg c b j)) (I ((↑(ct (dg c b) (dg c b j) j) : Int) + (1 : Int))) (H.mk [ints ((C6 (dg c a) j).set (dg c a j) ((↑(ct (dg c a) (dg c a j) j) : Int) + (1 : Int))), ints (C6 (dg c b) j)] [] []) = some (H.mk [ints ((C6 (dg c a) j).set (dg c a j) ((↑(ct (dg c a) (dg c a j) j) : Int) + (1 : Int))), ints ((C6 (dg c b) j).set (dg c b j) ((↑(ct (dg c b) (dg c b j) j) : Int) + (1 : Int)))] [] []) ∧ aBin Try.prog BinOp.quo (3 : Nat) (I (↑(qt c a j) : Int)) (I (↑c : Int)) = some (I (↑(qt c a (j + (1 : Nat))) : Int)) ∧ aBin Try.prog BinOp.quo (3 : Nat) (I (↑(qt c b j) : Int)) (I (↑c : Int)) = some (I (↑(qt c b (j + (1 : Nat))) : Int)) ∧ IntKind.i64.wrap ((↑j : Int) + (1 : Int)) = (↑j : Int) + (1 : Int) ∧ (65 : Nat) = (65 : Nat) ∧ j < p ∧ Keep (H.mk [ints ((C6 (dg c a) j).set (dg c a j) ((↑(ct (dg c a) (dg c a j) j) : Int) + (1 : Int))), ints ((C6 (dg c b) j).set (dg c b j) ((↑(ct (dg c b) (dg c b j) j) : Int) + (1 : Int)))] [] [] = H.mk [ints (C6 (dg c a) (j + (1 : Nat))), ints (C6 (dg c b) (j + (1 : Nat)))] [] [] ∧ [I (↑c : Int), I (↑(qt c a (j + (1 : Nat))) : Int), I (↑(qt c b (j + (1 : Nat))) : Int), AV.ptr 0 0, AV.ptr 1 0, I (↑(bl (dg c a) (dg c b) j) : Int), I 0, I (↑p : Int), I ((↑j : Int) + (1 : Int))] = [I (↑c : Int), I (↑(qt c a (j + (1 : Nat))) : Int), I (↑(qt c b (j + (1 : Nat))) : Int), AV.ptr 0 0, AV.ptr 1 0, I (↑(bl (dg c a) (dg c b) (j + (1 : Nat))) : Int), I 0, I (↑p : Int), I (↑(j + (1 : Nat)) : Int)])) (by kernel_rfl) ?_⟩
      refine ⟨by first | with_reducible assumption | omega | assumption, ?_⟩
      refine ⟨told_rem (by first | decide | omega) (by with_reducible assumption), ?_⟩
      refine ⟨told_rem (by first | decide | omega) (by with_reducible assumption), ?_⟩
      refine ⟨by first | with_reducible assumption | omega | assumption, ?_⟩
      refine ⟨told_rem (by first | decide | omega) (by with_reducible assumption), ?_⟩
      refine ⟨ixa0 (n := 6) (by kernel_rfl) (by omega), ?_⟩
      refine ⟨by first | exact ld_ints (by kernel_rfl) (by kernel_rfl) (by omega) | exact ldm_ints (by kernel_rfl) (by kernel_rfl) (by first | omega | (simp; omega)), ?_⟩
      refine ⟨told_add (by with_reducible assumption), ?_⟩
      refine ⟨ixa0 (n := 6) (by kernel_rfl) (by omega), ?_⟩
      refine ⟨by first | exact st_ints (by kernel_rfl) rfl (by first | omega | (simp; omega) | (simp at *; omega)) | exact st_u64s (by kernel_rfl) rfl (by first | omega | (simp; omega) | (simp at *; omega)) | exact st_bools (by kernel_rfl) rfl (by first | omega | (simp; omega) | (simp at *; omega)), ?_⟩
      refine ⟨told_rem (by first | decide | omega) (by with_reducible assumption), ?_⟩
      refine ⟨ixa0 (n := 6) (by kernel_rfl) (by omega), ?_⟩
      refine ⟨by first | exact ld_ints (by kernel_rfl) (by kernel_rfl) (by omega) | exact ldm_ints (by kernel_rfl) (by kernel_rfl) (by first | omega | (simp; omega)), ?_⟩
      refine ⟨told_add (by with_reducible assumption), ?_⟩
      refine ⟨ixa0 (n := 6) (by kernel_rfl) (by omega), ?_⟩
      refine ⟨by first | exact st_ints (by kernel_rfl) rfl (by first | omega | (simp; omega) | (simp at *; omega)) | exact st_u64s (by kernel_rfl) rfl (by first | omega | (simp; omega) | (simp at *; omega)) | exact st_bools (by kernel_rfl) rfl (by first | omega | (simp; omega) | (simp at *; omega)), ?_⟩
      refine ⟨told_quo (by first | decide | omega) (by with_reducible assumption), ?_⟩
      refine ⟨told_quo (by first | decide | omega) (by with_reducible assumption), ?_⟩
      refine ⟨wr _ (by omega) (by omega), ?_⟩
      refine ⟨by first | with_reducible assumption | omega | assumption, ?_⟩
      refine ⟨by first | with_reducible assumption | omega | assumption, ?_⟩
      exact ⟨by rw [k1, k2], by rw [k3]; rfl⟩
  · have hz : (p : Int) ≤ j := by omega
    have hj' : j = p := by omega
    subst hj'
    refine ⟨[Ans.o (Orc.b false)], fun u => of_eq ((↑j : Int) ≤ (↑j : Int) ∧ (65 : Nat) = (65 : Nat) ∧ hits [Out.mk Unit (AX.exit (0 : Nat)) [(10 : Nat), (11 : Nat), (12 : Nat), (13 : Nat)] (fun x => True) (fun x => [AV.ptr 0 0, AV.ptr 1 0, I (↑(bl (dg c a) (dg c b) j) : Int), I 0]) (fun x => h21 (dg c a) (dg c b) j) fun x => []] (AX.exit (0 : Nat)) [u (0 : Nat), I (↑c : Int), I (↑(qt c a j) : Int), I (↑(qt c b j) : Int), u (4 : Nat), u (5 : Nat), u (6 : Nat), u (7 : Nat), u (8 : Nat), u (9 : Nat), AV.ptr 0 0, AV.ptr 1 0, I (↑(bl (dg c a) (dg c b) j) : Int), I 0, u (14 : Nat), I (↑j : Int), I (↑j : Int), AV.bool false, u (18 : Nat), u (19 : Nat), u (20 : Nat), u (21 : Nat), u (22 : Nat), u (23 : Nat), u (24 : Nat), u (25 : Nat), u (26 : Nat), u (27 : Nat), u (28 : Nat), u (29 : Nat), u (30 : Nat), u (31 : Nat), u (32 : Nat), u (33 : Nat), u (34 : Nat), u (35 : Nat), u (36 : Nat), u (37 : Nat), u (38 : Nat), u (39 : Nat), u (40 : Nat), u (41 : Nat), u (42 : Nat), u (43 : Nat), u (44 : Nat), u (45 : Nat), u (46 : Nat), u (47 : Nat), u (48 : Nat), u (49 : Nat), u (50 : Nat), u (51 : Nat), u (52 : Nat), u (53 : Nat), u (54 : Nat), u (55 : Nat), u (56 : Nat), u (57 : Nat), u (58 : Nat), u (59 : Nat), u (60 : Nat), u (61 : Nat), u (62 : Nat), u (63 : Nat), u (64 : Nat)] (H.mk [ints (C6 (dg c a) j), ints (C6 (dg c b) j)] [] [])) (by kernel_rfl) ?_⟩
    refine ⟨by first | with_reducible assumption | omega | assumption, ?_⟩
    refine ⟨by first | with_reducible assumption | omega | assumption, ?_⟩
    exact .inl ⟨(), trivial, rfl, rfl, rfl⟩
theorem al_st {f g : Nat → Nat} {p : Nat} (k : Nat) (hp : p ≤ 4) (hk : k < 6) : IntKind.i64.wrap ((al f g p k : Int) + pick2 false (ct f k p : Int) (ct g k p : Int)) = (al f g p (k + 1) : Nat) ∧ (al f g p k : Int) + pick2 false (ct f k p : Int) (ct g k p : Int) = (al f g p (k + 1) : Nat) := by
  have e : al f g p (k + 1) = al f g p k + min (ct f k p) (ct g k p) := rfl
  rw [pk, e]
  have h : al f g p k ≤ sm (fun _ => 4) k := sm_le fun i _ => by have := ct_le f i p; omega
  have h2 : ∀ k, sm (fun _ => 4) k = 4 * k := fun k => by induction k with
    | zero => rfl
    | succ k ih => simp only [sm, ih]; omega
  rw [h2] at h
  have := ct_le f k p
  exact ⟨wr _ (by omega) (by omega), by omega⟩
theorem ok21 : FokM Try.prog none1 21 Try.f21 := ⟨mixed, by kernel_rfl, by kernel_rfl, by kernel_rfl, by kernel_rfl⟩
theorem r21 (p : Nat) (c : Nat) (a : Nat) (b : Nat) (hp : p ≤ 4 ∧ (1 ≤ c ∧ c ≤ 6) ∧ a ≤ 1000 ∧ b ≤ 1000) : Body ⟨Try.prog, Sof (P := Try.prog) [], Pof (P := Try.prog) [], H.nil.base, 300⟩ none1 Try.f21 [I p, I c, I a, I b] .nil (.tup [I (bl (dg c a) (dg c b) p : Nat), I (wh (dg c a) (dg c b) p 6 : Nat)], .nil) := by
  obtain ⟨h1, h2, h3, h4⟩ := hp
  have w0 : IntKind.i64.wrap ((0 : Int) + pick2 false ((ct (dg c a) 0 p : Nat) : Int) ((ct (dg c b) 0 p : Nat) : Int)) = ((al (dg c a) (dg c b) p 1 : Nat) : Int) := (al_st (f := dg c a) (g := dg c b) 0 h1 (by decide)).1
  have ev0 : (0 : Int) + pick2 false ((ct (dg c a) 0 p : Nat) : Int) ((ct (dg c b) 0 p : Nat) : Int) = ((al (dg c a) (dg c b) p 1 : Nat) : Int) := (al_st (f := dg c a) (g := dg c b) 0 h1 (by decide)).2
  have w1 : IntKind.i64.wrap (((al (dg c a) (dg c b) p 1 : Nat) : Int) + pick2 false ((ct (dg c a) 1 p : Nat) : Int) ((ct (dg c b) 1 p : Nat) : Int)) = ((al (dg c a) (dg c b) p 2 : Nat) : Int) := (al_st (f := dg c a) (g := dg c b) 1 h1 (by decide)).1
  have ev1 : ((al (dg c a) (dg c b) p 1 : Nat) : Int) + pick2 false ((ct (dg c a) 1 p : Nat) : Int) ((ct (dg c b) 1 p : Nat) : Int) = ((al (dg c a) (dg c b) p 2 : Nat) : Int) := (al_st (f := dg c a) (g := dg c b) 1 h1 (by decide)).2
  have w2 : IntKind.i64.wrap (((al (dg c a) (dg c b) p 2 : Nat) : Int) + pick2 false ((ct (dg c a) 2 p : Nat) : Int) ((ct (dg c b) 2 p : Nat) : Int)) = ((al (dg c a) (dg c b) p 3 : Nat) : Int) := (al_st (f := dg c a) (g := dg c b) 2 h1 (by decide)).1
  have ev2 : ((al (dg c a) (dg c b) p 2 : Nat) : Int) + pick2 false ((ct (dg c a) 2 p : Nat) : Int) ((ct (dg c b) 2 p : Nat) : Int) = ((al (dg c a) (dg c b) p 3 : Nat) : Int) := (al_st (f := dg c a) (g := dg c b) 2 h1 (by decide)).2
  have w3 : IntKind.i64.wrap (((al (dg c a) (dg c b) p 3 : Nat) : Int) + pick2 false ((ct (dg c a) 3 p : Nat) : Int) ((ct (dg c b) 3 p : Nat) : Int)) = ((al (dg c a) (dg c b) p 4 : Nat) : Int) := (al_st (f := dg c a) (g := dg c b) 3 h1 (by decide)).1
  have ev3 : ((al (dg c a) (dg c b) p 3 : Nat) : Int) + pick2 false ((ct (dg c a) 3 p : Nat) : Int) ((ct (dg c b) 3 p : Nat) : Int) = ((al (dg c a) (dg c b) p 4 : Nat) : Int) := (al_st (f := dg c a) (g := dg c b) 3 h1 (by decide)).2
  have w4 : IntKind.i64.wrap (((al (dg c a) (dg c b) p 4 : Nat) : Int) + pick2 false ((ct (dg c a) 4 p : Nat) : Int) ((ct (dg c b) 4 p : Nat) : Int)) = ((al (dg c a) (dg c b) p 5 : Nat) : Int) := (al_st (f := dg c a) (g := dg c b) 4 h1 (by decide)).1
  have ev4 : ((al (dg c a) (dg c b) p 4 : Nat) : Int) + pick2 false ((ct (dg c a) 4 p : Nat) : Int) ((ct (dg c b) 4 p : Nat) : Int) = ((al (dg c a) (dg c b) p 5 : Nat) : Int) := (al_st (f := dg c a) (g := dg c b) 4 h1 (by decide)).2
  have w5 : IntKind.i64.wrap (((al (dg c a) (dg c b) p 5 : Nat) : Int) + pick2 false ((ct (dg c a) 5 p : Nat) : Int) ((ct (dg c b) 5 p : Nat) : Int)) = ((al (dg c a) (dg c b) p 6 : Nat) : Int) := (al_st (f := dg c a) (g := dg c b) 5 h1 (by decide)).1
  have ev5 : ((al (dg c a) (dg c b) p 5 : Nat) : Int) + pick2 false ((ct (dg c a) 5 p : Nat) : Int) ((ct (dg c b) 5 p : Nat) : Int) = ((al (dg c a) (dg c b) p 6 : Nat) : Int) := (al_st (f := dg c a) (g := dg c b) 5 h1 (by decide)).2
  have hf : ∀ i, dg c a i < 6 := fun i => Nat.lt_of_lt_of_le (dg_lt h2.1 a i) h2.2
  have hw := al_wh (g := dg c b) hf p
  have h6 := wh_le (g := dg c b) hf p
  have w6 : IntKind.i64.wrap (((al (dg c a) (dg c b) p 6 : Nat) : Int) - ((bl (dg c a) (dg c b) p : Nat) : Int)) = ((wh (dg c a) (dg c b) p 6 : Nat) : Int) := by
    rw [hw, wr _ (by omega) (by omega)]; omega
  have ev6 : ((al (dg c a) (dg c b) p 6 : Nat) : Int) - ((bl (dg c a) (dg c b) p : Nat) : Int) = ((wh (dg c a) (dg c b) p 6 : Nat) : Int) := by omega
  refine body_s ([Ans.loop [(1 : Nat), (2 : Nat), (3 : Nat), (10 : Nat), (11 : Nat), (12 : Nat), (13 : Nat), (15 : Nat), (16 : Nat)] [Out.mk Unit (AX.exit (0 : Nat)) [(10 : Nat), (11 : Nat), (12 : Nat), (13 : Nat)] (fun x => True) (fun x => [AV.ptr 0 0, AV.ptr 1 0, I (↑(bl (dg c a) (dg c b) p) : Int), I 0]) (fun x => h21 (dg c a) (dg c b) p) fun y => [Ans.o Orc.dflt, Ans.o (Orc.val 59 (I (↑(al (dg c a) (dg c b) p (1 : Nat)) : Int)) H.nil), Ans.o Orc.dflt, Ans.o (Orc.val 59 (I (↑(al (dg c a) (dg c b) p (2 : Nat)) : Int)) H.nil), Ans.o Orc.dflt, Ans.o (Orc.val 59 (I (↑(al (dg c a) (dg c b) p (3 : Nat)) : Int)) H.nil), Ans.o Orc.dflt, Ans.o (Orc.val 59 (I (↑(al (dg c a) (dg c b) p (4 : Nat)) : Int)) H.nil), Ans.o Orc.dflt, Ans.o (Orc.val 59 (I (↑(al (dg c a) (dg c b) p (5 : Nat)) : Int)) H.nil), Ans.o Orc.dflt, Ans.o (Orc.val 59 (I (↑(al (dg c a) (dg c b) p (6 : Nat)) : Int)) H.nil), Ans.o Orc.dflt, Ans.o (Orc.val 64 (I (↑(wh (dg c a) (dg c b) p (6 : Nat)) : Int)) H.nil)]]]) (LoopS (Env.mk Try.prog (Sof (P := Try.prog) []) (Pof (P := Try.prog) []) H.nil.base (300 : Nat)) (loopAt Try.f21 (0 : Nat)) (65 : Nat) [(1 : Nat), (2 : Nat), (3 : Nat), (10 : Nat), (11 : Nat), (12 : Nat), (13 : Nat), (15 : Nat), (16 : Nat)] [I (↑c : Int), I (↑a : Int), I (↑b : Int), AV.ptr 0 0, AV.ptr 1 0, I 0, I 0, I (↑p : Int), I 0] (H.mk [[I 0, I 0, I 0, I 0, I 0, I 0], [I 0, I 0, I 0, I 0, I 0, I 0]] [] []) [Out.mk Unit (AX.exit (0 : Nat)) [(10 : Nat), (11 : Nat), (12 : Nat), (13 : Nat)] (fun x => True) (fun x => [AV.ptr 0 0, AV.ptr 1 0, I (↑(bl (dg c a) (dg c b) p) : Int), I 0]) (fun x => h21 (dg c a) (dg c b) p) fun y => [Ans.o Orc.dflt, Ans.o (Orc.val 59 (I (↑(al (dg c a) (dg c b) p (1 : Nat)) : Int)) H.nil), Ans.o Orc.dflt, Ans.o (Orc.val 59 (I (↑(al (dg c a) (dg c b) p (2 : Nat)) : Int)) H.nil), Ans.o Orc.dflt, Ans.o (Orc.val 59 (I (↑(al (dg c a) (dg c b) p (3 : Nat)) : Int)) H.nil), Ans.o Orc.dflt, Ans.o (Orc.val 59 (I (↑(al (dg c a) (dg c b) p (4 : Nat)) : Int)) H.nil), Ans.o Orc.dflt, Ans.o (Orc.val 59 (I (↑(al (dg c a) (dg c b) p (5 : Nat)) : Int)) H.nil), Ans.o Orc.dflt, Ans.o (Orc.val 59 (I (↑(al (dg c a) (dg c b) p (6 : Nat)) : Int)) H.nil), Ans.o Orc.dflt, Ans.o (Orc.val 64 (I (↑(wh (dg c a) (dg c b) p (6 : Nat)) : Int)) H.nil)]] ∧ (∀ (y : Unit), True → ∀ (u : Nat → AV), aBin Try.prog BinOp.add (3 : Nat) (I 0) (I (pick2 false (↑(ct (dg c a) (nat_lit 0) p) : Int) (↑(ct (dg c b) (nat_lit 0) p) : Int))) = some (I (↑(al (dg c a) (dg c b) p (1 : Nat)) : Int)) ∧ IntKind.i64.wrap (1 : Int) = (1 : Int) ∧ aBin Try.prog BinOp.add (3 : Nat) (I (↑(al (dg c a) (dg c b) p (1 : Nat)) : Int)) (I (pick2 false (↑(ct (dg c a) (nat_lit 1) p) : Int) (↑(ct (dg c b) (nat_lit 1) p) : Int))) = some (I (↑(al (dg c a) (dg c b) p (2 : Nat)) : Int)) ∧ IntKind.i64.wrap (2 : Int) = (2 : Int) ∧ aBin Try.prog BinOp.add (3 : Nat) (I (↑(al (dg c a) (dg c b) p (2 : Nat)) : Int)) (I (pick2 false (↑(ct (dg c a) (nat_lit 2) p) : Int) (↑(ct (dg c b) (nat_lit 2) p) : Int))) = some (I (↑(al (dg c a) (dg c b) p (3 : Nat)) : Int)) ∧ IntKind.i64.wrap (3 : Int) = (3 : Int) ∧ aBin Try.prog BinOp.add (3 : Nat) (I (↑(al (dg c a) (dg c b) p (3 : Nat)) : Int)) (I (pick2 false (↑(ct (dg c a) (nat_lit 3) p) : Int) (↑(ct (dg c b) (nat_lit 3) p) : Int))) = some (I (↑(al (dg c a) (dg c b) p (4 : Nat)) : Int)) ∧ IntKind.i64.wrap (4 : Int) = (4 : Int) ∧ aBin Try.prog BinOp.add (3 : Nat) (I (↑(al (dg c a) (dg c b) p (4 : Nat)) : Int)) (I (pick2 false (↑(ct (dg c a) (nat_lit 4) p) : Int) (↑(ct (dg c b) (nat_lit 4) p) : Int))) = some (I (↑(al (dg c a) (dg c b) p (5 : Nat)) : Int)) ∧ IntKind.i64.wrap (5 : Int) = (5 : Int) ∧ aBin Try.prog BinOp.add (3 : Nat) (I (↑(al (dg c a) (dg c b) p (5 : Nat)) : Int)) (I (pick2 false (↑(ct (dg c a) (nat_lit 5) p) : Int) (↑(ct (dg c b) (nat_lit 5) p) : Int))) = some (I (↑(al (dg c a) (dg c b) p (6 : Nat)) : Int)) ∧ IntKind.i64.wrap (6 : Int) = (6 : Int) ∧ aBin Try.prog BinOp.sub (3 : Nat) (I (↑(al (dg c a) (dg c b) p (6 : Nat)) : Int)) (I (↑(bl (dg c a) (dg c b) p) : Int)) = some (I (↑(wh (dg c a) (dg c b) p (6 : Nat)) : Int)) ∧ (AV.tup [I (↑(bl (dg c a) (dg c b) p) : Int), I (↑(wh (dg c a) (dg c b) p (6 : Nat)) : Int)], H.mk [] [] []) = (AV.tup [I (↑(bl (dg c a) (dg c b) p) : Int), I (↑(wh (dg c a) (dg c b) p (6 : Nat)) : Int)], H.mk [] [] [])) ∧ True) (by kernel_rfl) ?_
  refine ⟨lp21 p c a b h1 h2 h3 h4, ?_⟩
  refine And.intro ?_ ?_
  · skip
    intro y
    intro w1
    intro u
    refine ⟨told_add (by with_reducible assumption), ?_⟩
    refine ⟨wr _ (by omega) (by omega), ?_⟩
    refine ⟨told_add (by with_reducible assumption), ?_⟩
    refine ⟨wr _ (by omega) (by omega), ?_⟩
    refine ⟨told_add (by with_reducible assumption), ?_⟩
    refine ⟨wr _ (by omega) (by omega), ?_⟩
    refine ⟨told_add (by with_reducible assumption), ?_⟩
    refine ⟨wr _ (by omega) (by omega), ?_⟩
    refine ⟨told_add (by with_reducible assumption), ?_⟩
    refine ⟨wr _ (by omega) (by omega), ?_⟩
    refine ⟨told_add (by with_reducible assumption), ?_⟩
    refine ⟨wr _ (by omega) (by omega), ?_⟩
    refine ⟨told_sub (by with_reducible assumption), ?_⟩
    rfl
  · skip
    trivial
noncomputable def c21 : PCtr Try.prog := sctr ok21 (X := Nat × Nat × Nat × Nat) (fun x => [I x.1, I x.2.1, I x.2.2.1, I x.2.2.2]) (fun x => x.1 ≤ 4 ∧ (1 ≤ x.2.1 ∧ x.2.1 ≤ 6) ∧ x.2.2.1 ≤ 1000 ∧ x.2.2.2 ≤ 1000) (fun x => .tup [I (bl (dg x.2.1 x.2.2.1) (dg x.2.1 x.2.2.2) x.1 : Nat), I (wh (dg x.2.1 x.2.2.1) (dg x.2.1 x.2.2.2) x.1 6 : Nat)]) (by intro x y e _ _; simp [Int.natCast_inj] at e; simp [e]) (fun x => by simp [AV.bnds, AV.bnd, AV.wk, rm_wk_bnd]) (fun x => by first | rfl | (simp [AV.bnd, rm_wk_bnd]; done)  | (simp [AV.bnd, AV.bnds, rm_wk_bnd]; done) | simp [AV.bnd, AV.bnds, Room.bnd, rm_wk_bnd]) (fun x hx => ⟨_, _, _, .nil, r21 (x.1) (x.2.1) (x.2.2.1) (x.2.2.2) hx⟩)
/-- are numbers codes of a game? -/
def gmL (p c : Int) (l : List Int) : Bool := l.all fun n => decide (0 ≤ n) && decide (n < cdV p c)
def gmB (p c : Int) (l : List Int) : Bool := gmL p c l && decide (0 < cdV p c)
theorem gm_drop {p c : Int} {l : List Int} {j : Nat} (h : j < l.length) : gmL p c (l.drop j) = (decide (0 ≤ ia l j) && decide (ia l j < cdV p c) && gmL p c (l.drop (j + 1))) := by
  have e : l.getD j i0 = l[j] := by simp [List.getD_eq_getElem?_getD, List.getElem?_eq_getElem h]
  rw [List.drop_eq_getElem_cons h, ia, e]; rfl
abbrev o19 (p c : Int) (l : List Int) : List Out :=
  [.mk Unit .ret [6] (fun _ => gmL p c l = false) (fun _ => [.bool false]) (fun _ => .nil) (fun _ => []), .mk Unit (.exit 0) [0, 1] (fun _ => gmL p c l = true) (fun _ => [I p, I c]) (fun _ => .nil) (fun _ => [])]
theorem simp19 : allSimpleM none1 (loopAt Try.f19 0) = true := by kernel_rfl
theorem lp19 (p c : Int) (l : List Int) (r : Room) (hl : lim l.length) (hr : rok l r) :
    LoopS (En6 [c32.to]) (loopAt Try.f19 0) 29 [0, 1, 9, 10, 11] [I p, I c, ls l r, I l.length, I 0] .nil (o19 p c l) := by
  have hR : Rests (En6 [c32.to]) none1 := rests mixed (.pure _ .nil)
  refine loop_s hR simp19 none (by intro _ h; cases h) (fun j vs h => h = .nil ∧ vs = [I p, I c, ls l r, I l.length, I j] ∧ gmL p c l = gmL p c (l.drop j)) l.length ⟨rfl, rfl, rfl⟩ (by intro _ h; cases h) ?_
  rintro j vs h hj ⟨rfl, rfl, ha⟩
  by_cases hz : (j : Int) < l.length
  · have hz' : j < l.length := by omega
    have hr' := rok_idx hr hz'
    rw [gm_drop hz'] at ha
    by_cases c1 : ia l j < 0
    · have ha : gmL p c l = false := by rw [ha, decide_eq_false (by omega)]; rfl
      refine ⟨[Ans.o (Orc.b true), Ans.o (Orc.val 13 (AV.cptr (ints (List.drop j l))) H.nil), Ans.o (Orc.val 14 (I (l.getD j i0)) H.nil), Ans.o (Orc.b true)], fun u => of_eq ((↑j : Int) < (↑l.length : Int) ∧ aIndexAddr Try.prog (31 : Nat) (AV.sl (ints l) l.length r) (I (↑j : Int)) = some (AV.cptr (ints (List.drop j l))) ∧ aLoad Try.prog (3 : Nat) (ints (List.drop j l)) = some (I (l.getD j i0)) ∧ l.getD j i0 < (0 : Int) ∧ (29 : Nat) = (29 : Nat) ∧ hits [Out.mk Unit AX.ret [(6 : Nat)] (fun x => gmL p c l = false) (fun x => [AV.bool false]) (fun x => H.nil) fun x => [], Out.mk Unit (AX.exit (0 : Nat)) [(0 : Nat), (1 : Nat)] (fun x => gmL p c l = true) (fun x => [I p, I c]) (fun x => H.nil) fun x => []] AX.ret [I p, I c, u (2 : Nat), u (3 : Nat), u (4 : Nat), u (5 : Nat), AV.bool false, u (7 : Nat), I (l.getD j i0), AV.sl (ints l) l.length r, I (↑l.length : Int), I (↑j : Int), AV.bool true, AV.cptr (ints (List.drop j l)), I (l.getD j i0), I (l.getD j i0), AV.bool true, AV.bool true, AV.tup [], AV.tup [], AV.tup [], AV.tup [], AV.tup [], AV.bool true, u (24 : Nat), u (25 : Nat), u (26 : Nat), u (27 : Nat), u (28 : Nat)] (H.mk [] [] [])) (by kernel_rfl) ?_⟩
      refine ⟨by first | with_reducible assumption | omega | assumption, ?_⟩
      refine ⟨by first | exact ix_ints (by kernel_rfl) (by omega) (by assumption) | exact ix_ints (by kernel_rfl) (by omega) (rok_idx (by assumption) (by omega)), ?_⟩
      refine ⟨by first | exact ld_ints (by kernel_rfl) (by kernel_rfl) (by omega) | exact ldm_ints (by kernel_rfl) (by kernel_rfl) (by first | omega | (simp; omega)), ?_⟩
      refine ⟨by first | with_reducible assumption | omega | assumption, ?_⟩
      refine ⟨by first | with_reducible assumption | omega | assumption, ?_⟩
      exact .inl ⟨(), ha, rfl, rfl, rfl⟩
    · have c1 : 0 ≤ ia l j := by omega
      by_cases c2 : cdV p c ≤ ia l j
      · have ha : gmL p c l = false := by rw [ha, decide_eq_false (p := ia l j < cdV p c) (by omega), Bool.and_false]; rfl
        refine ⟨[Ans.o (Orc.b true), Ans.o (Orc.val 13 (AV.cptr (ints (List.drop j l))) H.nil), Ans.o (Orc.val 14 (I (l.getD j i0)) H.nil), Ans.o (Orc.b false), Ans.o (Orc.val 21 (I (cdV p c)) (H.mk [] [] [])), Ans.o (Orc.b true)], fun u => of_eq ((↑j : Int) < (↑l.length : Int) ∧ aIndexAddr Try.prog (31 : Nat) (AV.sl (ints l) l.length r) (I (↑j : Int)) = some (AV.cptr (ints (List.drop j l))) ∧ aLoad Try.prog (3 : Nat) (ints (List.drop j l)) = some (I (l.getD j i0)) ∧ (0 : Int) ≤ l.getD j i0 ∧ aCall (Sof [c32.to]) (AV.fn (Fn.func (32 : Nat)) [] []) [I p, I c] (H.mk [] [] []) = some (I (cdV p c), H.mk [] [] []) ∧ cdV p c ≤ l.getD j i0 ∧ (29 : Nat) = (29 : Nat) ∧ hits [Out.mk Unit AX.ret [(6 : Nat)] (fun x => gmL p c l = false) (fun x => [AV.bool false]) (fun x => H.nil) fun x => [], Out.mk Unit (AX.exit (0 : Nat)) [(0 : Nat), (1 : Nat)] (fun x => gmL p c l = true) (fun x => [I p, I c]) (fun x => H.nil) fun x => []] AX.ret [I p, I c, u (2 : Nat), u (3 : Nat), u (4 : Nat), u (5 : Nat), AV.bool false, u (7 : Nat), I (l.getD j i0), AV.sl (ints l) l.length r, I (↑l.length : Int), I (↑j : Int), AV.bool true, AV.cptr (ints (List.drop j l)), I (l.getD j i0), I (l.getD j i0), AV.bool false, AV.bool false, I (l.getD j i0), I p, I c, I (cdV p c), AV.bool true, AV.bool true, u (24 : Nat), u (25 : Nat), u (26 : Nat), u (27 : Nat), u (28 : Nat)] (H.mk [] [] [])) (by kernel_rfl) ?_⟩
        refine ⟨by first | with_reducible assumption | omega | assumption, ?_⟩
        refine ⟨by first | exact ix_ints (by kernel_rfl) (by omega) (by assumption) | exact ix_ints (by kernel_rfl) (by omega) (rok_idx (by assumption) (by omega)), ?_⟩
        refine ⟨by first | exact ld_ints (by kernel_rfl) (by kernel_rfl) (by omega) | exact ldm_ints (by kernel_rfl) (by kernel_rfl) (by first | omega | (simp; omega)), ?_⟩
        refine ⟨by first | with_reducible assumption | omega | assumption, ?_⟩
        refine ⟨acall_hit (c := c32.to) (p, c) _ rfl trivial, ?_⟩
        refine ⟨by first | with_reducible assumption | omega | assumption, ?_⟩
        refine ⟨by first | with_reducible assumption | omega | assumption, ?_⟩
        exact .inl ⟨(), ha, rfl, rfl, rfl⟩
      · have c2 : ia l j < cdV p c := by omega
        have ha : gmL p c l = gmL p c (l.drop (j + 1)) := by rw [ha, decide_eq_true c1, decide_eq_true c2]; rfl
        refine ⟨[Ans.o (Orc.b true), Ans.o (Orc.val 13 (AV.cptr (ints (List.drop j l))) H.nil), Ans.o (Orc.val 14 (I (l.getD j i0)) H.nil), Ans.o (Orc.b false), Ans.o (Orc.val 21 (I (cdV p c)) (H.mk [] [] [])), Ans.o (Orc.b false)], fun u => of_eq ((↑j : Int) < (↑l.length : Int) ∧ aIndexAddr Try.prog (31 : Nat) (AV.sl (ints l) l.length r) (I (↑j : Int)) = some (AV.cptr (ints (List.drop j l))) ∧ aLoad Try.prog (3 : Nat) (ints (List.drop j l)) = some (I (l.getD j i0)) ∧ (0 : Int) ≤ l.getD j i0 ∧ aCall (Sof [c32.to]) (AV.fn (Fn.func (32 : Nat)) [] []) [I p, I c] (H.mk [] [] []) = some (I (cdV p c), H.mk [] [] []) ∧ l.getD j i0 < cdV p c ∧ IntKind.i64.wrap ((↑j : Int) + (1 : Int)) = (↑j : Int) + (1 : Int) ∧ (29 : Nat) = (29 : Nat) ∧ j < l.length ∧ Keep (H.mk [] [] [] = H.mk [] [] [] ∧ [I p, I c, AV.sl (ints l) l.length r, I (↑l.length : Int), I ((↑j : Int) + (1 : Int))] = [I p, I c, AV.sl (ints l) l.length r, I (↑l.length : Int), I (↑(j + (1 : Nat)) : Int)] ∧ gmL p c l = gmL p c (List.drop (j + (1 : Nat)) l))) (by kernel_rfl) ?_⟩
        refine ⟨by first | with_reducible assumption | omega | assumption, ?_⟩
        refine ⟨by first | exact ix_ints (by kernel_rfl) (by omega) (by assumption) | exact ix_ints (by kernel_rfl) (by omega) (rok_idx (by assumption) (by omega)), ?_⟩
        refine ⟨by first | exact ld_ints (by kernel_rfl) (by kernel_rfl) (by omega) | exact ldm_ints (by kernel_rfl) (by kernel_rfl) (by first | omega | (simp; omega)), ?_⟩
        refine ⟨by first | with_reducible assumption | omega | assumption, ?_⟩
        refine ⟨acall_hit (c := c32.to) (p, c) _ rfl trivial, ?_⟩
        refine ⟨by first | with_reducible assumption | omega | assumption, ?_⟩
        refine ⟨wr _ (by omega) (by omega), ?_⟩
        refine ⟨by first | with_reducible assumption | omega | assumption, ?_⟩
        refine ⟨by first | with_reducible assumption | omega | assumption, ?_⟩
        exact ⟨rfl, rfl, ha⟩
  · have hz : (l.length : Int) ≤ j := by omega
    have hj' : j = l.length := by omega
    subst hj'
    rw [List.drop_length] at ha
    have ha : gmL p c l = true := ha
    refine ⟨[Ans.o (Orc.b false)], fun u => of_eq ((↑l.length : Int) ≤ (↑l.length : Int) ∧ (29 : Nat) = (29 : Nat) ∧ hits [Out.mk Unit AX.ret [(6 : Nat)] (fun x => gmL p c l = false) (fun x => [AV.bool false]) (fun x => H.nil) fun x => [], Out.mk Unit (AX.exit (0 : Nat)) [(0 : Nat), (1 : Nat)] (fun x => gmL p c l = true) (fun x => [I p, I c]) (fun x => H.nil) fun x => []] (AX.exit (0 : Nat)) [I p, I c, u (2 : Nat), u (3 : Nat), u (4 : Nat), u (5 : Nat), u (6 : Nat), u (7 : Nat), u (8 : Nat), AV.sl (ints l) l.length r, I (↑l.length : Int), I (↑l.length : Int), AV.bool false, u (13 : Nat), u (14 : Nat), u (15 : Nat), u (16 : Nat), u (17 : Nat), u (18 : Nat), u (19 : Nat), u (20 : Nat), u (21 : Nat), u (22 : Nat), u (23 : Nat), u (24 : Nat), u (25 : Nat), u (26 : Nat), u (27 : Nat), u (28 : Nat)] (H.mk [] [] [])) (by kernel_rfl) ?_⟩
    refine ⟨by first | with_reducible assumption | omega | assumption, ?_⟩
    refine ⟨by first | with_reducible assumption | omega | assumption, ?_⟩
    exact .inr (.inl ⟨(), ha, rfl, rfl, rfl⟩)
theorem ok19 : FokM Try.prog none1 19 Try.f19 := ⟨mixed, by kernel_rfl, by kernel_rfl, by kernel_rfl, by kernel_rfl⟩
theorem r19 (p : Int) (c : Int) (l : List Int) (r : Room) (hp : lim l.length ∧ rok l r) : Body ⟨Try.prog, Sof (P := Try.prog) [c32.to], Pof (P := Try.prog) [], H.nil.base, 300⟩ none1 Try.f19 [I p, I c, ls l r] .nil (.bool (gmB p c l), .nil) := by
  obtain ⟨h3, h4⟩ := hp
  by_cases hd : 0 < cdV p c
  · refine body_s ([Ans.loop [(0 : Nat), (1 : Nat), (9 : Nat), (10 : Nat), (11 : Nat)] [Out.mk Unit AX.ret [(6 : Nat)] (fun x => gmL p c l = false) (fun x => [AV.bool false]) (fun x => H.nil) fun y => [], Out.mk Unit (AX.exit (0 : Nat)) [(0 : Nat), (1 : Nat)] (fun x => gmL p c l = true) (fun x => [I p, I c]) (fun x => H.nil) fun y => [Ans.o (Orc.val 27 (I (cdV p c)) (H.mk [] [] [])), Ans.o (Orc.b true)]]]) (LoopS (Env.mk Try.prog (Sof [c32.to]) (Pof (P := Try.prog) []) H.nil.base (300 : Nat)) (loopAt Try.f19 (0 : Nat)) (29 : Nat) [(0 : Nat), (1 : Nat), (9 : Nat), (10 : Nat), (11 : Nat)] [I p, I c, AV.sl (ints l) l.length r, I (↑l.length : Int), I 0] (H.mk [] [] []) [Out.mk Unit AX.ret [(6 : Nat)] (fun x => gmL p c l = false) (fun x => [AV.bool false]) (fun x => H.nil) fun y => [], Out.mk Unit (AX.exit (0 : Nat)) [(0 : Nat), (1 : Nat)] (fun x => gmL p c l = true) (fun x => [I p, I c]) (fun x => H.nil) fun y => [Ans.o (Orc.val 27 (I (cdV p c)) (H.mk [] [] [])), Ans.o (Orc.b true)]] ∧ (∀ (y : Unit), gmL p c l = false → ∀ (u : Nat → AV), (AV.bool false, H.mk [] [] []) = (AV.bool (gmB p c l), H.mk [] [] [])) ∧ (∀ (y : Unit), gmL p c l = true → ∀ (u : Nat → AV), aCall (Sof [c32.to]) (AV.fn (Fn.func (32 : Nat)) [] []) [I p, I c] (H.mk [] [] []) = some (I (cdV p c), H.mk [] [] []) ∧ (0 : Int) < cdV p c ∧ (AV.bool true, H.mk [] [] []) = (AV.bool (gmB p c l), H.mk [] [] [])) ∧ True) (by kernel_rfl) ?_
    refine ⟨lp19 p c l r h3 h4, ?_⟩
    refine And.intro ?_ ?_
    · skip
      intro y
      intro w1
      intro u
      first | (simp only [gmB, (by with_reducible assumption : gmL p c l = false)]; rfl) | (simp only [gmB, (by with_reducible assumption : gmL p c l = true), decide_eq_true hd]; rfl)
    · skip
      refine And.intro ?_ ?_
      · skip
        intro y
        intro w1
        intro u
        refine ⟨acall_hit (c := c32.to) (p, c) _ rfl trivial, ?_⟩
        refine ⟨by first | with_reducible assumption | omega | assumption, ?_⟩
        first | (simp only [gmB, (by with_reducible assumption : gmL p c l = false)]; rfl) | (simp only [gmB, (by with_reducible assumption : gmL p c l = true), decide_eq_true hd]; rfl)
      · skip
        trivial
  · have hd' : cdV p c ≤ 0 := by omega
    refine body_s ([Ans.loop [(0 : Nat), (1 : Nat), (9 : Nat), (10 : Nat), (11 : Nat)] [Out.mk Unit AX.ret [(6 : Nat)] (fun x => gmL p c l = false) (fun x => [AV.bool false]) (fun x => H.nil) fun y => [], Out.mk Unit (AX.exit (0 : Nat)) [(0 : Nat), (1 : Nat)] (fun x => gmL p c l = true) (fun x => [I p, I c]) (fun x => H.nil) fun y => [Ans.o (Orc.val 27 (I (cdV p c)) (H.mk [] [] [])), Ans.o (Orc.b false)]]]) (LoopS (Env.mk Try.prog (Sof [c32.to]) (Pof (P := Try.prog) []) H.nil.base (300 : Nat)) (loopAt Try.f19 (0 : Nat)) (29 : Nat) [(0 : Nat), (1 : Nat), (9 : Nat), (10 : Nat), (11 : Nat)] [I p, I c, AV.sl (ints l) l.length r, I (↑l.length : Int), I 0] (H.mk [] [] []) [Out.mk Unit AX.ret [(6 : Nat)] (fun x => gmL p c l = false) (fun x => [AV.bool false]) (fun x => H.nil) fun y => [], Out.mk Unit (AX.exit (0 : Nat)) [(0 : Nat), (1 : Nat)] (fun x => gmL p c l = true) (fun x => [I p, I c]) (fun x => H.nil) fun y => [Ans.o (Orc.val 27 (I (cdV p c)) (H.mk [] [] [])), Ans.o (Orc.b false)]] ∧ (∀ (y : Unit), gmL p c l = false → ∀ (u : Nat → AV), (AV.bool false, H.mk [] [] []) = (AV.bool (gmB p c l), H.mk [] [] [])) ∧ (∀ (y : Unit), gmL p c l = true → ∀ (u : Nat → AV), aCall (Sof [c32.to]) (AV.fn (Fn.func (32 : Nat)) [] []) [I p, I c] (H.mk [] [] []) = some (I (cdV p c), H.mk [] [] []) ∧ cdV p c ≤ (0 : Int) ∧ (AV.bool false, H.mk [] [] []) = (AV.bool (gmB p c l), H.mk [] [] [])) ∧ True) (by kernel_rfl) ?_
    refine ⟨lp19 p c l r h3 h4, ?_⟩
    refine And.intro ?_ ?_
    · skip
      intro y
      intro w1
      intro u
      first | (simp only [gmB, (by with_reducible assumption : gmL p c l = false)]; rfl) | (simp only [gmB, (by with_reducible assumption : gmL p c l = true), decide_eq_false hd]; rfl)
    · skip
      refine And.intro ?_ ?_
      · skip
        intro y
        intro w1
        intro u
        refine ⟨acall_hit (c := c32.to) (p, c) _ rfl trivial, ?_⟩
        refine ⟨by first | with_reducible assumption | omega | assumption, ?_⟩
        first | (simp only [gmB, (by with_reducible assumption : gmL p c l = false)]; rfl) | (simp only [gmB, (by with_reducible assumption : gmL p c l = true), decide_eq_false hd]; rfl)
      · skip
        trivial
noncomputable def c19 : PCtr Try.prog := sctr ok19 (X := Int × Int × List Int × Room) (fun x => [I x.1, I x.2.1, ls x.2.2.1 x.2.2.2]) (fun x => lim x.2.2.1.length ∧ rok x.2.2.1 x.2.2.2) (fun x => .bool (gmB x.1 x.2.1 x.2.2.1)) (by intro x y e _ _; simp [Int.natCast_inj] at e; simp [e]) (fun x => by simp [AV.bnds, AV.bnd, AV.wk, rm_wk_bnd]) (fun x => by first | rfl | (simp [AV.bnd, rm_wk_bnd]; done)  | (simp [AV.bnd, AV.bnds, rm_wk_bnd]; done) | simp [AV.bnd, AV.bnds, Room.bnd, rm_wk_bnd]) (fun x hx => ⟨_, _, _, .pure c32 (.nil), r19 (x.1) (x.2.1) (x.2.2.1) (x.2.2.2).wk (by first | exact hx | (simp only [rok_wk]; exact hx) | (simp only [rok_wk, lst_wk]; exact hx) | (simp only [rok_wk, lst_wk, lsn_wk]; exact hx))⟩)
noncomputable def c19b : PCtr Try.prog := re c19 (Y := Int × Int × Int × Int) (fun y => (y.1, y.2.1, [y.2.2.1, y.2.2.2], .full)) (fun y => [I y.1, I y.2.1, s2 y.2.2.1 y.2.2.2]) (fun _ => rfl)
theorem k0 : lim ([] : List Int).length ∧ rok ([] : List Int) .nil := ⟨by simp [lim], fun h => absurd rfl h⟩
end Go.Proofs.Gss

