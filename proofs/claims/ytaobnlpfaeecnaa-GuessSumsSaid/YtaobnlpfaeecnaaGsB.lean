/- Layer 6: marks. -/
import Derived.Test.YtaobnlpfaeecnaaGsA
import Derived.Test.YtaobnlpfaeecnaaVm6
import Derived.KernelRfl
set_option linter.unusedSimpArgs false
set_option linter.unusedVariables false
set_option linter.unnecessarySimpa false
set_option maxHeartbeats 4000000
set_option maxRecDepth 100000
namespace Go.Proofs.Gss
open Go Go.VM

/-- what is counted for each of the six colours -/
def six (F : Nat → Nat) : List Int := (List.range 6).map fun k => ((F k : Nat) : Int)
@[simp] theorem six_len (F : Nat → Nat) : (six F).length = 6 := rfl
theorem six_get (F : Nat → Nat) {k : Nat} (h : k < 6) : ia (six F) k = ((F k : Nat) : Int) := by
  simp [ia, six, List.getD_eq_getElem?_getD, h]
theorem six_set (F G : Nat → Nat) {k : Nat} (h : k < 6) (hk : G k = F k + 1) (ho : ∀ i, i ≠ k → G i = F i) : (six F).set k ((F k : Int) + 1) = six G := by
  apply List.ext_getElem
  · simp
  · intro i h1 h2
    have hi : i < 6 := by simpa using h1
    simp only [List.getElem_set]
    by_cases e : k = i
    · subst e; rw [if_pos rfl]; simp [six, hk]
    · rw [if_neg e]; simp [six, ho i (fun q => e q.symm)]
theorem tm_nat (a b : Nat) : Int.tmod (a : Int) (b : Int) = ((a % b : Nat) : Int) := rfl
theorem td_nat {a b : Nat} (h : a ≤ 100000) : IntKind.i64.wrap (Int.tdiv (a : Int) (b : Int)) = ((a / b : Nat) : Int) := by
  have : Int.tdiv (a : Int) (b : Int) = ((a / b : Nat) : Int) := rfl
  rw [this]
  have : a / b ≤ a := Nat.div_le_self _ _
  generalize a / b = q at *
  exact wr _ (by omega) (by omega)
abbrev G6 (f g : Nat → Nat) (j : Nat) : List Int := six fun k => gs f g k j
theorem G6_eq {f g : Nat → Nat} {j : Nat} (h : f j = g j) : G6 f g (j + 1) = G6 f g j := by
  simp only [G6, six, gs, if_neg (fun k : f j ≠ g j ∧ _ => k.1 h)]; rfl
theorem G6_ne {f g : Nat → Nat} {j : Nat} (h : f j ≠ g j) (h6 : f j < 6) : (G6 f g j).set (f j) (((gs f g (f j) j : Nat) : Int) + 1) = G6 f g (j + 1) :=
  six_set _ _ h6 (by show gs f g (f j) j + _ = _; rw [if_pos ⟨h, rfl⟩]) (fun i hi => by show gs f g i j + _ = _; rw [if_neg (fun k => hi k.2.symm)]; rfl)
abbrev h55 (p c : Nat) (f g : Nat → Nat) (j : Nat) : H := ⟨[[I p, I c], ints (G6 f g j), ints (G6 g f j)], [], []⟩
abbrev o55 (p c a b : Nat) : List Out :=
  [.mk Unit (.exit 0) [6, 7, 8, 9] (fun _ => True) (fun _ => [I (bl (dg c a) (dg c b) p : Nat), I 0, .ptr 1 0, .ptr 2 0]) (fun _ => h55 p c (dg c a) (dg c b) p) (fun _ => [])]
theorem simp55 : allSimpleM none1 (loopAt Try.f55 0) = true := by kernel_rfl
theorem lp55 (p c a b : Nat) (hp : p ≤ 4) (hc : 1 ≤ c ∧ c ≤ 6) (ha : a ≤ 1000) (hb : b ≤ 1000) :
    LoopS (En6 []) (loopAt Try.f55 0) 65 [1, 2, 3, 6, 7, 8, 9, 15, 16] [I a, I b, .ptr 0 0, I 0, I 0, .ptr 1 0, .ptr 2 0, I p, I 0] (h55 p c (dg c a) (dg c b) 0) (o55 p c a b) := by
  have hR : Rests (En6 []) none1 := rests mixed .nil
  refine loop_s hR simp55 none (by intro _ h; cases h) (fun j vs h => h = h55 p c (dg c a) (dg c b) j ∧ vs = [I (qt c a j : Nat), I (qt c b j : Nat), .ptr 0 0, I (bl (dg c a) (dg c b) j : Nat), I 0, .ptr 1 0, .ptr 2 0, I p, I j]) p ⟨rfl, by rw [qt_0, qt_0]; rfl⟩ (by intro _ h; cases h) ?_
  rintro j vs h hj ⟨rfl, rfl⟩
  by_cases hz : (j : Int) < p
  · have d1 := dg_lt hc.1 a j
    have d2 := dg_lt hc.1 b j
    have q1 := qt_le c a j
    have q2 := qt_le c b j
    have hc0 : (c : Int) ≠ 0 := by omega
    have ev0 : Int.tmod (qt c a j : Int) (c : Int) = (dg c a j : Nat) := tm_nat _ _
    have ev1 : Int.tmod (qt c b j : Int) (c : Int) = (dg c b j : Nat) := tm_nat _ _
    have w2 : IntKind.i64.wrap (Int.tdiv (qt c a j : Int) (c : Int)) = (qt c a (j + 1) : Nat) := by rw [td_nat (by omega), qt_succ]
    have w3 : IntKind.i64.wrap (Int.tdiv (qt c b j : Int) (c : Int)) = (qt c b (j + 1) : Nat) := by rw [td_nat (by omega), qt_succ]
    have ev2 : Int.tdiv (qt c a j : Int) (c : Int) = (qt c a (j + 1) : Nat) := by rw [← qt_succ]; rfl
    have ev3 : Int.tdiv (qt c b j : Int) (c : Int) = (qt c b (j + 1) : Nat) := by rw [← qt_succ]; rfl
    have hbl := bl_le (dg c a) (dg c b) j
    by_cases e : dg c a j = dg c b j
    · have e' : ((dg c a j : Nat) : Int) = (dg c b j : Nat) := by omega
      have k1 := G6_eq e
      have k2 := G6_eq e.symm
      have k3 : bl (dg c a) (dg c b) (j + 1) = bl (dg c a) (dg c b) j + 1 := by simp only [bl]; rw [if_pos e]
      have ev4 : IntKind.i64.wrap ((bl (dg c a) (dg c b) j : Int) + 1) = (bl (dg c a) (dg c b) (j + 1) : Nat) := by rw [k3]; exact wr _ (by omega) (by omega)
      refine ⟨[Ans.o (Orc.b true), Ans.o (Orc.val 21 (I (↑(dg c a j) : Int)) H.nil), Ans.o (Orc.val 25 (I (↑(dg c b j) : Int)) H.nil), Ans.o (Orc.b true), Ans.o (Orc.val 30 (I (↑(bl (dg c a) (dg c b) (j + (1 : Nat))) : Int)) H.nil), Ans.o (Orc.val 44 (I (↑(qt c a (j + (1 : Nat))) : Int)) H.nil), Ans.o (Orc.val 48 (I (↑(qt c b (j + (1 : Nat))) : Int)) H.nil)], fun u => of_eq ((↑j : Int) < (↑p : Int) ∧ aBin Try.prog BinOp.rem (3 : Nat) (I (↑(qt c a j) : Int)) (I (↑c : Int)) = some (I (↑(dg c a j) : Int)) ∧ aBin Try.prog BinOp.rem (3 : Nat) (I (↑(qt c b j) : Int)) (I (↑c : Int)) = some (I (↑(dg c b j) : Int)) ∧ (↑(dg c a j) : Int) = (↑(dg c b j) : Int) ∧ aBin Try.prog BinOp.add (3 : Nat) (I (↑(bl (dg c a) (dg c b) j) : Int)) (I 1) = some (I (↑(bl (dg c a) (dg c b) (j + (1 : Nat))) : Int)) ∧ aBin Try.prog BinOp.quo (3 : Nat) (I (↑(qt c a j) : Int)) (I (↑c : Int)) = some (I (↑(qt c a (j + (1 : Nat))) : Int)) ∧ aBin Try.prog BinOp.quo (3 : Nat) (I (↑(qt c b j) : Int)) (I (↑c : Int)) = some (I (↑(qt c b (j + (1 : Nat))) : Int)) ∧ IntKind.i64.wrap ((↑j : Int) + (1 : Int)) = (↑j : Int) + (1 : Int) ∧ (65 : Nat) = (65 : Nat) ∧ j < p ∧ Keep (H.mk [[I (↑p : Int), I (↑c : Int)], ints (G6 (dg c a) (dg c b) j), ints (G6 (dg c b) (dg c a) j)] [] [] = H.mk [[I (↑p : Int), I (↑c : Int)], ints (G6 (dg c a) (dg c b) (j + (1 : Nat))), ints (G6 (dg c b) (dg c a) (j + (1 : Nat)))] [] [] ∧ [I (↑(qt c a (j + (1 : Nat))) : Int), I (↑(qt c b (j + (1 : Nat))) : Int), AV.ptr 0 0, I (↑(bl (dg c a) (dg c b) (j + (1 : Nat))) : Int), I 0, AV.ptr 1 0, AV.ptr 2 0, I (↑p : Int), I ((↑j : Int) + (1 : Int))] = [I (↑(qt c a (j + (1 : Nat))) : Int), I (↑(qt c b (j + (1 : Nat))) : Int), AV.ptr 0 0, I (↑(bl (dg c a) (dg c b) (j + (1 : Nat))) : Int), I 0, AV.ptr 1 0, AV.ptr 2 0, I (↑p : Int), I (↑(j + (1 : Nat)) : Int)])) (by kernel_rfl) ?_⟩
      refine ⟨by first | with_reducible assumption | omega | assumption, ?_⟩
      refine ⟨told_rem (by first | decide | omega) (by with_reducible assumption), ?_⟩
      refine ⟨told_rem (by first | decide | omega) (by with_reducible assumption), ?_⟩
      refine ⟨by first | with_reducible assumption | omega | assumption, ?_⟩
      refine ⟨told_add (by with_reducible assumption), ?_⟩
      refine ⟨told_quo (by first | decide | omega) (by with_reducible assumption), ?_⟩
      refine ⟨told_quo (by first | decide | omega) (by with_reducible assumption), ?_⟩
      refine ⟨wr _ (by omega) (by omega), ?_⟩
      refine ⟨by first | with_reducible assumption | omega | assumption, ?_⟩
      refine ⟨by first | with_reducible assumption | omega | assumption, ?_⟩
      exact ⟨by rw [k1, k2], rfl⟩
    · have e' : ((dg c a j : Nat) : Int) ≠ (dg c b j : Nat) := by omega
      have k1 := G6_ne (f := dg c a) (g := dg c b) e (by omega)
      have k2 := G6_ne (f := dg c b) (g := dg c a) (fun h => e h.symm) (by omega)
      have k3 : bl (dg c a) (dg c b) (j + 1) = bl (dg c a) (dg c b) j := by simp only [bl]; rw [if_neg e]; rfl
      have g1 := gs_le (dg c a) (dg c b) (dg c a j) j
      have g2 := gs_le (dg c b) (dg c a) (dg c b j) j
      have s1 := six_get (fun k => gs (dg c a) (dg c b) k j) (show dg c a j < 6 by omega)
      have s2 := six_get (fun k => gs (dg c b) (dg c a) k j) (show dg c b j < 6 by omega)
      have ev5 : IntKind.i64.wrap (ia (G6 (dg c a) (dg c b) j) (dg c a j) + 1) = ((gs (dg c a) (dg c b) (dg c a j) j : Nat) : Int) + 1 := by rw [s1]; exact wr _ (by omega) (by omega)
      have ev6 : IntKind.i64.wrap (ia (G6 (dg c b) (dg c a) j) (dg c b j) + 1) = ((gs (dg c b) (dg c a) (dg c b j) j : Nat) : Int) + 1 := by rw [s2]; exact wr _ (by omega) (by omega)
      refine ⟨[Ans.o (Orc.b true), Ans.o (Orc.val 21 (I (↑(dg c a j) : Int)) H.nil), Ans.o (Orc.val 25 (I (↑(dg c b j) : Int)) H.nil), Ans.o (Orc.b false), Ans.o (Orc.val 32 (AV.ptr 1 (dg c a j)) H.nil), Ans.o (Orc.val 33 (I ((G6 (dg c a) (dg c b) j).getD (dg c a j) i0)) H.nil), Ans.o (Orc.val 34 (I ((↑(gs (dg c a) (dg c b) (dg c a j) j) : Int) + (1 : Int))) H.nil), Ans.o (Orc.val 35 (AV.ptr 1 (dg c a j)) H.nil), Ans.o (Orc.val 9999 (AV.tup []) (H.mk [[I (↑p : Int), I (↑c : Int)], ints ((G6 (dg c a) (dg c b) j).set (dg c a j) ((↑(gs (dg c a) (dg c b) (dg c a j) j) : Int) + (1 : Int))), ints (G6 (dg c b) (dg c a) j)] [] [])), Ans.o (Orc.val 37 (AV.ptr 2 (dg c b j)) H.nil), Ans.o (Orc.val 38 (I ((G6 (dg c b) (dg c a) j).getD (dg c b j) i0)) H.nil), Ans.o (Orc.val 39 (I ((↑(gs (dg c b) (dg c a) (dg c b j) j) : Int) + (1 : Int))) H.nil), Ans.o (Orc.val 40 (AV.ptr 2 (dg c b j)) H.nil), Ans.o (Orc.val 9999 (AV.tup []) (H.mk [[I (↑p : Int), I (↑c : Int)], ints ((G6 (dg c a) (dg c b) j).set (dg c a j) ((↑(gs (dg c a) (dg c b) (dg c a j) j) : Int) + (1 : Int))), ints ((G6 (dg c b) (dg c a) j).set (dg c b j) ((↑(gs (dg c b) (dg c a) (dg c b j) j) : Int) + (1 : Int)))] [] [])), Ans.o (Orc.val 44 (I (↑(qt c a (j + (1 : Nat))) : Int)) H.nil), Ans.o (Orc.val 48 (I (↑(qt c b (j + (1 : Nat))) : Int)) H.nil)], fun u => of_eq ((↑j : Int) < (↑p : Int) ∧ aBin Try.prog BinOp.rem (3 : Nat) (I (↑(qt c a j) : Int)) (I (↑c : Int)) = some (I (↑(dg c a j) : Int)) ∧ aBin Try.prog BinOp.rem (3 : Nat) (I (↑(qt c b j) : Int)) (I (↑c : Int)) = some (I (↑(dg c b j) : Int)) ∧ (↑(dg c a j) : Int) ≠ (↑(dg c b j) : Int) ∧ aIndexAddr Try.prog (71 : Nat) (AV.ptr 1 0) (I (↑(dg c a j) : Int)) = some (AV.ptr 1 (dg c a j)) ∧ aLoad Try.prog (3 : Nat) (List.drop (dg c a j) (ints (G6 (dg c a) (dg c b) j))) = some (I ((G6 (dg c a) (dg c b) j).getD (dg c a j) i0)) ∧ aBin Try.prog BinOp.add (3 : Nat) (I ((G6 (dg c a) (dg c b) j).getD (dg c a j) i0)) (I 1) = some (I ((↑(gs (dg c a) (dg c b) (dg c a j) j) : Int) + (1 : Int))) ∧ aIndexAddr Try.prog (71 : Nat) (AV.ptr 1 0) (I (↑(dg c a j) : Int)) = some (AV.ptr 1 (dg c a j)) ∧ aStore Try.prog H.nil.base (3 : Nat) (AV.ptr 1 (dg c a j)) (I ((↑(gs (dg c a) (dg c b) (dg c a j) j) : Int) + (1 : Int))) (H.mk [[I (↑p : Int), I (↑c : Int)], ints (G6 (dg c a) (dg c b) j), ints (G6 (dg c b) (dg c a) j)] [] []) = some (H.mk [[I (↑p : Int), I (↑c : Int)], ints ((G6 (dg c a) (dg c b) j).set (dg c a j) ((↑(gs (dg c a) (dg c b) (dg c a j) j) : Int) + (1 : Int))), ints (G6 (dg c b) (dg c a) j)] [] []) ∧ aIndexAddr Try.prog (71 : Nat) (AV.ptr 2 0) (I (↑(dg c b j) : Int)) = some (AV.ptr 2 (dg c b j)) ∧ aLoad Try.prog (3 : Nat) (List.drop (dg c b j) (ints (G6 (dg c b) (dg c a) j))) = some (I ((G6 (dg c b) (dg c a) j).getD (dg c b j) i0)) ∧ aBin Try.prog BinOp.add (3 : Nat) (I ((G6 (dg c b) (dg c a) j).getD (dg c b j) i0)) (I 1) = some (I ((↑(gs (dg c b) (dg c a) (dg c b j) j) : Int) + (1 : Int))) ∧ aIndexAddr Try.prog (71 : Nat) (AV.ptr 2 0) (I (↑(dg c b j) : Int)) = some (AV.ptr 2 (dg c b j)) ∧ aStore Try.prog H.nil.base (3 : Nat) (AV.ptr 2 (dg c b j)) (I ((↑(gs (dg c b) (dg c a) (dg c b j) j) : Int) + (1 : Int))) (H.mk [[I (↑p : Int), I (↑c : Int)], ints ((G6 (dg c a) (dg c b) j).set (dg c a j) ((↑(gs (dg c a) (dg c b) (dg c a j) j) : Int) + (1 : Int))), ints (G6 (dg c b) (dg c a) j)] [] []) = some (H.mk [[I (↑p : Int), I (↑c : Int)], ints ((G6 (dg c a) (dg c b) j).set (dg c a j) ((↑(gs (dg c a) (dg c b) (dg c a j) j) : Int) + (1 : Int))), ints ((G6 (dg c b) (dg c a) j).set (dg c b j) ((↑(gs (dg c b) (dg c a) (dg c b j) j) : Int) + (1 : Int)))] [] []) ∧ aBin Try.prog BinOp.quo (3 : Nat) (I (↑(qt c a j) : Int)) (I (↑c : Int)) = some (I (↑(qt c a (j + (1 : Nat))) : Int)) ∧ aBin Try.prog BinOp.quo (3 : Nat) (I (↑(qt c b j) : Int)) (I (↑c : Int)) = some (I (↑(qt c b (j + (1 : Nat))) : Int)) ∧ IntKind.i64.wrap ((↑j : Int) + (1 : Int)) = (↑j : Int) + (1 : Int) ∧ (65 : Nat) = (65 : Nat) ∧ j < p ∧ Keep (H.mk [[I (↑p : Int), I (↑c : Int)], ints ((G6 (dg c a) (dg c b) j).set (dg c a j) ((↑(gs (dg c a) (dg c b) (dg c a j) j) : Int) + (1 : Int))), ints ((G6 (dg c b) (dg c a) j).set (dg c b j) ((↑(gs (dg c b) (dg c a) (dg c b j) j) : Int) + (1 : Int)))] [] [] = H.mk [[I (↑p : Int), I (↑c : Int)], ints (G6 (dg c a) (dg c b) (j + (1 : Nat))), ints (G6 (dg c b) (dg c a) (j + (1 : Nat)))] [] [] ∧ [I (↑(qt c a (j + (1 : Nat))) : Int), I (↑(qt c b (j + (1 : Nat))) : Int), AV.ptr 0 0, I (↑(bl (dg c a) (dg c b) j) : Int), I 0, AV.ptr 1 0, AV.ptr 2 0, I (↑p : Int), I ((↑j : Int) + (1 : Int))] = [I (↑(qt c a (j + (1 : Nat))) : Int), I (↑(qt c b (j + (1 : Nat))) : Int), AV.ptr 0 0, I (↑(bl (dg c a) (dg c b) (j + (1 : Nat))) : Int), I 0, AV.ptr 1 0, AV.ptr 2 0, I (↑p : Int), I (↑(j + (1 : Nat)) : Int)])) (by kernel_rfl) ?_⟩
      refine ⟨by first | with_reducible assumption | omega | assumption, ?_⟩
      refine ⟨told_rem (by first | decide | omega) (by with_reducible assumption), ?_⟩
      refine ⟨told_rem (by first | decide | omega) (by with_reducible assumption), ?_⟩
      refine ⟨by first | with_reducible assumption | omega | assumption, ?_⟩
      refine ⟨ixa0 (n := 6) (by kernel_rfl) (by omega), ?_⟩
      refine ⟨by first | exact ld_ints (by kernel_rfl) (by kernel_rfl) (by omega) | exact ldm_ints (by kernel_rfl) (by kernel_rfl) (by first | omega | (simp; omega)), ?_⟩
      refine ⟨told_add (by with_reducible assumption), ?_⟩
      refine ⟨ixa0 (n := 6) (by kernel_rfl) (by omega), ?_⟩
      refine ⟨by first | exact st_ints (by kernel_rfl) rfl (by first | omega | (simp; omega) | (simp at *; omega)) | exact st_u64s (by kernel_rfl) rfl (by first | omega | (simp; omega) | (simp at *; omega)) | exact st_bools (by kernel_rfl) rfl (by first | omega | (simp; omega) | (simp at *; omega)), ?_⟩
      refine ⟨ixa0 (n := 6) (by kernel_rfl) (by omega), ?_⟩
      refine ⟨by first | exact ld_ints (by kernel_rfl) (by kernel_rfl) (by omega) | exact ldm_ints (by kernel_rfl) (by kernel_rfl) (by first | omega | (simp; omega)), ?_⟩
      refine ⟨told_add (by with_reducible assumption), ?_⟩
      refine ⟨ixa0 (n := 6) (by kernel_rfl) (by omega), ?_⟩
      refine ⟨by first | exact st_ints (by kernel_rfl) rfl (by first | omega | (simp; omega) | (simp at *; omega)) | exact st_u64s (by kernel_rfl) rfl (by first | omega | (simp; omega) | (simp at *; omega)) | exact st_bools (by kernel_rfl) rfl (by first | omega | (simp; omega) | (simp at *; omega)), ?_⟩
      refine ⟨told_quo (by first | decide | omega) (by with_reducible assumption), ?_⟩
      refine ⟨told_quo (by first | decide | omega) (by with_reducible assumption), ?_⟩
      refine ⟨wr _ (by omega) (by omega), ?_⟩
      refine ⟨by first | with_reducible assumption | omega | assumption, ?_⟩
      refine ⟨by first | with_reducible assumption | omega | assumption, ?_⟩
      exact ⟨by rw [k1, k2], by rw [k3]; rfl⟩
  · have hz : (p : Int) ≤ j := by omega
    have hj' : j = p := by omega
    subst hj'
    refine ⟨[Ans.o (Orc.b false)], fun u => of_eq ((↑j : Int) ≤ (↑j : Int) ∧ (65 : Nat) = (65 : Nat) ∧ hits [Out.mk Unit (AX.exit (0 : Nat)) [(6 : Nat), (7 : Nat), (8 : Nat), (9 : Nat)] (fun x => True) (fun x => [I (↑(bl (dg c a) (dg c b) j) : Int), I 0, AV.ptr 1 0, AV.ptr 2 0]) (fun x => h55 j c (dg c a) (dg c b) j) fun x => []] (AX.exit (0 : Nat)) [u (0 : Nat), I (↑(qt c a j) : Int), I (↑(qt c b j) : Int), AV.ptr 0 0, u (4 : Nat), u (5 : Nat), I (↑(bl (dg c a) (dg c b) j) : Int), I 0, AV.ptr 1 0, AV.ptr 2 0, u (10 : Nat), u (11 : Nat), u (12 : Nat), u (13 : Nat), u (14 : Nat), I (↑j : Int), I (↑j : Int), AV.bool false, u (18 : Nat), u (19 : Nat), u (20 : Nat), u (21 : Nat), u (22 : Nat), u (23 : Nat), u (24 : Nat), u (25 : Nat), u (26 : Nat), u (27 : Nat), u (28 : Nat), u (29 : Nat), u (30 : Nat), u (31 : Nat), u (32 : Nat), u (33 : Nat), u (34 : Nat), u (35 : Nat), u (36 : Nat), u (37 : Nat), u (38 : Nat), u (39 : Nat), u (40 : Nat), u (41 : Nat), u (42 : Nat), u (43 : Nat), u (44 : Nat), u (45 : Nat), u (46 : Nat), u (47 : Nat), u (48 : Nat), u (49 : Nat), u (50 : Nat), u (51 : Nat), u (52 : Nat), u (53 : Nat), u (54 : Nat), u (55 : Nat), u (56 : Nat), u (57 : Nat), u (58 : Nat), u (59 : Nat), u (60 : Nat), u (61 : Nat), u (62 : Nat), u (63 : Nat), u (64 : Nat)] (H.mk [[I (↑j : Int), I (↑c : Int)], ints (G6 (dg c a) (dg c b) j), ints (G6 (dg c b) (dg c a) j)] [] [])) (by kernel_rfl) ?_⟩
    refine ⟨by first | with_reducible assumption | omega | assumption, ?_⟩
    refine ⟨by first | with_reducible assumption | omega | assumption, ?_⟩
    exact .inl ⟨(), trivial, rfl, rfl, rfl⟩
/-- white marks of all colours up to one -/
theorem pk (x y : Nat) : pick2 false (x : Int) (y : Int) = ((min x y : Nat) : Int) := by
  simp only [pick2, Bool.false_eq_true, if_false]; split <;> omega
theorem wh_st {f g : Nat → Nat} {p : Nat} (k : Nat) (hp : p ≤ 4) (hk : k < 6) : IntKind.i64.wrap ((wh f g p k : Int) + pick2 false (gs f g k p : Int) (gs g f k p : Int)) = (wh f g p (k + 1) : Nat) ∧ (wh f g p k : Int) + pick2 false (gs f g k p : Int) (gs g f k p : Int) = (wh f g p (k + 1) : Nat) := by
  have e : wh f g p (k + 1) = wh f g p k + min (gs f g k p) (gs g f k p) := rfl
  rw [pk, e]
  have h : wh f g p k ≤ sm (fun _ => 4) k := sm_le fun i _ => by have := gs_le f g i p; omega
  have h2 : ∀ k, sm (fun _ => 4) k = 4 * k := fun k => by induction k with
    | zero => rfl
    | succ k ih => simp only [sm, ih]; omega
  rw [h2] at h
  have := gs_le f g k p
  exact ⟨wr _ (by omega) (by omega), by omega⟩
theorem ok55 : FokM Try.prog none1 55 Try.f55 := ⟨mixed, by kernel_rfl, by kernel_rfl, by kernel_rfl, by kernel_rfl⟩
theorem r55 (p : Nat) (c : Nat) (a : Nat) (b : Nat) (hp : p ≤ 4 ∧ (1 ≤ c ∧ c ≤ 6) ∧ a ≤ 1000 ∧ b ≤ 1000) : Body ⟨Try.prog, Sof (P := Try.prog) [], Pof (P := Try.prog) [], H.nil.base, 300⟩ none1 Try.f55 [.agg [I p, I c], I a, I b] .nil (.tup [I (bl (dg c a) (dg c b) p : Nat), I (wh (dg c a) (dg c b) p 6 : Nat)], .nil) := by
  obtain ⟨h1, h2, h3, h4⟩ := hp
  have w0 : IntKind.i64.wrap ((0 : Int) + pick2 false ((gs (dg c a) (dg c b) 0 p : Nat) : Int) ((gs (dg c b) (dg c a) 0 p : Nat) : Int)) = ((wh (dg c a) (dg c b) p 1 : Nat) : Int) := (wh_st (f := dg c a) (g := dg c b) 0 h1 (by decide)).1
  have ev0 : (0 : Int) + pick2 false ((gs (dg c a) (dg c b) 0 p : Nat) : Int) ((gs (dg c b) (dg c a) 0 p : Nat) : Int) = ((wh (dg c a) (dg c b) p 1 : Nat) : Int) := (wh_st (f := dg c a) (g := dg c b) 0 h1 (by decide)).2
  have w1 : IntKind.i64.wrap (((wh (dg c a) (dg c b) p 1 : Nat) : Int) + pick2 false ((gs (dg c a) (dg c b) 1 p : Nat) : Int) ((gs (dg c b) (dg c a) 1 p : Nat) : Int)) = ((wh (dg c a) (dg c b) p 2 : Nat) : Int) := (wh_st (f := dg c a) (g := dg c b) 1 h1 (by decide)).1
  have ev1 : ((wh (dg c a) (dg c b) p 1 : Nat) : Int) + pick2 false ((gs (dg c a) (dg c b) 1 p : Nat) : Int) ((gs (dg c b) (dg c a) 1 p : Nat) : Int) = ((wh (dg c a) (dg c b) p 2 : Nat) : Int) := (wh_st (f := dg c a) (g := dg c b) 1 h1 (by decide)).2
  have w2 : IntKind.i64.wrap (((wh (dg c a) (dg c b) p 2 : Nat) : Int) + pick2 false ((gs (dg c a) (dg c b) 2 p : Nat) : Int) ((gs (dg c b) (dg c a) 2 p : Nat) : Int)) = ((wh (dg c a) (dg c b) p 3 : Nat) : Int) := (wh_st (f := dg c a) (g := dg c b) 2 h1 (by decide)).1
  have ev2 : ((wh (dg c a) (dg c b) p 2 : Nat) : Int) + pick2 false ((gs (dg c a) (dg c b) 2 p : Nat) : Int) ((gs (dg c b) (dg c a) 2 p : Nat) : Int) = ((wh (dg c a) (dg c b) p 3 : Nat) : Int) := (wh_st (f := dg c a) (g := dg c b) 2 h1 (by decide)).2
  have w3 : IntKind.i64.wrap (((wh (dg c a) (dg c b) p 3 : Nat) : Int) + pick2 false ((gs (dg c a) (dg c b) 3 p : Nat) : Int) ((gs (dg c b) (dg c a) 3 p : Nat) : Int)) = ((wh (dg c a) (dg c b) p 4 : Nat) : Int) := (wh_st (f := dg c a) (g := dg c b) 3 h1 (by decide)).1
  have ev3 : ((wh (dg c a) (dg c b) p 3 : Nat) : Int) + pick2 false ((gs (dg c a) (dg c b) 3 p : Nat) : Int) ((gs (dg c b) (dg c a) 3 p : Nat) : Int) = ((wh (dg c a) (dg c b) p 4 : Nat) : Int) := (wh_st (f := dg c a) (g := dg c b) 3 h1 (by decide)).2
  have w4 : IntKind.i64.wrap (((wh (dg c a) (dg c b) p 4 : Nat) : Int) + pick2 false ((gs (dg c a) (dg c b) 4 p : Nat) : Int) ((gs (dg c b) (dg c a) 4 p : Nat) : Int)) = ((wh (dg c a) (dg c b) p 5 : Nat) : Int) := (wh_st (f := dg c a) (g := dg c b) 4 h1 (by decide)).1
  have ev4 : ((wh (dg c a) (dg c b) p 4 : Nat) : Int) + pick2 false ((gs (dg c a) (dg c b) 4 p : Nat) : Int) ((gs (dg c b) (dg c a) 4 p : Nat) : Int) = ((wh (dg c a) (dg c b) p 5 : Nat) : Int) := (wh_st (f := dg c a) (g := dg c b) 4 h1 (by decide)).2
  have w5 : IntKind.i64.wrap (((wh (dg c a) (dg c b) p 5 : Nat) : Int) + pick2 false ((gs (dg c a) (dg c b) 5 p : Nat) : Int) ((gs (dg c b) (dg c a) 5 p : Nat) : Int)) = ((wh (dg c a) (dg c b) p 6 : Nat) : Int) := (wh_st (f := dg c a) (g := dg c b) 5 h1 (by decide)).1
  have ev5 : ((wh (dg c a) (dg c b) p 5 : Nat) : Int) + pick2 false ((gs (dg c a) (dg c b) 5 p : Nat) : Int) ((gs (dg c b) (dg c a) 5 p : Nat) : Int) = ((wh (dg c a) (dg c b) p 6 : Nat) : Int) := (wh_st (f := dg c a) (g := dg c b) 5 h1 (by decide)).2
  refine body_s ([Ans.loop [(1 : Nat), (2 : Nat), (3 : Nat), (6 : Nat), (7 : Nat), (8 : Nat), (9 : Nat), (15 : Nat), (16 : Nat)] [Out.mk Unit (AX.exit (0 : Nat)) [(6 : Nat), (7 : Nat), (8 : Nat), (9 : Nat)] (fun x => True) (fun x => [I (↑(bl (dg c a) (dg c b) p) : Int), I 0, AV.ptr 1 0, AV.ptr 2 0]) (fun x => h55 p c (dg c a) (dg c b) p) fun y => [Ans.o Orc.dflt, Ans.o (Orc.val 61 (I (↑(wh (dg c a) (dg c b) p (1 : Nat)) : Int)) H.nil), Ans.o Orc.dflt, Ans.o (Orc.val 61 (I (↑(wh (dg c a) (dg c b) p (2 : Nat)) : Int)) H.nil), Ans.o Orc.dflt, Ans.o (Orc.val 61 (I (↑(wh (dg c a) (dg c b) p (3 : Nat)) : Int)) H.nil), Ans.o Orc.dflt, Ans.o (Orc.val 61 (I (↑(wh (dg c a) (dg c b) p (4 : Nat)) : Int)) H.nil), Ans.o Orc.dflt, Ans.o (Orc.val 61 (I (↑(wh (dg c a) (dg c b) p (5 : Nat)) : Int)) H.nil), Ans.o Orc.dflt, Ans.o (Orc.val 61 (I (↑(wh (dg c a) (dg c b) p (6 : Nat)) : Int)) H.nil), Ans.o Orc.dflt]]]) (LoopS (Env.mk Try.prog (Sof (P := Try.prog) []) (Pof (P := Try.prog) []) H.nil.base (300 : Nat)) (loopAt Try.f55 (0 : Nat)) (65 : Nat) [(1 : Nat), (2 : Nat), (3 : Nat), (6 : Nat), (7 : Nat), (8 : Nat), (9 : Nat), (15 : Nat), (16 : Nat)] [I (↑a : Int), I (↑b : Int), AV.ptr 0 0, I 0, I 0, AV.ptr 1 0, AV.ptr 2 0, I (↑p : Int), I 0] (H.mk [[I (↑p : Int), I (↑c : Int)], [I 0, I 0, I 0, I 0, I 0, I 0], [I 0, I 0, I 0, I 0, I 0, I 0]] [] []) [Out.mk Unit (AX.exit (0 : Nat)) [(6 : Nat), (7 : Nat), (8 : Nat), (9 : Nat)] (fun x => True) (fun x => [I (↑(bl (dg c a) (dg c b) p) : Int), I 0, AV.ptr 1 0, AV.ptr 2 0]) (fun x => h55 p c (dg c a) (dg c b) p) fun y => [Ans.o Orc.dflt, Ans.o (Orc.val 61 (I (↑(wh (dg c a) (dg c b) p (1 : Nat)) : Int)) H.nil), Ans.o Orc.dflt, Ans.o (Orc.val 61 (I (↑(wh (dg c a) (dg c b) p (2 : Nat)) : Int)) H.nil), Ans.o Orc.dflt, Ans.o (Orc.val 61 (I (↑(wh (dg c a) (dg c b) p (3 : Nat)) : Int)) H.nil), Ans.o Orc.dflt, Ans.o (Orc.val 61 (I (↑(wh (dg c a) (dg c b) p (4 : Nat)) : Int)) H.nil), Ans.o Orc.dflt, Ans.o (Orc.val 61 (I (↑(wh (dg c a) (dg c b) p (5 : Nat)) : Int)) H.nil), Ans.o Orc.dflt, Ans.o (Orc.val 61 (I (↑(wh (dg c a) (dg c b) p (6 : Nat)) : Int)) H.nil), Ans.o Orc.dflt]] ∧ (∀ (y : Unit), True → ∀ (u : Nat → AV), aBin Try.prog BinOp.add (3 : Nat) (I 0) (I (pick2 false (↑(gs (dg c a) (dg c b) (nat_lit 0) p) : Int) (↑(gs (dg c b) (dg c a) (nat_lit 0) p) : Int))) = some (I (↑(wh (dg c a) (dg c b) p (1 : Nat)) : Int)) ∧ IntKind.i64.wrap (1 : Int) = (1 : Int) ∧ aBin Try.prog BinOp.add (3 : Nat) (I (↑(wh (dg c a) (dg c b) p (1 : Nat)) : Int)) (I (pick2 false (↑(gs (dg c a) (dg c b) (nat_lit 1) p) : Int) (↑(gs (dg c b) (dg c a) (nat_lit 1) p) : Int))) = some (I (↑(wh (dg c a) (dg c b) p (2 : Nat)) : Int)) ∧ IntKind.i64.wrap (2 : Int) = (2 : Int) ∧ aBin Try.prog BinOp.add (3 : Nat) (I (↑(wh (dg c a) (dg c b) p (2 : Nat)) : Int)) (I (pick2 false (↑(gs (dg c a) (dg c b) (nat_lit 2) p) : Int) (↑(gs (dg c b) (dg c a) (nat_lit 2) p) : Int))) = some (I (↑(wh (dg c a) (dg c b) p (3 : Nat)) : Int)) ∧ IntKind.i64.wrap (3 : Int) = (3 : Int) ∧ aBin Try.prog BinOp.add (3 : Nat) (I (↑(wh (dg c a) (dg c b) p (3 : Nat)) : Int)) (I (pick2 false (↑(gs (dg c a) (dg c b) (nat_lit 3) p) : Int) (↑(gs (dg c b) (dg c a) (nat_lit 3) p) : Int))) = some (I (↑(wh (dg c a) (dg c b) p (4 : Nat)) : Int)) ∧ IntKind.i64.wrap (4 : Int) = (4 : Int) ∧ aBin Try.prog BinOp.add (3 : Nat) (I (↑(wh (dg c a) (dg c b) p (4 : Nat)) : Int)) (I (pick2 false (↑(gs (dg c a) (dg c b) (nat_lit 4) p) : Int) (↑(gs (dg c b) (dg c a) (nat_lit 4) p) : Int))) = some (I (↑(wh (dg c a) (dg c b) p (5 : Nat)) : Int)) ∧ IntKind.i64.wrap (5 : Int) = (5 : Int) ∧ aBin Try.prog BinOp.add (3 : Nat) (I (↑(wh (dg c a) (dg c b) p (5 : Nat)) : Int)) (I (pick2 false (↑(gs (dg c a) (dg c b) (nat_lit 5) p) : Int) (↑(gs (dg c b) (dg c a) (nat_lit 5) p) : Int))) = some (I (↑(wh (dg c a) (dg c b) p (6 : Nat)) : Int)) ∧ IntKind.i64.wrap (6 : Int) = (6 : Int) ∧ (AV.tup [I (↑(bl (dg c a) (dg c b) p) : Int), I (↑(wh (dg c a) (dg c b) p (6 : Nat)) : Int)], H.mk [] [] []) = (AV.tup [I (↑(bl (dg c a) (dg c b) p) : Int), I (↑(wh (dg c a) (dg c b) p (6 : Nat)) : Int)], H.mk [] [] [])) ∧ True) (by kernel_rfl) ?_
  refine ⟨lp55 p c a b h1 h2 h3 h4, ?_⟩
  refine And.intro ?_ ?_
  · skip
    intro y
    intro w1
    intro u
    refine ⟨told_add (by with_reducible assumption), ?_⟩
    refine ⟨wr _ (by omega) (by omega), ?_⟩
    refine ⟨told_add (by with_reducible assumption), ?_⟩
    refine ⟨wr _ (by omega) (by omega), ?_⟩
    refine ⟨told_add (by with_reducible assumption), ?_⟩
    refine ⟨wr _ (by omega) (by omega), ?_⟩
    refine ⟨told_add (by with_reducible assumption), ?_⟩
    refine ⟨wr _ (by omega) (by omega), ?_⟩
    refine ⟨told_add (by with_reducible assumption), ?_⟩
    refine ⟨wr _ (by omega) (by omega), ?_⟩
    refine ⟨told_add (by with_reducible assumption), ?_⟩
    refine ⟨wr _ (by omega) (by omega), ?_⟩
    rfl
  · skip
    trivial
noncomputable def c55 : PCtr Try.prog := sctr ok55 (X := Nat × Nat × Nat × Nat) (fun x => [.agg [I x.1, I x.2.1], I x.2.2.1, I x.2.2.2]) (fun x => x.1 ≤ 4 ∧ (1 ≤ x.2.1 ∧ x.2.1 ≤ 6) ∧ x.2.2.1 ≤ 1000 ∧ x.2.2.2 ≤ 1000) (fun x => .tup [I (bl (dg x.2.1 x.2.2.1) (dg x.2.1 x.2.2.2) x.1 : Nat), I (wh (dg x.2.1 x.2.2.1) (dg x.2.1 x.2.2.2) x.1 6 : Nat)]) (by intro x y e _ _; simp [Int.natCast_inj] at e; simp [e]) (fun x => by simp [AV.bnds, AV.bnd, AV.wk, rm_wk_bnd]) (fun x => by first | rfl | (simp [AV.bnd, rm_wk_bnd]; done)  | (simp [AV.bnd, AV.bnds, rm_wk_bnd]; done) | simp [AV.bnd, AV.bnds, Room.bnd, rm_wk_bnd]) (fun x hx => ⟨_, _, _, .nil, r55 (x.1) (x.2.1) (x.2.2.1) (x.2.2.2) hx⟩)
end Go.Proofs.Gss

