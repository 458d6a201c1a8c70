/- Layer 6: replies, by the program and the reference. -/
import Derived.Test.YtaobnlpfaeecnaaGsG
import Derived.KernelRfl
set_option linter.unusedSimpArgs false
set_option linter.unusedVariables false
set_option linter.unnecessarySimpa false
set_option maxHeartbeats 4000000
set_option maxRecDepth 100000
namespace Go.Proofs.Gss
open Go Go.VM

/-- a list by its elements -/
def bld (n : Nat) (F : Nat → Int) : List Int := (List.range n).map F
@[simp] theorem bld_len (n : Nat) (F : Nat → Int) : (bld n F).length = n := by simp [bld]
theorem bld_get {n : Nat} (F : Nat → Int) {k : Nat} (h : k < n) : ia (bld n F) k = F k := by
  simp [ia, bld, List.getD_eq_getElem?_getD, h]
theorem bld_congr {n : Nat} {F G : Nat → Int} (h : ∀ i, i < n → F i = G i) : bld n F = bld n G :=
  List.map_congr_left fun i hi => h i (List.mem_range.1 hi)
theorem bld_set {n : Nat} (F : Nat → Int) {k : Nat} (v : Int) : (bld n F).set k v = bld n fun i => if i = k then v else F i := by
  apply List.ext_getElem
  · simp
  · intro i h1 h2
    simp only [List.getElem_set, bld, List.getElem_map, List.getElem_range]
    by_cases e : k = i
    · rw [if_pos e, if_pos e.symm]
    · rw [if_neg e, if_neg (fun h => e h.symm)]
theorem bld_rep (n : Nat) : bld n (fun _ => 0) = List.replicate n i0 := by
  simp [bld, List.map_const']
/-- what comes over from the element before -/
def pr (y : Bool) (x q : List Int) : Nat → Int
  | 0 => 0
  | i + 1 => oth y (ia x i) (ia q i)
def fi (y : Bool) (x q : List Int) (i : Nat) : Int := pr y x q i + inn y (ia x i) (ia q i)
def Bf (y : Bool) (x q : List Int) (j i : Nat) : Int := if i < j then fi y x q i else if i = j then pr y x q i else 0
/-- the state after a reply -/
def afV (y : Bool) (x q : List Int) : List Int := bld x.length (fi y x q)
@[simp] theorem afV_len (y : Bool) (x q : List Int) : (afV y x q).length = x.length := by simp [afV]
theorem Bf_0 (y : Bool) (x q : List Int) (n : Nat) : bld n (Bf y x q 0) = List.replicate n i0 := by
  rw [← bld_rep]
  refine bld_congr fun i _ => ?_
  simp only [Bf]
  by_cases h : i = 0
  · subst h; rfl
  · rw [if_neg (by omega), if_neg h]
theorem Bf_n (y : Bool) (x q : List Int) : bld x.length (Bf y x q x.length) = afV y x q :=
  bld_congr fun i hi => by simp only [Bf, if_pos hi]
theorem Bf_st {y : Bool} {x q : List Int} {j : Nat} : ((bld x.length (Bf y x q j)).set j (fi y x q j)).set (j + 1) (pr y x q (j + 1)) = bld x.length (Bf y x q (j + 1)) := by
  rw [bld_set, bld_set]
  refine bld_congr fun i _ => ?_
  simp only [Bf]
  by_cases h1 : i = j + 1
  · subst h1; rw [if_pos rfl, if_neg (by omega), if_pos rfl]
  · rw [if_neg h1]
    by_cases h2 : i = j
    · subst h2; rw [if_pos rfl, if_pos (by omega)]
    · rw [if_neg h2]
      by_cases h3 : i < j
      · rw [if_pos h3, if_pos (by omega)]
      · rw [if_neg h3, if_neg h2, if_neg (by omega), if_neg h1]
theorem Bf_sl {y : Bool} {x q : List Int} {j : Nat} (h : j + 1 = x.length) : (bld x.length (Bf y x q j)).set j (fi y x q j) = bld x.length (Bf y x q (j + 1)) := by
  rw [bld_set]
  refine bld_congr fun i hi => ?_
  simp only [Bf]
  by_cases h2 : i = j
  · subst h2; rw [if_pos rfl, if_pos (by omega)]
  · rw [if_neg h2, if_pos (by omega), if_pos (by omega)]
theorem Bf_j (y : Bool) (x q : List Int) {j : Nat} (h : j < x.length) : ia (bld x.length (Bf y x q j)) j = pr y x q j := by
  rw [bld_get _ h]; simp [Bf]
theorem Bf_j1 (y : Bool) (x q : List Int) {j : Nat} (v : Int) (h : j + 1 < x.length) : ia ((bld x.length (Bf y x q j)).set j v) (j + 1) = 0 := by
  rw [bld_set, bld_get _ h]; simp only [Bf]; rw [if_neg (by omega), if_neg (by omega), if_neg (by omega)]
theorem inn_bd {y : Bool} {x q : Int} (h : bq x q) : 0 ≤ inn y x q ∧ inn y x q ≤ 200 := by
  simp only [inn]; split <;> omega
theorem pr_bd {y : Bool} {x q : List Int} (h : ∀ i, i < x.length → bq (ia x i) (ia q i)) : ∀ {i : Nat}, i ≤ x.length → 0 ≤ pr y x q i ∧ pr y x q i ≤ 200
  | 0, _ => by simp [pr]
  | i + 1, hi => inn_bd (h i (by omega))
abbrev o40 (y : Bool) (x q : List Int) : List Out :=
  [.mk Unit (.exit 0) [7] (fun _ => True) (fun _ => [.msl 0 0 x.length x.length 1]) (fun _ => ⟨[ints (afV y x q)], [], []⟩) (fun _ => [])]
theorem simp40 : allSimpleM none1 (loopAt Try.f40 0) = true := by kernel_rfl
theorem lp40 (y : Bool) (x q : List Int) (r r' : Room) (hl : x.length ≤ 4) (hr : rok x r) (hr' : rok q r') (he : q.length = x.length) (hb : ∀ i, i < x.length → bq (ia x i) (ia q i)) :
    LoopS (En6 []) (loopAt Try.f40 0) 58 [0, 1, 2, 7, 14, 15, 16] [ls x r, ls q r', .bool y, .msl 0 0 x.length x.length 1, ls x r, I x.length, I 0] ⟨[ints (List.replicate x.length i0)], [], []⟩ (o40 y x q) := by
  have hR : Rests (En6 []) none1 := rests mixed .nil
  rw [← Bf_0 y x q]
  refine loop_s hR simp40 none (by intro _ h; cases h) (fun j vs h => h = ⟨[ints (bld x.length (Bf y x q j))], [], []⟩ ∧ vs = [ls x r, ls q r', .bool y, .msl 0 0 x.length x.length 1, ls x r, I x.length, I j]) x.length ⟨rfl, rfl⟩ (by intro _ h; cases h) ?_
  rintro j vs h hj ⟨rfl, rfl⟩
  by_cases hz : (j : Int) < x.length
  · have hz' : j < x.length := by omega
    have z1 := rok_idx hr hz'
    have z2 := rok_idx hr' (show j < q.length by omega)
    have hbj := hb j hz'
    have hbj' : (0 ≤ q.getD j i0 ∧ q.getD j i0 ≤ x.getD j i0) ∧ x.getD j i0 ≤ 200 := hbj
    have b0 := pr_bd (y := y) hb (i := j) (by omega)
    have b1 := inn_bd (y := y) hbj
    have b2 := pr_bd (y := y) hb (i := j + 1) (by omega)
    have ev9 : (j : Int) + 1 = ((j + 1 : Nat) : Int) := by omega
    have v9 : IntKind.i64.wrap ((j : Int) + 1) = ((j + 1 : Nat) : Int) := by rw [ev9]; exact wr _ (by omega) (by omega)
    have e0 : ia (bld x.length (Bf y x q j)) j + inn y (ia x j) (ia q j) = fi y x q j := by rw [Bf_j y x q hz']; rfl
    have v0 : IntKind.i64.wrap (ia (bld x.length (Bf y x q j)) j + inn y (ia x j) (ia q j)) = fi y x q j := by rw [e0]; exact wr _ (by simp only [fi]; omega) (by simp only [fi]; omega)
    by_cases hs : ((j + 1 : Nat) : Int) < x.length
    · have hs' : j + 1 < x.length := by omega
      have e1 : ia ((bld x.length (Bf y x q j)).set j (fi y x q j)) (j + 1) + oth y (ia x j) (ia q j) = pr y x q (j + 1) := by rw [Bf_j1 y x q _ hs', Int.zero_add]; rfl
      have v1 : IntKind.i64.wrap (ia ((bld x.length (Bf y x q j)).set j (fi y x q j)) (j + 1) + oth y (ia x j) (ia q j)) = pr y x q (j + 1) := by rw [e1]; exact wr _ (by omega) (by omega)
      have hk := Bf_st (y := y) (x := x) (q := q) (j := j)
      cases y
      · have ev0 : ia (bld x.length (Bf false x q j)) j + (ia x j - ia q j) = fi false x q j := e0
        have ev1 : ia ((bld x.length (Bf false x q j)).set j (fi false x q j)) (j + 1) + ia q j = pr false x q (j + 1) := e1
        refine ⟨[Ans.o (Orc.b true), Ans.o (Orc.val 21 (AV.cptr (ints (List.drop j q))) H.nil), Ans.o (Orc.val 22 (I (q.getD j i0)) H.nil), Ans.o (Orc.val 25 (AV.cptr (ints (List.drop j x))) H.nil), Ans.o (Orc.val 26 (I (x.getD j i0)) H.nil), Ans.o (Orc.val 29 (AV.cptr (ints (List.drop j q))) H.nil), Ans.o (Orc.val 30 (I (q.getD j i0)) H.nil), Ans.o (Orc.val 38 (AV.ptr 0 j) H.nil), Ans.o (Orc.val 39 (I ((bld x.length (Bf false x q j)).getD j i0)) H.nil), Ans.o (Orc.val 41 (I (fi false x q j)) H.nil), Ans.o (Orc.val 42 (AV.ptr 0 j) H.nil), Ans.o (Orc.val 9999 (AV.tup []) (H.mk [ints ((bld x.length (Bf false x q j)).set j (fi false x q j))] [] [])), Ans.o (Orc.val 44 (I (↑(j + (1 : Nat)) : Int)) H.nil), Ans.o (Orc.b true), Ans.o (Orc.val 50 (I (↑(j + (1 : Nat)) : Int)) H.nil), Ans.o (Orc.val 51 (AV.ptr 0 (j + (1 : Nat))) H.nil), Ans.o (Orc.val 52 (I (((bld x.length (Bf false x q j)).set j (fi false x q j)).getD (j + (1 : Nat)) i0)) H.nil), Ans.o (Orc.val 54 (I (pr false x q (j + (1 : Nat)))) H.nil), Ans.o (Orc.val 55 (AV.ptr 0 (j + (1 : Nat))) H.nil), Ans.o (Orc.val 9999 (AV.tup []) (H.mk [ints (((bld x.length (Bf false x q j)).set j (fi false x q j)).set (j + (1 : Nat)) (pr false x q (j + (1 : Nat))))] [] [])), Ans.o (Orc.val 56 (I (↑(j + (1 : Nat)) : Int)) H.nil)], fun u => of_eq ((↑j : Int) < (↑x.length : Int) ∧ aIndexAddr Try.prog (31 : Nat) (AV.sl (ints q) q.length r') (I (↑j : Int)) = some (AV.cptr (ints (List.drop j q))) ∧ aLoad Try.prog (3 : Nat) (ints (List.drop j q)) = some (I (q.getD j i0)) ∧ aIndexAddr Try.prog (31 : Nat) (AV.sl (ints x) x.length r) (I (↑j : Int)) = some (AV.cptr (ints (List.drop j x))) ∧ aLoad Try.prog (3 : Nat) (ints (List.drop j x)) = some (I (x.getD j i0)) ∧ aIndexAddr Try.prog (31 : Nat) (AV.sl (ints q) q.length r') (I (↑j : Int)) = some (AV.cptr (ints (List.drop j q))) ∧ aLoad Try.prog (3 : Nat) (ints (List.drop j q)) = some (I (q.getD j i0)) ∧ IntKind.i64.wrap (x.getD j i0 - q.getD j i0) = x.getD j i0 - q.getD j i0 ∧ aIndexAddr Try.prog (31 : Nat) (AV.msl 0 0 x.length x.length (1 : Nat)) (I (↑j : Int)) = some (AV.ptr 0 j) ∧ aLoad Try.prog (3 : Nat) (List.drop j (ints (bld x.length (Bf false x q j)))) = some (I ((bld x.length (Bf false x q j)).getD j i0)) ∧ aBin Try.prog BinOp.add (3 : Nat) (I ((bld x.length (Bf false x q j)).getD j i0)) (I (x.getD j i0 - q.getD j i0)) = some (I (fi false x q j)) ∧ aIndexAddr Try.prog (31 : Nat) (AV.msl 0 0 x.length x.length (1 : Nat)) (I (↑j : Int)) = some (AV.ptr 0 j) ∧ aStore Try.prog H.nil.base (3 : Nat) (AV.ptr 0 j) (I (fi false x q j)) (H.mk [ints (bld x.length (Bf false x q j))] [] []) = some (H.mk [ints ((bld x.length (Bf false x q j)).set j (fi false x q j))] [] []) ∧ aBin Try.prog BinOp.add (3 : Nat) (I (↑j : Int)) (I 1) = some (I (↑(j + (1 : Nat)) : Int)) ∧ (↑(j + (1 : Nat)) : Int) < (↑x.length : Int) ∧ aBin Try.prog BinOp.add (3 : Nat) (I (↑j : Int)) (I 1) = some (I (↑(j + (1 : Nat)) : Int)) ∧ aIndexAddr Try.prog (31 : Nat) (AV.msl 0 0 x.length x.length (1 : Nat)) (I (↑(j + (1 : Nat)) : Int)) = some (AV.ptr 0 (j + (1 : Nat))) ∧ aLoad Try.prog (3 : Nat) (List.drop (j + (1 : Nat)) (ints ((bld x.length (Bf false x q j)).set j (fi false x q j)))) = some (I (((bld x.length (Bf false x q j)).set j (fi false x q j)).getD (j + (1 : Nat)) i0)) ∧ aBin Try.prog BinOp.add (3 : Nat) (I (((bld x.length (Bf false x q j)).set j (fi false x q j)).getD (j + (1 : Nat)) i0)) (I (q.getD j i0)) = some (I (pr false x q (j + (1 : Nat)))) ∧ aIndexAddr Try.prog (31 : Nat) (AV.msl 0 0 x.length x.length (1 : Nat)) (I (↑(j + (1 : Nat)) : Int)) = some (AV.ptr 0 (j + (1 : Nat))) ∧ aStore Try.prog H.nil.base (3 : Nat) (AV.ptr 0 (j + (1 : Nat))) (I (pr false x q (j + (1 : Nat)))) (H.mk [ints ((bld x.length (Bf false x q j)).set j (fi false x q j))] [] []) = some (H.mk [ints (((bld x.length (Bf false x q j)).set j (fi false x q j)).set (j + (1 : Nat)) (pr false x q (j + (1 : Nat))))] [] []) ∧ aBin Try.prog BinOp.add (3 : Nat) (I (↑j : Int)) (I 1) = some (I (↑(j + (1 : Nat)) : Int)) ∧ (58 : Nat) = (58 : Nat) ∧ j < x.length ∧ Keep (H.mk [ints (((bld x.length (Bf false x q j)).set j (fi false x q j)).set (j + (1 : Nat)) (pr false x q (j + (1 : Nat))))] [] [] = H.mk [ints (bld x.length (Bf false x q (j + (1 : Nat))))] [] [] ∧ [AV.sl (ints x) x.length r, AV.sl (ints q) q.length r', AV.bool false, AV.msl 0 0 x.length x.length (1 : Nat), AV.sl (ints x) x.length r, I (↑x.length : Int), I (↑(j + (1 : Nat)) : Int)] = [AV.sl (ints x) x.length r, AV.sl (ints q) q.length r', AV.bool false, AV.msl 0 0 x.length x.length (1 : Nat), AV.sl (ints x) x.length r, I (↑x.length : Int), I (↑(j + (1 : Nat)) : Int)])) (by kernel_rfl) ?_⟩
        refine ⟨by first | with_reducible assumption | omega | assumption, ?_⟩
        refine ⟨by first | exact ix_ints (by kernel_rfl) hz' z1 | exact ix_ints (by kernel_rfl) (by omega) z2, ?_⟩
        refine ⟨by first | exact ld_ints (by kernel_rfl) (by kernel_rfl) (by first | omega | (simp; omega)) | exact ldm_ints (by kernel_rfl) (by kernel_rfl) (by first | omega | (simp; omega)), ?_⟩
        refine ⟨by first | exact ix_ints (by kernel_rfl) hz' z1 | exact ix_ints (by kernel_rfl) (by omega) z2, ?_⟩
        refine ⟨by first | exact ld_ints (by kernel_rfl) (by kernel_rfl) (by first | omega | (simp; omega)) | exact ldm_ints (by kernel_rfl) (by kernel_rfl) (by first | omega | (simp; omega)), ?_⟩
        refine ⟨by first | exact ix_ints (by kernel_rfl) hz' z1 | exact ix_ints (by kernel_rfl) (by omega) z2, ?_⟩
        refine ⟨by first | exact ld_ints (by kernel_rfl) (by kernel_rfl) (by first | omega | (simp; omega)) | exact ldm_ints (by kernel_rfl) (by kernel_rfl) (by first | omega | (simp; omega)), ?_⟩
        refine ⟨wr _ (by omega) (by omega), ?_⟩
        refine ⟨ixm0 (by kernel_rfl) (by omega), ?_⟩
        refine ⟨by first | exact ld_ints (by kernel_rfl) (by kernel_rfl) (by first | omega | (simp; omega)) | exact ldm_ints (by kernel_rfl) (by kernel_rfl) (by first | omega | (simp; omega)), ?_⟩
        refine ⟨by first | exact told_add v0 | exact told_add v1 | exact told_add v9, ?_⟩
        refine ⟨ixm0 (by kernel_rfl) (by omega), ?_⟩
        refine ⟨by first | exact st_ints (by kernel_rfl) rfl (by first | omega | (simp; omega) | (simp at *; omega)) | exact st_u64s (by kernel_rfl) rfl (by first | omega | (simp; omega) | (simp at *; omega)) | exact st_bools (by kernel_rfl) rfl (by first | omega | (simp; omega) | (simp at *; omega)), ?_⟩
        refine ⟨by first | exact told_add v0 | exact told_add v1 | exact told_add v9, ?_⟩
        refine ⟨by first | with_reducible assumption | omega | assumption, ?_⟩
        refine ⟨by first | exact told_add v0 | exact told_add v1 | exact told_add v9, ?_⟩
        refine ⟨ixm0 (by kernel_rfl) (by omega), ?_⟩
        refine ⟨by first | exact ld_ints (by kernel_rfl) (by kernel_rfl) (by first | omega | (simp; omega)) | exact ldm_ints (by kernel_rfl) (by kernel_rfl) (by first | omega | (simp; omega)), ?_⟩
        refine ⟨by first | exact told_add v0 | exact told_add v1 | exact told_add v9, ?_⟩
        refine ⟨ixm0 (by kernel_rfl) (by omega), ?_⟩
        refine ⟨by first | exact st_ints (by kernel_rfl) rfl (by first | omega | (simp; omega) | (simp at *; omega)) | exact st_u64s (by kernel_rfl) rfl (by first | omega | (simp; omega) | (simp at *; omega)) | exact st_bools (by kernel_rfl) rfl (by first | omega | (simp; omega) | (simp at *; omega)), ?_⟩
        refine ⟨by first | exact told_add v0 | exact told_add v1 | exact told_add v9, ?_⟩
        refine ⟨by first | with_reducible assumption | omega | assumption, ?_⟩
        refine ⟨by first | with_reducible assumption | omega | assumption, ?_⟩
        exact ⟨by rw [hk], rfl⟩
      · have ev0 : ia (bld x.length (Bf true x q j)) j + ia q j = fi true x q j := e0
        have ev1 : ia ((bld x.length (Bf true x q j)).set j (fi true x q j)) (j + 1) + (ia x j - ia q j) = pr true x q (j + 1) := e1
        refine ⟨[Ans.o (Orc.b true), Ans.o (Orc.val 21 (AV.cptr (ints (List.drop j q))) H.nil), Ans.o (Orc.val 22 (I (q.getD j i0)) H.nil), Ans.o (Orc.val 25 (AV.cptr (ints (List.drop j x))) H.nil), Ans.o (Orc.val 26 (I (x.getD j i0)) H.nil), Ans.o (Orc.val 29 (AV.cptr (ints (List.drop j q))) H.nil), Ans.o (Orc.val 30 (I (q.getD j i0)) H.nil), Ans.o (Orc.val 38 (AV.ptr 0 j) H.nil), Ans.o (Orc.val 39 (I ((bld x.length (Bf true x q j)).getD j i0)) H.nil), Ans.o (Orc.val 41 (I (fi true x q j)) H.nil), Ans.o (Orc.val 42 (AV.ptr 0 j) H.nil), Ans.o (Orc.val 9999 (AV.tup []) (H.mk [ints ((bld x.length (Bf true x q j)).set j (fi true x q j))] [] [])), Ans.o (Orc.val 44 (I (↑(j + (1 : Nat)) : Int)) H.nil), Ans.o (Orc.b true), Ans.o (Orc.val 50 (I (↑(j + (1 : Nat)) : Int)) H.nil), Ans.o (Orc.val 51 (AV.ptr 0 (j + (1 : Nat))) H.nil), Ans.o (Orc.val 52 (I (((bld x.length (Bf true x q j)).set j (fi true x q j)).getD (j + (1 : Nat)) i0)) H.nil), Ans.o (Orc.val 54 (I (pr true x q (j + (1 : Nat)))) H.nil), Ans.o (Orc.val 55 (AV.ptr 0 (j + (1 : Nat))) H.nil), Ans.o (Orc.val 9999 (AV.tup []) (H.mk [ints (((bld x.length (Bf true x q j)).set j (fi true x q j)).set (j + (1 : Nat)) (pr true x q (j + (1 : Nat))))] [] [])), Ans.o (Orc.val 56 (I (↑(j + (1 : Nat)) : Int)) H.nil)], fun u => of_eq ((↑j : Int) < (↑x.length : Int) ∧ aIndexAddr Try.prog (31 : Nat) (AV.sl (ints q) q.length r') (I (↑j : Int)) = some (AV.cptr (ints (List.drop j q))) ∧ aLoad Try.prog (3 : Nat) (ints (List.drop j q)) = some (I (q.getD j i0)) ∧ aIndexAddr Try.prog (31 : Nat) (AV.sl (ints x) x.length r) (I (↑j : Int)) = some (AV.cptr (ints (List.drop j x))) ∧ aLoad Try.prog (3 : Nat) (ints (List.drop j x)) = some (I (x.getD j i0)) ∧ aIndexAddr Try.prog (31 : Nat) (AV.sl (ints q) q.length r') (I (↑j : Int)) = some (AV.cptr (ints (List.drop j q))) ∧ aLoad Try.prog (3 : Nat) (ints (List.drop j q)) = some (I (q.getD j i0)) ∧ IntKind.i64.wrap (x.getD j i0 - q.getD j i0) = x.getD j i0 - q.getD j i0 ∧ aIndexAddr Try.prog (31 : Nat) (AV.msl 0 0 x.length x.length (1 : Nat)) (I (↑j : Int)) = some (AV.ptr 0 j) ∧ aLoad Try.prog (3 : Nat) (List.drop j (ints (bld x.length (Bf true x q j)))) = some (I ((bld x.length (Bf true x q j)).getD j i0)) ∧ aBin Try.prog BinOp.add (3 : Nat) (I ((bld x.length (Bf true x q j)).getD j i0)) (I (q.getD j i0)) = some (I (fi true x q j)) ∧ aIndexAddr Try.prog (31 : Nat) (AV.msl 0 0 x.length x.length (1 : Nat)) (I (↑j : Int)) = some (AV.ptr 0 j) ∧ aStore Try.prog H.nil.base (3 : Nat) (AV.ptr 0 j) (I (fi true x q j)) (H.mk [ints (bld x.length (Bf true x q j))] [] []) = some (H.mk [ints ((bld x.length (Bf true x q j)).set j (fi true x q j))] [] []) ∧ aBin Try.prog BinOp.add (3 : Nat) (I (↑j : Int)) (I 1) = some (I (↑(j + (1 : Nat)) : Int)) ∧ (↑(j + (1 : Nat)) : Int) < (↑x.length : Int) ∧ aBin Try.prog BinOp.add (3 : Nat) (I (↑j : Int)) (I 1) = some (I (↑(j + (1 : Nat)) : Int)) ∧ aIndexAddr Try.prog (31 : Nat) (AV.msl 0 0 x.length x.length (1 : Nat)) (I (↑(j + (1 : Nat)) : Int)) = some (AV.ptr 0 (j + (1 : Nat))) ∧ aLoad Try.prog (3 : Nat) (List.drop (j + (1 : Nat)) (ints ((bld x.length (Bf true x q j)).set j (fi true x q j)))) = some (I (((bld x.length (Bf true x q j)).set j (fi true x q j)).getD (j + (1 : Nat)) i0)) ∧ aBin Try.prog BinOp.add (3 : Nat) (I (((bld x.length (Bf true x q j)).set j (fi true x q j)).getD (j + (1 : Nat)) i0)) (I (x.getD j i0 - q.getD j i0)) = some (I (pr true x q (j + (1 : Nat)))) ∧ aIndexAddr Try.prog (31 : Nat) (AV.msl 0 0 x.length x.length (1 : Nat)) (I (↑(j + (1 : Nat)) : Int)) = some (AV.ptr 0 (j + (1 : Nat))) ∧ aStore Try.prog H.nil.base (3 : Nat) (AV.ptr 0 (j + (1 : Nat))) (I (pr true x q (j + (1 : Nat)))) (H.mk [ints ((bld x.length (Bf true x q j)).set j (fi true x q j))] [] []) = some (H.mk [ints (((bld x.length (Bf true x q j)).set j (fi true x q j)).set (j + (1 : Nat)) (pr true x q (j + (1 : Nat))))] [] []) ∧ aBin Try.prog BinOp.add (3 : Nat) (I (↑j : Int)) (I 1) = some (I (↑(j + (1 : Nat)) : Int)) ∧ (58 : Nat) = (58 : Nat) ∧ j < x.length ∧ Keep (H.mk [ints (((bld x.length (Bf true x q j)).set j (fi true x q j)).set (j + (1 : Nat)) (pr true x q (j + (1 : Nat))))] [] [] = H.mk [ints (bld x.length (Bf true x q (j + (1 : Nat))))] [] [] ∧ [AV.sl (ints x) x.length r, AV.sl (ints q) q.length r', AV.bool true, AV.msl 0 0 x.length x.length (1 : Nat), AV.sl (ints x) x.length r, I (↑x.length : Int), I (↑(j + (1 : Nat)) : Int)] = [AV.sl (ints x) x.length r, AV.sl (ints q) q.length r', AV.bool true, AV.msl 0 0 x.length x.length (1 : Nat), AV.sl (ints x) x.length r, I (↑x.length : Int), I (↑(j + (1 : Nat)) : Int)])) (by kernel_rfl) ?_⟩
        refine ⟨by first | with_reducible assumption | omega | assumption, ?_⟩
        refine ⟨by first | exact ix_ints (by kernel_rfl) hz' z1 | exact ix_ints (by kernel_rfl) (by omega) z2, ?_⟩
        refine ⟨by first | exact ld_ints (by kernel_rfl) (by kernel_rfl) (by first | omega | (simp; omega)) | exact ldm_ints (by kernel_rfl) (by kernel_rfl) (by first | omega | (simp; omega)), ?_⟩
        refine ⟨by first | exact ix_ints (by kernel_rfl) hz' z1 | exact ix_ints (by kernel_rfl) (by omega) z2, ?_⟩
        refine ⟨by first | exact ld_ints (by kernel_rfl) (by kernel_rfl) (by first | omega | (simp; omega)) | exact ldm_ints (by kernel_rfl) (by kernel_rfl) (by first | omega | (simp; omega)), ?_⟩
        refine ⟨by first | exact ix_ints (by kernel_rfl) hz' z1 | exact ix_ints (by kernel_rfl) (by omega) z2, ?_⟩
        refine ⟨by first | exact ld_ints (by kernel_rfl) (by kernel_rfl) (by first | omega | (simp; omega)) | exact ldm_ints (by kernel_rfl) (by kernel_rfl) (by first | omega | (simp; omega)), ?_⟩
        refine ⟨wr _ (by omega) (by omega), ?_⟩
        refine ⟨ixm0 (by kernel_rfl) (by omega), ?_⟩
        refine ⟨by first | exact ld_ints (by kernel_rfl) (by kernel_rfl) (by first | omega | (simp; omega)) | exact ldm_ints (by kernel_rfl) (by kernel_rfl) (by first | omega | (simp; omega)), ?_⟩
        refine ⟨by first | exact told_add v0 | exact told_add v1 | exact told_add v9, ?_⟩
        refine ⟨ixm0 (by kernel_rfl) (by omega), ?_⟩
        refine ⟨by first | exact st_ints (by kernel_rfl) rfl (by first | omega | (simp; omega) | (simp at *; omega)) | exact st_u64s (by kernel_rfl) rfl (by first | omega | (simp; omega) | (simp at *; omega)) | exact st_bools (by kernel_rfl) rfl (by first | omega | (simp; omega) | (simp at *; omega)), ?_⟩
        refine ⟨by first | exact told_add v0 | exact told_add v1 | exact told_add v9, ?_⟩
        refine ⟨by first | with_reducible assumption | omega | assumption, ?_⟩
        refine ⟨by first | exact told_add v0 | exact told_add v1 | exact told_add v9, ?_⟩
        refine ⟨ixm0 (by kernel_rfl) (by omega), ?_⟩
        refine ⟨by first | exact ld_ints (by kernel_rfl) (by kernel_rfl) (by first | omega | (simp; omega)) | exact ldm_ints (by kernel_rfl) (by kernel_rfl) (by first | omega | (simp; omega)), ?_⟩
        refine ⟨by first | exact told_add v0 | exact told_add v1 | exact told_add v9, ?_⟩
        refine ⟨ixm0 (by kernel_rfl) (by omega), ?_⟩
        refine ⟨by first | exact st_ints (by kernel_rfl) rfl (by first | omega | (simp; omega) | (simp at *; omega)) | exact st_u64s (by kernel_rfl) rfl (by first | omega | (simp; omega) | (simp at *; omega)) | exact st_bools (by kernel_rfl) rfl (by first | omega | (simp; omega) | (simp at *; omega)), ?_⟩
        refine ⟨by first | exact told_add v0 | exact told_add v1 | exact told_add v9, ?_⟩
        refine ⟨by first | with_reducible assumption | omega | assumption, ?_⟩
        refine ⟨by first | with_reducible assumption | omega | assumption, ?_⟩
        exact ⟨by rw [hk], rfl⟩
    · have hs : (x.length : Int) ≤ ((j + 1 : Nat) : Int) := by omega
      have hk := Bf_sl (y := y) (x := x) (q := q) (j := j) (by omega)
      cases y
      · have ev0 : ia (bld x.length (Bf false x q j)) j + (ia x j - ia q j) = fi false x q j := e0
        refine ⟨[Ans.o (Orc.b true), Ans.o (Orc.val 21 (AV.cptr (ints (List.drop j q))) H.nil), Ans.o (Orc.val 22 (I (q.getD j i0)) H.nil), Ans.o (Orc.val 25 (AV.cptr (ints (List.drop j x))) H.nil), Ans.o (Orc.val 26 (I (x.getD j i0)) H.nil), Ans.o (Orc.val 29 (AV.cptr (ints (List.drop j q))) H.nil), Ans.o (Orc.val 30 (I (q.getD j i0)) H.nil), Ans.o (Orc.val 38 (AV.ptr 0 j) H.nil), Ans.o (Orc.val 39 (I ((bld x.length (Bf false x q j)).getD j i0)) H.nil), Ans.o (Orc.val 41 (I (fi false x q j)) H.nil), Ans.o (Orc.val 42 (AV.ptr 0 j) H.nil), Ans.o (Orc.val 9999 (AV.tup []) (H.mk [ints ((bld x.length (Bf false x q j)).set j (fi false x q j))] [] [])), Ans.o (Orc.val 44 (I (↑(j + (1 : Nat)) : Int)) H.nil), Ans.o (Orc.b false), Ans.o (Orc.val 56 (I (↑(j + (1 : Nat)) : Int)) H.nil)], fun u => of_eq ((↑j : Int) < (↑x.length : Int) ∧ aIndexAddr Try.prog (31 : Nat) (AV.sl (ints q) q.length r') (I (↑j : Int)) = some (AV.cptr (ints (List.drop j q))) ∧ aLoad Try.prog (3 : Nat) (ints (List.drop j q)) = some (I (q.getD j i0)) ∧ aIndexAddr Try.prog (31 : Nat) (AV.sl (ints x) x.length r) (I (↑j : Int)) = some (AV.cptr (ints (List.drop j x))) ∧ aLoad Try.prog (3 : Nat) (ints (List.drop j x)) = some (I (x.getD j i0)) ∧ aIndexAddr Try.prog (31 : Nat) (AV.sl (ints q) q.length r') (I (↑j : Int)) = some (AV.cptr (ints (List.drop j q))) ∧ aLoad Try.prog (3 : Nat) (ints (List.drop j q)) = some (I (q.getD j i0)) ∧ IntKind.i64.wrap (x.getD j i0 - q.getD j i0) = x.getD j i0 - q.getD j i0 ∧ aIndexAddr Try.prog (31 : Nat) (AV.msl 0 0 x.length x.length (1 : Nat)) (I (↑j : Int)) = some (AV.ptr 0 j) ∧ aLoad Try.prog (3 : Nat) (List.drop j (ints (bld x.length (Bf false x q j)))) = some (I ((bld x.length (Bf false x q j)).getD j i0)) ∧ aBin Try.prog BinOp.add (3 : Nat) (I ((bld x.length (Bf false x q j)).getD j i0)) (I (x.getD j i0 - q.getD j i0)) = some (I (fi false x q j)) ∧ aIndexAddr Try.prog (31 : Nat) (AV.msl 0 0 x.length x.length (1 : Nat)) (I (↑j : Int)) = some (AV.ptr 0 j) ∧ aStore Try.prog H.nil.base (3 : Nat) (AV.ptr 0 j) (I (fi false x q j)) (H.mk [ints (bld x.length (Bf false x q j))] [] []) = some (H.mk [ints ((bld x.length (Bf false x q j)).set j (fi false x q j))] [] []) ∧ aBin Try.prog BinOp.add (3 : Nat) (I (↑j : Int)) (I 1) = some (I (↑(j + (1 : Nat)) : Int)) ∧ (↑x.length : Int) ≤ (↑(j + (1 : Nat)) : Int) ∧ aBin Try.prog BinOp.add (3 : Nat) (I (↑j : Int)) (I 1) = some (I (↑(j + (1 : Nat)) : Int)) ∧ (58 : Nat) = (58 : Nat) ∧ j < x.length ∧ Keep (H.mk [ints ((bld x.length (Bf false x q j)).set j (fi false x q j))] [] [] = H.mk [ints (bld x.length (Bf false x q (j + (1 : Nat))))] [] [] ∧ [AV.sl (ints x) x.length r, AV.sl (ints q) q.length r', AV.bool false, AV.msl 0 0 x.length x.length (1 : Nat), AV.sl (ints x) x.length r, I (↑x.length : Int), I (↑(j + (1 : Nat)) : Int)] = [AV.sl (ints x) x.length r, AV.sl (ints q) q.length r', AV.bool false, AV.msl 0 0 x.length x.length (1 : Nat), AV.sl (ints x) x.length r, I (↑x.length : Int), I (↑(j + (1 : Nat)) : Int)])) (by kernel_rfl) ?_⟩
        refine ⟨by first | with_reducible assumption | omega | assumption, ?_⟩
        refine ⟨by first | exact ix_ints (by kernel_rfl) hz' z1 | exact ix_ints (by kernel_rfl) (by omega) z2, ?_⟩
        refine ⟨by first | exact ld_ints (by kernel_rfl) (by kernel_rfl) (by first | omega | (simp; omega)) | exact ldm_ints (by kernel_rfl) (by kernel_rfl) (by first | omega | (simp; omega)), ?_⟩
        refine ⟨by first | exact ix_ints (by kernel_rfl) hz' z1 | exact ix_ints (by kernel_rfl) (by omega) z2, ?_⟩
        refine ⟨by first | exact ld_ints (by kernel_rfl) (by kernel_rfl) (by first | omega | (simp; omega)) | exact ldm_ints (by kernel_rfl) (by kernel_rfl) (by first | omega | (simp; omega)), ?_⟩
        refine ⟨by first | exact ix_ints (by kernel_rfl) hz' z1 | exact ix_ints (by kernel_rfl) (by omega) z2, ?_⟩
        refine ⟨by first | exact ld_ints (by kernel_rfl) (by kernel_rfl) (by first | omega | (simp; omega)) | exact ldm_ints (by kernel_rfl) (by kernel_rfl) (by first | omega | (simp; omega)), ?_⟩
        refine ⟨wr _ (by omega) (by omega), ?_⟩
        refine ⟨ixm0 (by kernel_rfl) (by omega), ?_⟩
        refine ⟨by first | exact ld_ints (by kernel_rfl) (by kernel_rfl) (by first | omega | (simp; omega)) | exact ldm_ints (by kernel_rfl) (by kernel_rfl) (by first | omega | (simp; omega)), ?_⟩
        refine ⟨by first | exact told_add v0 | exact told_add v9, ?_⟩
        refine ⟨ixm0 (by kernel_rfl) (by omega), ?_⟩
        refine ⟨by first | exact st_ints (by kernel_rfl) rfl (by first | omega | (simp; omega) | (simp at *; omega)) | exact st_u64s (by kernel_rfl) rfl (by first | omega | (simp; omega) | (simp at *; omega)) | exact st_bools (by kernel_rfl) rfl (by first | omega | (simp; omega) | (simp at *; omega)), ?_⟩
        refine ⟨by first | exact told_add v0 | exact told_add v9, ?_⟩
        refine ⟨by first | with_reducible assumption | omega | assumption, ?_⟩
        refine ⟨by first | exact told_add v0 | exact told_add v9, ?_⟩
        refine ⟨by first | with_reducible assumption | omega | assumption, ?_⟩
        refine ⟨by first | with_reducible assumption | omega | assumption, ?_⟩
        exact ⟨by rw [hk], rfl⟩
      · have ev0 : ia (bld x.length (Bf true x q j)) j + ia q j = fi true x q j := e0
        refine ⟨[Ans.o (Orc.b true), Ans.o (Orc.val 21 (AV.cptr (ints (List.drop j q))) H.nil), Ans.o (Orc.val 22 (I (q.getD j i0)) H.nil), Ans.o (Orc.val 25 (AV.cptr (ints (List.drop j x))) H.nil), Ans.o (Orc.val 26 (I (x.getD j i0)) H.nil), Ans.o (Orc.val 29 (AV.cptr (ints (List.drop j q))) H.nil), Ans.o (Orc.val 30 (I (q.getD j i0)) H.nil), Ans.o (Orc.val 38 (AV.ptr 0 j) H.nil), Ans.o (Orc.val 39 (I ((bld x.length (Bf true x q j)).getD j i0)) H.nil), Ans.o (Orc.val 41 (I (fi true x q j)) H.nil), Ans.o (Orc.val 42 (AV.ptr 0 j) H.nil), Ans.o (Orc.val 9999 (AV.tup []) (H.mk [ints ((bld x.length (Bf true x q j)).set j (fi true x q j))] [] [])), Ans.o (Orc.val 44 (I (↑(j + (1 : Nat)) : Int)) H.nil), Ans.o (Orc.b false), Ans.o (Orc.val 56 (I (↑(j + (1 : Nat)) : Int)) H.nil)], fun u => of_eq ((↑j : Int) < (↑x.length : Int) ∧ aIndexAddr Try.prog (31 : Nat) (AV.sl (ints q) q.length r') (I (↑j : Int)) = some (AV.cptr (ints (List.drop j q))) ∧ aLoad Try.prog (3 : Nat) (ints (List.drop j q)) = some (I (q.getD j i0)) ∧ aIndexAddr Try.prog (31 : Nat) (AV.sl (ints x) x.length r) (I (↑j : Int)) = some (AV.cptr (ints (List.drop j x))) ∧ aLoad Try.prog (3 : Nat) (ints (List.drop j x)) = some (I (x.getD j i0)) ∧ aIndexAddr Try.prog (31 : Nat) (AV.sl (ints q) q.length r') (I (↑j : Int)) = some (AV.cptr (ints (List.drop j q))) ∧ aLoad Try.prog (3 : Nat) (ints (List.drop j q)) = some (I (q.getD j i0)) ∧ IntKind.i64.wrap (x.getD j i0 - q.getD j i0) = x.getD j i0 - q.getD j i0 ∧ aIndexAddr Try.prog (31 : Nat) (AV.msl 0 0 x.length x.length (1 : Nat)) (I (↑j : Int)) = some (AV.ptr 0 j) ∧ aLoad Try.prog (3 : Nat) (List.drop j (ints (bld x.length (Bf true x q j)))) = some (I ((bld x.length (Bf true x q j)).getD j i0)) ∧ aBin Try.prog BinOp.add (3 : Nat) (I ((bld x.length (Bf true x q j)).getD j i0)) (I (q.getD j i0)) = some (I (fi true x q j)) ∧ aIndexAddr Try.prog (31 : Nat) (AV.msl 0 0 x.length x.length (1 : Nat)) (I (↑j : Int)) = some (AV.ptr 0 j) ∧ aStore Try.prog H.nil.base (3 : Nat) (AV.ptr 0 j) (I (fi true x q j)) (H.mk [ints (bld x.length (Bf true x q j))] [] []) = some (H.mk [ints ((bld x.length (Bf true x q j)).set j (fi true x q j))] [] []) ∧ aBin Try.prog BinOp.add (3 : Nat) (I (↑j : Int)) (I 1) = some (I (↑(j + (1 : Nat)) : Int)) ∧ (↑x.length : Int) ≤ (↑(j + (1 : Nat)) : Int) ∧ aBin Try.prog BinOp.add (3 : Nat) (I (↑j : Int)) (I 1) = some (I (↑(j + (1 : Nat)) : Int)) ∧ (58 : Nat) = (58 : Nat) ∧ j < x.length ∧ Keep (H.mk [ints ((bld x.length (Bf true x q j)).set j (fi true x q j))] [] [] = H.mk [ints (bld x.length (Bf true x q (j + (1 : Nat))))] [] [] ∧ [AV.sl (ints x) x.length r, AV.sl (ints q) q.length r', AV.bool true, AV.msl 0 0 x.length x.length (1 : Nat), AV.sl (ints x) x.length r, I (↑x.length : Int), I (↑(j + (1 : Nat)) : Int)] = [AV.sl (ints x) x.length r, AV.sl (ints q) q.length r', AV.bool true, AV.msl 0 0 x.length x.length (1 : Nat), AV.sl (ints x) x.length r, I (↑x.length : Int), I (↑(j + (1 : Nat)) : Int)])) (by kernel_rfl) ?_⟩
        refine ⟨by first | with_reducible assumption | omega | assumption, ?_⟩
        refine ⟨by first | exact ix_ints (by kernel_rfl) hz' z1 | exact ix_ints (by kernel_rfl) (by omega) z2, ?_⟩
        refine ⟨by first | exact ld_ints (by kernel_rfl) (by kernel_rfl) (by first | omega | (simp; omega)) | exact ldm_ints (by kernel_rfl) (by kernel_rfl) (by first | omega | (simp; omega)), ?_⟩
        refine ⟨by first | exact ix_ints (by kernel_rfl) hz' z1 | exact ix_ints (by kernel_rfl) (by omega) z2, ?_⟩
        refine ⟨by first | exact ld_ints (by kernel_rfl) (by kernel_rfl) (by first | omega | (simp; omega)) | exact ldm_ints (by kernel_rfl) (by kernel_rfl) (by first | omega | (simp; omega)), ?_⟩
        refine ⟨by first | exact ix_ints (by kernel_rfl) hz' z1 | exact ix_ints (by kernel_rfl) (by omega) z2, ?_⟩
        refine ⟨by first | exact ld_ints (by kernel_rfl) (by kernel_rfl) (by first | omega | (simp; omega)) | exact ldm_ints (by kernel_rfl) (by kernel_rfl) (by first | omega | (simp; omega)), ?_⟩
        refine ⟨wr _ (by omega) (by omega), ?_⟩
        refine ⟨ixm0 (by kernel_rfl) (by omega), ?_⟩
        refine ⟨by first | exact ld_ints (by kernel_rfl) (by kernel_rfl) (by first | omega | (simp; omega)) | exact ldm_ints (by kernel_rfl) (by kernel_rfl) (by first | omega | (simp; omega)), ?_⟩
        refine ⟨by first | exact told_add v0 | exact told_add v9, ?_⟩
        refine ⟨ixm0 (by kernel_rfl) (by omega), ?_⟩
        refine ⟨by first | exact st_ints (by kernel_rfl) rfl (by first | omega | (simp; omega) | (simp at *; omega)) | exact st_u64s (by kernel_rfl) rfl (by first | omega | (simp; omega) | (simp at *; omega)) | exact st_bools (by kernel_rfl) rfl (by first | omega | (simp; omega) | (simp at *; omega)), ?_⟩
        refine ⟨by first | exact told_add v0 | exact told_add v9, ?_⟩
        refine ⟨by first | with_reducible assumption | omega | assumption, ?_⟩
        refine ⟨by first | exact told_add v0 | exact told_add v9, ?_⟩
        refine ⟨by first | with_reducible assumption | omega | assumption, ?_⟩
        refine ⟨by first | with_reducible assumption | omega | assumption, ?_⟩
        exact ⟨by rw [hk], rfl⟩
  · have hz : (x.length : Int) ≤ j := by omega
    have e : j = x.length := by omega
    subst e
    have hk := Bf_n y x q
    refine ⟨[Ans.o (Orc.b false)], fun u => of_eq ((↑x.length : Int) ≤ (↑x.length : Int) ∧ (58 : Nat) = (58 : Nat) ∧ hits [Out.mk Unit (AX.exit (0 : Nat)) [(7 : Nat)] (fun x => True) (fun x_1 => [AV.msl 0 0 x.length x.length (1 : Nat)]) (fun x_1 => H.mk [ints (afV y x q)] [] []) fun x => []] (AX.exit (0 : Nat)) [AV.sl (ints x) x.length r, AV.sl (ints q) q.length r', AV.bool y, u (3 : Nat), u (4 : Nat), u (5 : Nat), u (6 : Nat), AV.msl 0 0 x.length x.length (1 : Nat), u (8 : Nat), u (9 : Nat), u (10 : Nat), u (11 : Nat), u (12 : Nat), u (13 : Nat), AV.sl (ints x) x.length r, I (↑x.length : Int), I (↑x.length : Int), AV.bool false, u (18 : Nat), u (19 : Nat), u (20 : Nat), u (21 : Nat), u (22 : Nat), u (23 : Nat), u (24 : Nat), u (25 : Nat), u (26 : Nat), u (27 : Nat), u (28 : Nat), u (29 : Nat), u (30 : Nat), u (31 : Nat), u (32 : Nat), u (33 : Nat), u (34 : Nat), u (35 : Nat), u (36 : Nat), u (37 : Nat), u (38 : Nat), u (39 : Nat), u (40 : Nat), u (41 : Nat), u (42 : Nat), u (43 : Nat), u (44 : Nat), u (45 : Nat), u (46 : Nat), u (47 : Nat), u (48 : Nat), u (49 : Nat), u (50 : Nat), u (51 : Nat), u (52 : Nat), u (53 : Nat), u (54 : Nat), u (55 : Nat), u (56 : Nat), u (57 : Nat)] (H.mk [ints (bld x.length (Bf y x q x.length))] [] [])) (by kernel_rfl) ?_⟩
    refine ⟨by first | with_reducible assumption | omega | assumption, ?_⟩
    refine ⟨by first | with_reducible assumption | omega | assumption, ?_⟩
    exact .inl ⟨(), trivial, rfl, rfl, by rw [hk]⟩
theorem ok40 : FokM Try.prog none1 40 Try.f40 := ⟨mixed, by kernel_rfl, by kernel_rfl, by kernel_rfl, by kernel_rfl⟩
theorem r40 (x : List Int) (r : Room) (q : List Int) (r' : Room) (y : Bool) (hp : ((rok x r ∧ x.length ≤ 4) ∧ rok q r' ∧ q.length = x.length) ∧ ∀ i, i < x.length → bq (ia x i) (ia q i)) : Body ⟨Try.prog, Sof (P := Try.prog) [], Pof (P := Try.prog) [], H.nil.base, 300⟩ none1 Try.f40 [ls x r, ls q r', .bool y] .nil (ls (afV y x q) .full, ⟨[], [], []⟩) := by
  obtain ⟨⟨⟨h1, h2⟩, h3, h4⟩, h5⟩ := hp
  refine body_s ([Ans.o (Orc.val 13 (AV.msl 0 0 x.length x.length (1 : Nat)) (H.mk [ints (List.replicate x.length i0)] [] [])), Ans.loop [(0 : Nat), (1 : Nat), (2 : Nat), (7 : Nat), (14 : Nat), (15 : Nat), (16 : Nat)] [Out.mk Unit (AX.exit (0 : Nat)) [(7 : Nat)] (fun x => True) (fun x_1 => [AV.msl 0 0 x.length x.length (1 : Nat)]) (fun x_1 => H.mk [ints (afV y x q)] [] []) fun y => []]]) (aMake Try.prog (31 : Nat) (↑x.length : Int) (↑x.length : Int) (H.mk [] [] []) = some (AV.msl 0 0 x.length x.length (1 : Nat), H.mk [ints (List.replicate x.length i0)] [] []) ∧ LoopS (Env.mk Try.prog (Sof (P := Try.prog) []) (Pof (P := Try.prog) []) H.nil.base (300 : Nat)) (loopAt Try.f40 (0 : Nat)) (58 : Nat) [(0 : Nat), (1 : Nat), (2 : Nat), (7 : Nat), (14 : Nat), (15 : Nat), (16 : Nat)] [AV.sl (ints x) x.length r, AV.sl (ints q) q.length r', AV.bool y, AV.msl 0 0 x.length x.length (1 : Nat), AV.sl (ints x) x.length r, I (↑x.length : Int), I 0] (H.mk [ints (List.replicate x.length i0)] [] []) [Out.mk Unit (AX.exit (0 : Nat)) [(7 : Nat)] (fun x => True) (fun x_1 => [AV.msl 0 0 x.length x.length (1 : Nat)]) (fun x_1 => H.mk [ints (afV y x q)] [] []) fun y => []] ∧ (∀ (y_1 : Unit), True → ∀ (u : Nat → AV), leave (Base.mk H.nil.blk.length H.nil.toks.length H.nil.maps.length) (AV.msl 0 0 x.length x.length (1 : Nat)) (H.mk [ints (afV y x q)] [] []) = (AV.sl (ints (afV y x q)) (afV y x q).length Room.full, H.mk [] [] [])) ∧ True) (by kernel_rfl) ?_
  refine ⟨by first | exact mk_u64s (by kernel_rfl) (by omega) | exact mk_ints (by kernel_rfl) (by omega) | exact mk_bools (by kernel_rfl) (by omega), ?_⟩
  refine ⟨lp40 y x q r r' h2 h1 h3 h4 h5, ?_⟩
  refine And.intro ?_ ?_
  · skip
    intro y
    intro w1
    intro u
    (rw [afV_len]; exact leave_intsm (by simp) rfl)
  · skip
    trivial
noncomputable def c40 : PCtr Try.prog := slctr ok40 (X := List Int × Room × List Int × Room × Bool) (fun x => [ls x.1 x.2.1, ls x.2.2.1 x.2.2.2.1, .bool x.2.2.2.2]) (fun x => ((rok x.1 x.2.1 ∧ x.1.length ≤ 4) ∧ rok x.2.2.1 x.2.2.2.1 ∧ x.2.2.1.length = x.1.length) ∧ ∀ i, i < x.1.length → bq (ia x.1 i) (ia x.2.2.1 i)) (fun x => ls (afV x.2.2.2.2 x.1 x.2.2.1) .no) (by intro x y e _ _; simp [Int.natCast_inj] at e; simp [e]) (fun x => by simp [AV.bnds, AV.bnd, AV.wk, rm_wk_bnd]) (fun x => by first | rfl | (simp [AV.bnd, rm_wk_bnd]; done)  | (simp [AV.bnd, AV.bnds, rm_wk_bnd]; done) | simp [AV.bnd, AV.bnds, Room.bnd, rm_wk_bnd]) (fun x hx => ⟨_, _, _, ls (afV x.2.2.2.2 x.1 x.2.2.1) .full, [], .nil, r40 (x.1) (x.2.1).wk (x.2.2.1) (x.2.2.2.1).wk (x.2.2.2.2) (by first | exact hx | (simp only [rok_wk]; exact hx) | (simp only [rok_wk, lst_wk]; exact hx) | (simp only [rok_wk, lst_wk, lsn_wk]; exact hx)), by simp [AV.plain, AV.plains, plains_ints, plains_rows], by first | (simp only [AV.wkd, wkds_rows]; done) | (simp only [AV.wkd, wkds_ints]; done) | simp [AV.wkd, AV.wkds, Room.wk]⟩)
end Go.Proofs.Gss

