/- Layer 7: the lines one after another, by the reference. -/
import Derived.Test.YtmgbglnljnlapaaOrAg
import Derived.KernelRfl
set_option linter.unusedSimpArgs false
set_option linter.unusedVariables false
set_option linter.unnecessarySimpa false
set_option maxHeartbeats 4000000
set_option maxRecDepth 100000
namespace Go.Proofs.Ord
open Go Go.VM
open Go.Proofs.Sur (andn andn_bit andn_le i_wrap i_and i_or i_andn i_shl i_shr bit_01)

/-- a line as the program's -/
abbrev ic (b : List Nat) : List Int := b.map fun x : Nat => (x : Int)
def kr : List Nat → RK
  | [] => .n
  | _ :: _ => .l
def rf : List Nat → Room
  | [] => .nil
  | _ :: _ => .full
theorem kr_app (b : List Nat) (i : Nat) : kr (b ++ [i]) = .l := by cases b <;> rfl
abbrev bg (b : List Nat) (r : Room) : AV := .sl (ints (ic b)) (ic b).length r
abbrev lr (L : List (List Nat)) : List Row := L.map fun b => (ic b, kr b)
abbrev rwl (L : List (List Nat)) (r : Room) : AV := .sl (rowsA (lr L)) (lr L).length r
/-- the first lines -/
abbrev fl (A : Rel) (n m t : Nat) (b : List Nat) (k : Nat) : List (List Nat) := (List.range k).flatMap fun i => if okB A t i n = true then lns A n m (t ||| 2 ^ i) (b ++ [i]) else []
theorem fl_succ (A : Rel) (n m t : Nat) (b : List Nat) (k : Nat) : fl A n m t b (k + 1) = fl A n m t b k ++ (if okB A t k n = true then lns A n m (t ||| 2 ^ k) (b ++ [k]) else []) := by
  rw [fl, List.range_succ, List.flatMap_append]; simp
theorem sl3g {P : Program} {t e : TypeId} (he : elemT P t = some e) (hs : sizeT P e = some 1) (l : List Int) (h : H) :
    aSlice P t (.sl (ints l) l.length .no) none (some (I l.length)) (some (I l.length)) h = some (.sl (ints l) l.length .full) := by
  have e1 : List.take ((l.length - 0) * 1) (List.drop (0 * 1) (ints l)) = ints l := by
    rw [Nat.zero_mul, List.drop_zero, Nat.mul_one, Nat.sub_zero]; exact List.take_of_length_le (by simp)
  have e2 : aBounds l.length none (some (l.length : Int)) = some (0, l.length) := by simp [aBounds]
  simp only [aSlice, intOf?, he, hs, e2]
  rw [if_neg (by simp), if_pos ⟨⟨by simp, by simp⟩, rfl, Int.le_refl _, Int.le_refl _⟩, e1]
  simp
theorem sl3 {P : Program} {t e : TypeId} (he : elemT P t = some e) (hs : sizeT P e = some 1) (b : List Nat) (h : H) :
    aSlice P t (bg b (rr (kr b))) none (some (I (ic b).length)) (some (I (ic b).length)) h = some (bg b (rf b)) := by
  cases b with
  | nil => simp [aSlice, intOf?, aBounds, he, hs, kr, rr, rf, ints]
  | cons x b => exact sl3g he hs (ic (x :: b)) h
theorem ap1 {P : Program} {t : TypeId} (hT : appT P t = true) (b : List Nat) (i : Nat) (T : List Nat) (hn : b.length ≤ 1000) :
    aAppend P t t (bg b (rf b)) (.sl [I i] 1 .full) ⟨[], T, []⟩ = some (bg (b ++ [i]) (.tok T.length 1), ⟨[], T ++ [b.length + 1], []⟩) := by
  obtain ⟨e, i', z, he, hi, hz, h1, h2, h3⟩ := appT_of hT
  have hb : (b.length + 1) * i'.bytes ≤ 2 ^ 47 := Nat.le_trans (Nat.mul_le_mul (show b.length + 1 ≤ 1000000000 by omega) h2) (by decide)
  have hm : b.length + 1 ≤ maxLen := Nat.le_trans (show b.length + 1 ≤ 1001 by omega) (by decide)
  cases b with
  | nil =>
    have hb : i'.bytes ≤ 2 ^ 47 := by simpa using hb
    simp [aAppend, he, hi, hz, h1, h3, slCells, hb, rf, ints, AV.one]
    exact hm
  | cons x b =>
    have hb : (b.length + 1 + 1) * i'.bytes ≤ 2 ^ 47 := hb
    have hm : b.length + 1 + 1 ≤ maxLen := hm
    simp [aAppend, he, hi, hz, h1, h3, slCells, hb, hm, rf, ints, AV.one]
theorem ap2 {P : Program} {t : TypeId} (hT : appT P t = true) (L M : List (List Nat)) (j : Nat) (T : List Nat) (hM : 1 ≤ M.length) (hL : L.length ≤ 50000) (hM2 : M.length ≤ 50000) (hj : L ≠ [] → T[j]? = some (lr L).length) (x : Nat) :
    ∃ j' T', aAppend P t t (rwl L (rm j (lr L))) (rwl M .no) ⟨[], T ++ [x], []⟩ = some (rwl (L ++ M) (rm j' (lr (L ++ M))), ⟨[], T', []⟩) ∧ T'[j']? = some (lr (L ++ M)).length := by
  obtain ⟨e, i', z, he, hi, hz, h1, h2, h3⟩ := appT_of hT
  have hb : (L.length + M.length) * i'.bytes ≤ 2 ^ 47 := Nat.le_trans (Nat.mul_le_mul (show L.length + M.length ≤ 1000000000 by omega) h2) (by decide)
  have hm : L.length + M.length ≤ maxLen := Nat.le_trans (show L.length + M.length ≤ 100000 by omega) (by decide)
  have ho : (rowsA (lr M)).all AV.one = true := by rw [List.all_eq_true]; intro y hy; simp only [rowsA, List.mem_map] at hy; obtain ⟨a, _, rfl⟩ := hy; rfl
  have hM0 : M.length ≠ 0 := by omega
  have hsl : ∀ h : H, slCells h i'.size (rwl M .no) = some (rowsA (lr M), M.length) := by intro h; simp [slCells]
  cases L with
  | nil =>
    have hr : rm j (lr []) = .nil := rfl
    cases M with
    | nil => simp at hM
    | cons y M =>
      refine ⟨(T ++ [x]).length, T ++ [x] ++ [(y :: M).length], ?_, by simp [List.getElem?_append_right]⟩
      have hb : (y :: M).length * i'.bytes ≤ 2 ^ 47 := by simpa using hb
      have hm : (y :: M).length ≤ maxLen := by simpa using hm
      unfold aAppend
      rw [if_neg (by simp), he]
      simp only [hi, hz, hsl]
      rw [if_pos ⟨by rw [h1, h3], by rw [h1]; decide, by rw [h1]; simp, by simp [rowsA], ho, by simpa using hb, by simpa using hm⟩, if_neg (by simp)]
      simp [rm, h1, rowsA]
  | cons w L =>
    have hj := hj (by simp)
    have hlt : j < T.length := by
      rcases Nat.lt_or_ge j T.length with q | q
      · exact q
      · rw [List.getElem?_eq_none q] at hj; cases hj
    have hj2 : (T ++ [x])[j]? = some (lr (w :: L)).length := by rw [List.getElem?_append_left hlt]; exact hj
    refine ⟨j, (T ++ [x]).set j (lr (w :: L ++ M)).length, ?_, by rw [List.getElem?_set_self (by simp; omega)]⟩
    unfold aAppend
    rw [if_neg (by simp), he]
    simp only [hi, hz, hsl]
    rw [if_pos ⟨by rw [h1, h3], by rw [h1]; decide, by rw [h1]; simp, by rw [h1]; simp, ho, by simpa using hb, by simpa using hm⟩, if_neg hM0]
    simp only [rm, List.map_cons]
    rw [if_pos ⟨by simpa using hj2, h1.symm⟩]
    have e : L.length + 1 + M.length = L.length + M.length + 1 := by omega
    simp [rm, h1, rowsA, e]
theorem leave_rt (L : List (List Nat)) (j : Nat) (T : List Nat) (h0 : L ≠ []) (hj : T[j]? = some (lr L).length) : leave ⟨0, 0, 0⟩ (rwl L (rm j (lr L))) ⟨[], T, []⟩ = (rwl L (.tok 0 1), ⟨[], [(lr L).length], []⟩) := by
  cases L with
  | nil => exact absurd rfl h0
  | cons x L =>
    show leave ⟨0, 0, 0⟩ (.sl (rowsA (lr (x :: L))) (lr (x :: L)).length (.tok j 1)) ⟨[], T, []⟩ = (.sl (rowsA (lr (x :: L))) (lr (x :: L)).length (.tok 0 1), ⟨[], [(lr (x :: L)).length], []⟩)
    generalize lr (x :: L) = l at hj ⊢
    simp [leave, AV.bnd, frz, Room.bnd, retok, rowsA_bnds', hj]
end Go.Proofs.Ord

