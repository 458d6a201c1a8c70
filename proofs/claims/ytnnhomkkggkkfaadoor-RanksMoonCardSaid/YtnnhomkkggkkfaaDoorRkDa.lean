/- Layer 2: the program's search for a round: what a call of it finds and leaves, among other blocks. -/
import Derived.Test.YtnnhomkkggkkfaaDoorRkCg
import Derived.KernelRfl
set_option linter.unusedSimpArgs false
set_option linter.unusedVariables false
set_option linter.unnecessarySimpa false
set_option maxHeartbeats 4000000
set_option maxRecDepth 100000
namespace Go.Proofs.Rnk
open Go Go.VM
section
attribute [local instance] wrI
abbrev selfW : AV := .fn (.func 94) [] [.ptr 4 0, .ptr 2 0, .ptr 3 0, .ptr 5 0, .ptr 1 0]
abbrev fitW : AV := .fn (.func 66) [] [.ptr 0 0]
abbrev bEw (t : List Int) (k : Nat) (b : List Int) : List (List AV) := [[ls t .no], [ls t .no], [I k], [fitW], [rowV 6 b.length], [selfW], ints b]
abbrev bFw (t : List Int) (k : Nat) (b : List Int) : List (List AV) := [[ls t .no], [ls t .no], [I k], [fitW], [rowV 7 b.length], [selfW], [], ints b]
def Rw (j : Nat) : Nat := if j = 0 then 6 else 9 + 2 * j
abbrev bJw (t : List Int) (k : Nat) (b : List Int) (fr nx j : Nat) : List (List AV) := [ls t .no] :: [ls t .no] :: [I k] :: [fitW] :: [rowV (Rw j) b.length] :: [selfW] :: Dj b j :: [I fr] :: [.bool false] :: [I (dI (nx : Nat) j)] :: Zj b nx j
abbrev bPw (t : List Int) (k : Nat) (b : List Int) (fr nx j R : Nat) (c : List Int) : List (List AV) := [ls t .no] :: [ls t .no] :: [I k] :: [fitW] :: [rowV R c.length] :: [selfW] :: [] :: [I fr] :: [.bool false] :: [I (dI (nx : Nat) j)] :: (List.replicate (R - 10) [] ++ [ints c])
theorem RV.selfW {ρ : Nat → Nat} {n : Nat} (h : 6 ≤ n) (hρ : ∀ i, i < 6 → ρ i = i) : RV ρ n selfW selfW := fun Gc G v a => by
  have e : ∀ i, i < 6 → Gc.φ i = G.φ i := fun i hi => by rw [a.φ i (by omega), hρ i hi]
  simp only [Rnk.selfW, VRel, VRels, e 1 (by omega), e 2 (by omega), e 3 (by omega), e 4 (by omega), e 5 (by omega)]
theorem RV.fitW {ρ : Nat → Nat} {n : Nat} (h : 1 ≤ n) (hρ : ρ 0 = 0) : RV ρ n fitW fitW := fun Gc G v a => by
  have e : Gc.φ 0 = G.φ 0 := by rw [a.φ 0 (by omega), hρ]
  simp only [Rnk.fitW, VRel, VRels, e]
def rhoW (R i : Nat) : Nat := if i = 6 then R else i
theorem rep_getW {R b : Nat} {x : List AV} (h1 : 10 ≤ b) (h2 : b < R) : (List.replicate (R - 10) ([] : List AV) ++ [x])[b - 10]? = some [] := by
  rw [List.getElem?_append_left (by simp; omega)]
  simp [List.getElem?_replicate]; omega
theorem rep_endW {R : Nat} {x : List AV} : (List.replicate (R - 10) ([] : List AV) ++ [x])[R - 10]? = some x := by
  rw [List.getElem?_append_right (by simp)]; simp
theorem bPw_get {t : List Int} {k : Nat} {b : List Int} {fr nx j R : Nat} {c : List Int} {i : Nat} (h : 10 ≤ i) : (bPw t k b fr nx j R c)[i]? = (List.replicate (R - 10) ([] : List AV) ++ [ints c])[i - 10]? := by
  obtain ⟨m, rfl⟩ : ∃ m, i = m + 10 := ⟨i - 10, by omega⟩
  rw [Nat.add_sub_cancel]; rfl
theorem bPw_len {t : List Int} {k : Nat} {b : List Int} {fr nx j R : Nat} {c : List Int} (h : 10 ≤ R) : (bPw t k b fr nx j R c).length = R + 1 := by
  simp only [List.length_cons, List.length_append, List.length_replicate, List.length_nil]; omega
theorem ren_Rw {t : List Int} {k : Nat} {b c l : List Int} {fr nx j R : Nat} (hR : 10 ≤ R) (hl : l ≠ []) : RenOk (rhoW R) (bEw t k c) (bFw t k l) (bPw t k b fr nx j R c) (bPw t k b fr nx j (R + 1) l) where
  inj i j hi hj h := by
    have hi : i < 7 := hi
    have hj : j < 7 := hj
    simp only [rhoW] at h
    split at h <;> split at h <;> omega
  lt i hi := by
    have hi : i < 7 := hi
    rw [bPw_len hR, rhoW]; split <;> omega
  cells i cs h := by
    match i, h with
    | 0, h => cases h; exact ⟨_, rfl, .same (bnd_ls t), rfl⟩
    | 1, h => cases h; exact ⟨_, rfl, .same (bnd_ls t), rfl⟩
    | 2, h => cases h; exact ⟨_, rfl, .same rfl, rfl⟩
    | 3, h => cases h; exact ⟨_, rfl, .cons (RV.fitW (by show 1 ≤ 7; omega) (by rw [rhoW, if_neg (by omega)])) .nil, rfl⟩
    | 4, h => cases h; exact ⟨_, rfl, .cons (RV.row (ρ := rhoW R) (R := 6) (by show 6 < 7; omega)) .nil, rfl⟩
    | 5, h => cases h; exact ⟨_, rfl, .cons (RV.selfW (by show 6 ≤ 7; omega) fun i hi => by rw [rhoW, if_neg (by omega)]) .nil, rfl⟩
    | 6, h =>
      cases h
      refine ⟨ints c, ?_, .same (bnd_ints c), rfl⟩
      show (bPw t k b fr nx j R c)[R]? = _
      rw [bPw_get hR, rep_endW]
    | i + 7, h => simp at h
  grow := by show 7 ≤ 8; omega
  len := by rw [bPw_len hR, bPw_len (by omega)]; rfl
  old b' hb hn := by
    rw [bPw_len hR] at hb
    have h5 : b' ≠ R := fun e => hn 6 (by show 6 < 7; omega) (by rw [rhoW, if_pos rfl, e])
    have hs : ∀ i, i < 6 → b' ≠ i := fun i hi e => hn i (by show i < 7; omega) (by rw [rhoW, if_neg (by omega), e])
    have h0 := hs 0 (by omega); have h1 := hs 1 (by omega); have h2 := hs 2 (by omega); have h3 := hs 3 (by omega); have h4 := hs 4 (by omega); have h6 := hs 5 (by omega)
    match b', h0, h1, h2, h3, h4, h6 with
    | 6, _, _, _, _, _, _ => rfl
    | 7, _, _, _, _, _, _ => rfl
    | 8, _, _, _, _, _, _ => rfl
    | 9, _, _, _, _, _, _ => rfl
    | m + 10, _, _, _, _, _, _ => rw [bPw_get (by omega), bPw_get (by omega), rep_getW (by omega) (by omega), rep_getW (by omega) (by omega)]
  new i cs h := by
    have hρ : rhoN (rhoW R) (bEw t k c).length (bPw t k b fr nx j R c).length = fun i => if i < 7 then rhoW R i else R + 1 + (i - 7) := by
      funext i; rw [rhoN, bPw_len hR]; rfl
    rw [hρ]
    match i, h with
    | 0, h => cases h; exact ⟨_, rfl, .same (bnd_ls t), rfl⟩
    | 1, h => cases h; exact ⟨_, rfl, .same (bnd_ls t), rfl⟩
    | 2, h => cases h; exact ⟨_, rfl, .same rfl, rfl⟩
    | 3, h => cases h; exact ⟨_, rfl, .cons (RV.fitW (by show 1 ≤ 8; omega) (by simp only [show 0 < 7 by omega, if_true]; rw [rhoW, if_neg (by omega)])) .nil, rfl⟩
    | 4, h => cases h; exact ⟨_, rfl, .cons (RV.row (R := 7) (by show 7 < 8; omega)) .nil, rfl⟩
    | 5, h => cases h; exact ⟨_, rfl, .cons (RV.selfW (by show 6 ≤ 8; omega) fun i hi => by simp only [show i < 7 by omega, if_true]; rw [rhoW, if_neg (by omega)]) .nil, rfl⟩
    | 6, h =>
      cases h
      refine ⟨[], ?_, .nil, rfl⟩
      show (bPw t k b fr nx j (R + 1) l)[R]? = _
      rw [bPw_get hR, rep_getW hR (by omega)]
    | 7, h =>
      cases h
      refine ⟨ints l, ?_, .same (bnd_ints l), rfl⟩
      show (bPw t k b fr nx j (R + 1) l)[R + 1]? = _
      rw [bPw_get (by omega), rep_endW]
    | i + 8, h => simp at h
  dead i hi h := by
    have hi : i < 7 := hi
    match i, hi, h with
    | 0, _, h => simp at h
    | 1, _, h => simp at h
    | 2, _, h => simp at h
    | 3, _, h => simp at h
    | 4, _, h => simp at h
    | 5, _, h => simp at h
    | 6, _, _ => rfl
  live i hi := by
    have hi : 7 ≤ i := hi
    match i, hi with
    | 7, _ => simp [ints, hl]
    | i + 8, _ => simp
theorem call_Rw {t : List Int} {k : Nat} {b c l : List Int} {fr nx j R : Nat} {us : List AV} {v : Bool} (hR : 10 ≤ R) (hl : l ≠ []) (hu : AV.bnds 0 0 0 us = true)
    (hc : CallOkB Tryd.prog 0 94 (us ++ [.ptr 4 0, .ptr 2 0, .ptr 3 0, .ptr 5 0, .ptr 1 0]) ⟨bEw t k c, [], []⟩ (.bool v) ⟨bFw t k l, [], []⟩) :
    CallOkB Tryd.prog 0 94 (us ++ [.ptr 4 0, .ptr 2 0, .ptr 3 0, .ptr 5 0, .ptr 1 0]) ⟨bPw t k b fr nx j R c, [], []⟩ (.bool v) ⟨bPw t k b fr nx j (R + 1) l, [], []⟩ := by
  refine CallOkB.ren (ren_Rw hR hl) ?_ (.same rfl) hc [] []
  have hp : ∀ i, i < 6 → RV (rhoW R) (bEw t k c).length (.ptr i 0) (.ptr i 0) := fun i hi => by
    have := RV.ptr (ρ := rhoW R) (n := (bEw t k c).length) (b := i) (o := 0) (by show i < 7; omega)
    rwa [rhoW, if_neg (by omega)] at this
  have app : ∀ {us : List AV}, AV.bnds 0 0 0 us = true → RVs (rhoW R) (bEw t k c).length (us ++ [.ptr 4 0, .ptr 2 0, .ptr 3 0, .ptr 5 0, .ptr 1 0]) (us ++ [.ptr 4 0, .ptr 2 0, .ptr 3 0, .ptr 5 0, .ptr 1 0]) := fun {us} h => by
    induction us with
    | nil => exact .cons (hp 4 (by omega)) (.cons (hp 2 (by omega)) (.cons (hp 3 (by omega)) (.cons (hp 5 (by omega)) (.cons (hp 1 (by omega)) .nil))))
    | cons x us ih =>
      simp only [AV.bnds, Bool.and_eq_true] at h
      exact .cons (.same h.1) (ih h.2)
  exact app hu
end
end Go.Proofs.Rnk

