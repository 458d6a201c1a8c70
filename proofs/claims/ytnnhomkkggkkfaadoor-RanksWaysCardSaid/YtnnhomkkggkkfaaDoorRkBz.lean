/- Layer 2: the program's search for a row: what a call of it finds and leaves, among other blocks. -/
import Derived.Test.YtnnhomkkggkkfaaDoorRkBx
import Derived.Test.YtnnhomkkggkkfaaDoorRkG
import Derived.Test.YtnnhomkkggkkfaaDoorRkBa
import Derived.Test.YtnnhomkkggkkfaaDoorVm9
import Derived.KernelRfl
set_option linter.unusedSimpArgs false
set_option linter.unusedVariables false
set_option linter.unnecessarySimpa false
set_option maxHeartbeats 4000000
set_option maxRecDepth 100000
namespace Go.Proofs.Rnk
open Go Go.VM
section
attribute [local instance] wrI
abbrev selfV : AV := .fn (.func 94) [] [.ptr 3 0, .ptr 1 0, .ptr 2 0, .ptr 4 0, .ptr 0 0]
abbrev fitV : AV := .fn (.func 65) [] []
abbrev rowV (R n : Nat) : AV := .msl R 0 n noCap 1
abbrev bE (t : List Int) (k : Nat) (b : List Int) : List (List AV) := [[ls t .no], [I k], [fitV], [rowV 5 b.length], [selfV], ints b]
abbrev bF (t : List Int) (k : Nat) (b : List Int) : List (List AV) := [[ls t .no], [I k], [fitV], [rowV 6 b.length], [selfV], [], ints b]
def Dj (b : List Int) (j : Nat) : List AV := if j = 0 then ints b else []
def Zj (b : List Int) (nx j : Nat) : List (List AV) := if j = 0 then [] else List.replicate (2 * j - 1) [] ++ [ints (b ++ [((el nx (j - 1) : Nat) : Int)])]
def Rj (j : Nat) : Nat := if j = 0 then 5 else 8 + 2 * j
abbrev bJ (t : List Int) (k : Nat) (b : List Int) (fr nx j : Nat) : List (List AV) := [ls t .no] :: [I k] :: [fitV] :: [rowV (Rj j) b.length] :: [selfV] :: Dj b j :: [I fr] :: [.bool false] :: [I (dI (nx : Nat) j)] :: Zj b nx j
abbrev bP (t : List Int) (k : Nat) (b : List Int) (fr nx j R : Nat) (c : List Int) : List (List AV) := [ls t .no] :: [I k] :: [fitV] :: [rowV R c.length] :: [selfV] :: [] :: [I fr] :: [.bool false] :: [I (dI (nx : Nat) j)] :: (List.replicate (R - 9) [] ++ [ints c])
theorem ap_msl {P : Program} {t : TypeId} (hT : appTV P t = true) {R n : Nat} {cs : List AV} {x : Int} {h : H} (hR : h.blk[R]? = some cs) (h0 : 0 < n) (hn : n ≤ cs.length) (h8 : n ≤ 1000) :
    aAppend P t t (rowV R n) (.sl [I x] 1 .full) h = some (rowV h.blk.length (n + 1), { h with blk := h.blk.set R [] ++ [cs.take n ++ [I x]] }) := by
  unfold appTV at hT
  split at hT
  · rename_i e he
    split at hT
    · rename_i i z hi hz
      simp only [Bool.and_eq_true, beq_iff_eq, decide_eq_true_eq] at hT
      obtain ⟨⟨⟨h1, h2⟩, h3⟩, h4⟩ := hT
      have hb : (n + 1) * i.bytes ≤ 2 ^ 47 := Nat.le_trans (Nat.mul_le_mul (Nat.succ_le_succ h8) h2) (by decide)
      have hm : n + 1 ≤ maxLen := Nat.le_trans (Nat.succ_le_succ h8) (by decide)
      have ho : (I x).one = true := rfl
      by_cases c : cs.length = n
      · have ht : cs.take n = cs := List.take_of_length_le (by omega)
        rw [ht]
        simp [aAppend, he, hi, hz, h1, h3, slCells, hR, hb, hm, ho, c, h0]
      · have c2 : n < cs.length := by omega
        simp [aAppend, he, hi, hz, h1, h3, slCells, hR, hb, hm, ho, c, c2]
    · cases hT
  · cases hT
theorem RV.row {ρ : Nat → Nat} {n R m : Nat} (h : R < n) : RV ρ n (rowV R m) (rowV (ρ R) m) := fun Gc G v a => by
  simp only [rowV, VRel, a.φ R h]
theorem RV.self {ρ : Nat → Nat} {n : Nat} (h : 5 ≤ n) (hρ : ∀ i, i < 5 → ρ i = i) : RV ρ n selfV selfV := fun Gc G v a => by
  have e : ∀ i, i < 5 → Gc.φ i = G.φ i := fun i hi => by rw [a.φ i (by omega), hρ i hi]
  simp only [selfV, VRel, VRels, e 0 (by omega), e 1 (by omega), e 2 (by omega), e 3 (by omega), e 4 (by omega)]
theorem bnd_ls (t : List Int) : AV.bnds 0 0 0 [ls t .no] = true := by
  have hb : AV.bnds 0 0 0 (ints t) = true := enc_bnds ints_c1 t 0 0 0
  simp [AV.bnds, AV.bnd, Room.bnd, hb]
theorem bnd_ints (t : List Int) : AV.bnds 0 0 0 (ints t) = true := enc_bnds ints_c1 t 0 0 0
def rhoR (R i : Nat) : Nat := if i = 5 then R else i
theorem rep_get {R b : Nat} {x : List AV} (h1 : 9 ≤ b) (h2 : b < R) : (List.replicate (R - 9) ([] : List AV) ++ [x])[b - 9]? = some [] := by
  rw [List.getElem?_append_left (by simp; omega)]
  simp [List.getElem?_replicate]; omega
theorem rep_end {R : Nat} {x : List AV} : (List.replicate (R - 9) ([] : List AV) ++ [x])[R - 9]? = some x := by
  rw [List.getElem?_append_right (by simp)]; simp
theorem bP_get {t : List Int} {k : Nat} {b : List Int} {fr nx j R : Nat} {c : List Int} {i : Nat} (h : 9 ≤ i) : (bP t k b fr nx j R c)[i]? = (List.replicate (R - 9) ([] : List AV) ++ [ints c])[i - 9]? := by
  obtain ⟨m, rfl⟩ : ∃ m, i = m + 9 := ⟨i - 9, by omega⟩
  rw [Nat.add_sub_cancel]; rfl
theorem bP_len {t : List Int} {k : Nat} {b : List Int} {fr nx j R : Nat} {c : List Int} (h : 9 ≤ R) : (bP t k b fr nx j R c).length = R + 1 := by
  simp only [List.length_cons, List.length_append, List.length_replicate, List.length_nil]; omega
theorem ren_R {t : List Int} {k : Nat} {b c l : List Int} {fr nx j R : Nat} (hR : 9 ≤ R) (hl : l ≠ []) : RenOk (rhoR R) (bE t k c) (bF t k l) (bP t k b fr nx j R c) (bP t k b fr nx j (R + 1) l) where
  inj i j hi hj h := by
    have hi : i < 6 := hi
    have hj : j < 6 := hj
    simp only [rhoR] at h
    split at h <;> split at h <;> omega
  lt i hi := by
    have hi : i < 6 := hi
    rw [bP_len hR, rhoR]; split <;> omega
  cells i cs h := by
    match i, h with
    | 0, h => cases h; exact ⟨_, rfl, .same (bnd_ls t), rfl⟩
    | 1, h => cases h; exact ⟨_, rfl, .same rfl, rfl⟩
    | 2, h => cases h; exact ⟨_, rfl, .same rfl, rfl⟩
    | 3, h => cases h; exact ⟨_, rfl, .cons (RV.row (ρ := rhoR R) (R := 5) (by show 5 < 6; omega)) .nil, rfl⟩
    | 4, h => cases h; exact ⟨_, rfl, .cons (RV.self (by show 5 ≤ 6; omega) fun i hi => by rw [rhoR, if_neg (by omega)]) .nil, rfl⟩
    | 5, h =>
      cases h
      refine ⟨ints c, ?_, .same (bnd_ints c), rfl⟩
      show (bP t k b fr nx j R c)[R]? = _
      rw [bP_get hR, rep_end]
    | i + 6, h => simp at h
  grow := by show 6 ≤ 7; omega
  len := by rw [bP_len hR, bP_len (by omega)]; rfl
  old b' hb hn := by
    rw [bP_len hR] at hb
    have h5 : b' ≠ R := fun e => hn 5 (by show 5 < 6; omega) (by rw [rhoR, if_pos rfl, e])
    have hs : ∀ i, i < 5 → b' ≠ i := fun i hi e => hn i (by show i < 6; omega) (by rw [rhoR, if_neg (by omega), e])
    have h0 := hs 0 (by omega); have h1 := hs 1 (by omega); have h2 := hs 2 (by omega); have h3 := hs 3 (by omega); have h4 := hs 4 (by omega)
    match b', h0, h1, h2, h3, h4 with
    | 5, _, _, _, _, _ => rfl
    | 6, _, _, _, _, _ => rfl
    | 7, _, _, _, _, _ => rfl
    | 8, _, _, _, _, _ => rfl
    | m + 9, _, _, _, _, _ => rw [bP_get (by omega), bP_get (by omega), rep_get (by omega) (by omega), rep_get (by omega) (by omega)]
  new i cs h := by
    have hρ : rhoN (rhoR R) (bE t k c).length (bP t k b fr nx j R c).length = fun i => if i < 6 then rhoR R i else R + 1 + (i - 6) := by
      funext i; rw [rhoN, bP_len hR]; rfl
    rw [hρ]
    match i, h with
    | 0, h => cases h; exact ⟨_, rfl, .same (bnd_ls t), rfl⟩
    | 1, h => cases h; exact ⟨_, rfl, .same rfl, rfl⟩
    | 2, h => cases h; exact ⟨_, rfl, .same rfl, rfl⟩
    | 3, h => cases h; exact ⟨_, rfl, .cons (RV.row (R := 6) (by show 6 < 7; omega)) .nil, rfl⟩
    | 4, h => cases h; exact ⟨_, rfl, .cons (RV.self (by show 5 ≤ 7; omega) fun i hi => by simp only [show i < 6 by omega, if_true]; rw [rhoR, if_neg (by omega)]) .nil, rfl⟩
    | 5, h =>
      cases h
      refine ⟨[], ?_, .nil, rfl⟩
      show (bP t k b fr nx j (R + 1) l)[R]? = _
      rw [bP_get hR, rep_get hR (by omega)]
    | 6, h =>
      cases h
      refine ⟨ints l, ?_, .same (bnd_ints l), rfl⟩
      show (bP t k b fr nx j (R + 1) l)[R + 1]? = _
      rw [bP_get (by omega), rep_end]
    | i + 7, h => simp at h
  dead i hi h := by
    have hi : i < 6 := hi
    match i, hi, h with
    | 0, _, h => simp at h
    | 1, _, h => simp at h
    | 2, _, h => simp at h
    | 3, _, h => simp at h
    | 4, _, h => simp at h
    | 5, _, _ => rfl
  live i hi := by
    have hi : 6 ≤ i := hi
    match i, hi with
    | 6, _ => simp [ints, hl]
    | i + 7, _ => simp
theorem call_R {t : List Int} {k : Nat} {b c l : List Int} {fr nx j R : Nat} {us : List AV} {v : Bool} (hR : 9 ≤ R) (hl : l ≠ []) (hu : AV.bnds 0 0 0 us = true)
    (hc : CallOkB Tryd.prog 0 94 (us ++ [.ptr 3 0, .ptr 1 0, .ptr 2 0, .ptr 4 0, .ptr 0 0]) ⟨bE t k c, [], []⟩ (.bool v) ⟨bF t k l, [], []⟩) :
    CallOkB Tryd.prog 0 94 (us ++ [.ptr 3 0, .ptr 1 0, .ptr 2 0, .ptr 4 0, .ptr 0 0]) ⟨bP t k b fr nx j R c, [], []⟩ (.bool v) ⟨bP t k b fr nx j (R + 1) l, [], []⟩ := by
  refine CallOkB.ren (ren_R hR hl) ?_ (.same rfl) hc [] []
  have hp : ∀ i, i < 5 → RV (rhoR R) (bE t k c).length (.ptr i 0) (.ptr i 0) := fun i hi => by
    have := RV.ptr (ρ := rhoR R) (n := (bE t k c).length) (b := i) (o := 0) (by show i < 6; omega)
    rwa [rhoR, if_neg (by omega)] at this
  have app : ∀ {us : List AV}, AV.bnds 0 0 0 us = true → RVs (rhoR R) (bE t k c).length (us ++ [.ptr 3 0, .ptr 1 0, .ptr 2 0, .ptr 4 0, .ptr 0 0]) (us ++ [.ptr 3 0, .ptr 1 0, .ptr 2 0, .ptr 4 0, .ptr 0 0]) := fun {us} h => by
    induction us with
    | nil => exact .cons (hp 3 (by omega)) (.cons (hp 1 (by omega)) (.cons (hp 2 (by omega)) (.cons (hp 4 (by omega)) (.cons (hp 0 (by omega)) .nil))))
    | cons x us ih =>
      simp only [AV.bnds, Bool.and_eq_true] at h
      exact .cons (.same h.1) (ih h.2)
  exact app hu
end
end Go.Proofs.Rnk

