/- Layer 2: the program's search for a row, from its beginning: its calls among other blocks. -/
import Derived.Test.YtnnhomkkggkkfaaDoorRkCd
import Derived.KernelRfl
set_option linter.unusedSimpArgs false
set_option linter.unusedVariables false
set_option linter.unnecessarySimpa false
set_option maxHeartbeats 4000000
set_option maxRecDepth 100000
namespace Go.Proofs.Rnk
open Go Go.VM
open Go.Proofs.Sur (andn andn_bit andn_le i_wrap i_and i_or i_xor i_andn i_shl i_shr bit_01)
section
attribute [local instance] wrI
abbrev bT (t : List Int) (k : Nat) : List (List AV) := [[ls t .no], [I k], [fitV], [.sl [] 0 .nil], [selfV]]
abbrev bQ (t : List Int) (k : Nat) (fr nx j R : Nat) (c : List Int) : List (List AV) := [ls t .no] :: [I k] :: [fitV] :: [rowV R c.length] :: [selfV] :: [I fr] :: [.bool false] :: [I (dI (nx : Nat) j)] :: (List.replicate (R - 8) [] ++ [ints c])
def RC (j : Nat) : AV := if j = 0 then .sl [] 0 .nil else rowV (7 + 2 * j) 0
def ZT (nx j : Nat) : List (List AV) := if j = 0 then [] else List.replicate (2 * j - 1) [] ++ [ints [((el nx (j - 1) : Nat) : Int)]]
abbrev bV (t : List Int) (k : Nat) (fr nx j : Nat) : List (List AV) := [ls t .no] :: [I k] :: [fitV] :: [RC j] :: [selfV] :: [I fr] :: [.bool false] :: [I (dI (nx : Nat) j)] :: ZT nx j
theorem rep_getT {R b : Nat} {x : List AV} (h1 : 8 ≤ b) (h2 : b < R) : (List.replicate (R - 8) ([] : List AV) ++ [x])[b - 8]? = some [] := by
  rw [List.getElem?_append_left (by simp; omega)]
  simp [List.getElem?_replicate]; omega
theorem rep_endT {R : Nat} {x : List AV} : (List.replicate (R - 8) ([] : List AV) ++ [x])[R - 8]? = some x := by
  rw [List.getElem?_append_right (by simp)]; simp
theorem bQ_get {t : List Int} {k : Nat} {fr nx j R : Nat} {c : List Int} {i : Nat} (h : 8 ≤ i) : (bQ t k fr nx j R c)[i]? = (List.replicate (R - 8) ([] : List AV) ++ [ints c])[i - 8]? := by
  obtain ⟨m, rfl⟩ : ∃ m, i = m + 8 := ⟨i - 8, by omega⟩
  rw [Nat.add_sub_cancel]; rfl
theorem bQ_len {t : List Int} {k : Nat} {fr nx j R : Nat} {c : List Int} (h : 8 ≤ R) : (bQ t k fr nx j R c).length = R + 1 := by
  simp only [List.length_cons, List.length_append, List.length_replicate, List.length_nil]; omega
theorem ren_T {t : List Int} {k : Nat} {c l : List Int} {fr nx j R : Nat} (hR : 8 ≤ R) (hl : l ≠ []) : RenOk (rhoR R) (bE t k c) (bF t k l) (bQ t k fr nx j R c) (bQ t k fr nx j (R + 1) l) where
  inj i j hi hj h := by
    have hi : i < 6 := hi
    have hj : j < 6 := hj
    simp only [rhoR] at h
    split at h <;> split at h <;> omega
  lt i hi := by
    have hi : i < 6 := hi
    rw [bQ_len hR, rhoR]; split <;> omega
  cells i cs h := by
    match i, h with
    | 0, h => cases h; exact ⟨_, rfl, .same (bnd_ls t), rfl⟩
    | 1, h => cases h; exact ⟨_, rfl, .same rfl, rfl⟩
    | 2, h => cases h; exact ⟨_, rfl, .same rfl, rfl⟩
    | 3, h => cases h; exact ⟨_, rfl, .cons (RV.row (ρ := rhoR R) (R := 5) (by show 5 < 6; omega)) .nil, rfl⟩
    | 4, h => cases h; exact ⟨_, rfl, .cons (RV.self (by show 5 ≤ 6; omega) fun i hi => by rw [rhoR, if_neg (by omega)]) .nil, rfl⟩
    | 5, h =>
      cases h
      refine ⟨ints c, ?_, .same (bnd_ints c), rfl⟩
      show (bQ t k fr nx j R c)[R]? = _
      rw [bQ_get hR, rep_endT]
    | i + 6, h => simp at h
  grow := by show 6 ≤ 7; omega
  len := by rw [bQ_len hR, bQ_len (by omega)]; rfl
  old b' hb hn := by
    rw [bQ_len hR] at hb
    have h5 : b' ≠ R := fun e => hn 5 (by show 5 < 6; omega) (by rw [rhoR, if_pos rfl, e])
    have hs : ∀ i, i < 5 → b' ≠ i := fun i hi e => hn i (by show i < 6; omega) (by rw [rhoR, if_neg (by omega), e])
    have h0 := hs 0 (by omega); have h1 := hs 1 (by omega); have h2 := hs 2 (by omega); have h3 := hs 3 (by omega); have h4 := hs 4 (by omega)
    match b', h0, h1, h2, h3, h4 with
    | 5, _, _, _, _, _ => rfl
    | 6, _, _, _, _, _ => rfl
    | 7, _, _, _, _, _ => rfl
    | m + 8, _, _, _, _, _ => rw [bQ_get (by omega), bQ_get (by omega), rep_getT (by omega) (by omega), rep_getT (by omega) (by omega)]
  new i cs h := by
    have hρ : rhoN (rhoR R) (bE t k c).length (bQ t k fr nx j R c).length = fun i => if i < 6 then rhoR R i else R + 1 + (i - 6) := by
      funext i; rw [rhoN, bQ_len hR]; rfl
    rw [hρ]
    match i, h with
    | 0, h => cases h; exact ⟨_, rfl, .same (bnd_ls t), rfl⟩
    | 1, h => cases h; exact ⟨_, rfl, .same rfl, rfl⟩
    | 2, h => cases h; exact ⟨_, rfl, .same rfl, rfl⟩
    | 3, h => cases h; exact ⟨_, rfl, .cons (RV.row (R := 6) (by show 6 < 7; omega)) .nil, rfl⟩
    | 4, h => cases h; exact ⟨_, rfl, .cons (RV.self (by show 5 ≤ 7; omega) fun i hi => by simp only [show i < 6 by omega, if_true]; rw [rhoR, if_neg (by omega)]) .nil, rfl⟩
    | 5, h =>
      cases h
      refine ⟨[], ?_, .nil, rfl⟩
      show (bQ t k fr nx j (R + 1) l)[R]? = _
      rw [bQ_get hR, rep_getT hR (by omega)]
    | 6, h =>
      cases h
      refine ⟨ints l, ?_, .same (bnd_ints l), rfl⟩
      show (bQ t k fr nx j (R + 1) l)[R + 1]? = _
      rw [bQ_get (by omega), rep_endT]
    | i + 7, h => simp at h
  dead i hi h := by
    have hi : i < 6 := hi
    match i, hi, h with
    | 0, _, h => simp at h
    | 1, _, h => simp at h
    | 2, _, h => simp at h
    | 3, _, h => simp at h
    | 4, _, h => simp at h
    | 5, _, _ => rfl
  live i hi := by
    have hi : 6 ≤ i := hi
    match i, hi with
    | 6, _ => simp [ints, hl]
    | i + 7, _ => simp
theorem call_T {t : List Int} {k : Nat} {c l : List Int} {fr nx j R : Nat} {us : List AV} {v : Bool} (hR : 8 ≤ R) (hl : l ≠ []) (hu : AV.bnds 0 0 0 us = true)
    (hc : CallOkB Tryd.prog 0 94 (us ++ [.ptr 3 0, .ptr 1 0, .ptr 2 0, .ptr 4 0, .ptr 0 0]) ⟨bE t k c, [], []⟩ (.bool v) ⟨bF t k l, [], []⟩) :
    CallOkB Tryd.prog 0 94 (us ++ [.ptr 3 0, .ptr 1 0, .ptr 2 0, .ptr 4 0, .ptr 0 0]) ⟨bQ t k fr nx j R c, [], []⟩ (.bool v) ⟨bQ t k fr nx j (R + 1) l, [], []⟩ := by
  refine CallOkB.ren (ren_T hR hl) ?_ (.same rfl) hc [] []
  have hp : ∀ i, i < 5 → RV (rhoR R) (bE t k c).length (.ptr i 0) (.ptr i 0) := fun i hi => by
    have := RV.ptr (ρ := rhoR R) (n := (bE t k c).length) (b := i) (o := 0) (by show i < 6; omega)
    rwa [rhoR, if_neg (by omega)] at this
  have app : ∀ {us : List AV}, AV.bnds 0 0 0 us = true → RVs (rhoR R) (bE t k c).length (us ++ [.ptr 3 0, .ptr 1 0, .ptr 2 0, .ptr 4 0, .ptr 0 0]) (us ++ [.ptr 3 0, .ptr 1 0, .ptr 2 0, .ptr 4 0, .ptr 0 0]) := fun {us} h => by
    induction us with
    | nil => exact .cons (hp 3 (by omega)) (.cons (hp 1 (by omega)) (.cons (hp 2 (by omega)) (.cons (hp 4 (by omega)) (.cons (hp 0 (by omega)) .nil))))
    | cons x us ih =>
      simp only [AV.bnds, Bool.and_eq_true] at h
      exact .cons (.same h.1) (ih h.2)
  exact app hu
theorem ap_nil1 {P : Program} {t : TypeId} (hT : appTV P t = true) {x : Int} {h : H} :
    aAppend P t t (.sl [] 0 .nil) (.sl [I x] 1 .full) h = some (rowV h.blk.length 1, { h with blk := h.blk ++ [[I x]] }) := by
  unfold appTV at hT
  split at hT
  · rename_i e he
    split at hT
    · rename_i i z hi hz
      simp only [Bool.and_eq_true, beq_iff_eq, decide_eq_true_eq] at hT
      obtain ⟨⟨⟨h1, h2⟩, h3⟩, h4⟩ := hT
      have hb : i.bytes ≤ 140737488355328 := Nat.le_trans h2 (by decide)
      have ho : (I x).one = true := rfl
      simp [aAppend, he, hi, hz, h1, h3, h4, slCells, hb, ho]
      decide
    · cases hT
  · cases hT
theorem ap_msl0 {P : Program} {t : TypeId} (hT : appTV P t = true) {R : Nat} {y x : Int} {h : H} (hR : h.blk[R]? = some (ints [y])) :
    aAppend P t t (rowV R 0) (.sl [I x] 1 .full) h = some (rowV h.blk.length 1, { h with blk := h.blk.set R [] ++ [[I x]] }) := by
  unfold appTV at hT
  split at hT
  · rename_i e he
    split at hT
    · rename_i i z hi hz
      simp only [Bool.and_eq_true, beq_iff_eq, decide_eq_true_eq] at hT
      obtain ⟨⟨⟨h1, h2⟩, h3⟩, h4⟩ := hT
      have hb : i.bytes ≤ 140737488355328 := Nat.le_trans h2 (by decide)
      have ho : (I x).one = true := rfl
      simp [aAppend, he, hi, hz, h1, h3, slCells, hR, hb, ho]
      decide
    · cases hT
  · cases hT
theorem ap_T {t : List Int} {k fr nx j : Nat} {p : Int} :
    aAppend Tryd.prog 22 22 (RC j) (.sl [I p] 1 .full) ⟨bV t k fr nx j, [], []⟩ = some (rowV (8 + 2 * j) [p].length, ⟨[ls t .no] :: [I k] :: [fitV] :: [RC j] :: [selfV] :: [I fr] :: [.bool false] :: [I (dI (nx : Nat) j)] :: (List.replicate (8 + 2 * j - 8) [] ++ [ints [p]]), [], []⟩) := by
  have hA : appTV Tryd.prog 22 = true := by kernel_rfl
  match j with
  | 0 => exact ap_nil1 (P := Tryd.prog) (t := 22) hA (x := p) (h := ⟨bV t k fr nx 0, [], []⟩)
  | j + 1 =>
    have hz : ZT nx (j + 1) = List.replicate (2 * j + 1) [] ++ [ints [((el nx j : Nat) : Int)]] := by rw [ZT, if_neg (by omega)]; rfl
    have hR : RC (j + 1) = rowV (9 + 2 * j) 0 := by rw [RC, if_neg (by omega), show 7 + 2 * (j + 1) = 9 + 2 * j by omega]
    have hget : (bV t k fr nx (j + 1))[9 + 2 * j]? = some (ints [((el nx j : Nat) : Int)]) := by
      rw [show 9 + 2 * j = (2 * j + 1) + 8 by omega]
      show (ZT nx (j + 1))[2 * j + 1]? = _
      rw [hz, List.getElem?_append_right (by simp)]; simp
    have := ap_msl0 (P := Tryd.prog) (t := 22) hA (R := 9 + 2 * j) (y := ((el nx j : Nat) : Int)) (x := p) (h := ⟨bV t k fr nx (j + 1), [], []⟩) hget
    rw [hR, this]
    have hlen : (bV t k fr nx (j + 1)).length = 8 + 2 * (j + 1) := by
      show (ZT nx (j + 1)).length + 8 = _
      rw [hz]; simp; omega
    rw [hlen]
    congr 3
    rw [show 9 + 2 * j = (2 * j + 1) + 8 by omega]
    show [ls t .no] :: [I k] :: [fitV] :: [RC (j + 1)] :: [selfV] :: [I fr] :: [.bool false] :: [I (dI (nx : Nat) (j + 1))] :: ((ZT nx (j + 1)).set (2 * j + 1) [] ++ [[I p]]) = _
    have e : List.replicate (2 * j + 1 + 1) ([] : List AV) = List.replicate (2 * j + 1) [] ++ [[]] := List.replicate_succ'
    rw [hz, hR, set_rep, show 8 + 2 * (j + 1) - 8 = 2 * j + 1 + 1 by omega, e, show 9 + 2 * j = 2 * j + 1 + 8 by omega]
    rfl
noncomputable def c94T (f : Nat) (hok : Ok94 f) : CtrB Tryd.prog 0 where
  f := 94
  X := X94
  args x := [I x.fr, I x.nx, .ptr 3 0, .ptr 1 0, .ptr 2 0, .ptr 4 0, .ptr 0 0]
  pre x h := h = ⟨bQ x.t x.k x.fr0 x.nx0 x.j x.R x.c, [], []⟩ ∧ ExP x.t x.c f x.k x.fr x.nx ∧ 8 ≤ x.R
  res x _ := (.bool (exR x.t x.c f x.fr).isSome, ⟨bQ x.t x.k x.fr0 x.nx0 x.j (x.R + 1) ((exR x.t x.c f x.fr).getD x.c), [], []⟩)
  det := by
    rintro ⟨t, k, c, fr, nx, fr0, nx0, j, R⟩ ⟨t', k', c', fr', nx', fr0', nx0', j', R'⟩ h e p p'
    have h1 := p.1.symm.trans p'.1
    simp only [H.mk.injEq, List.cons.injEq, and_true, AV.sl.injEq, AV.int.injEq, AV.msl.injEq, true_and] at h1
    simp only [List.cons.injEq, AV.int.injEq, and_true, true_and] at e
    obtain ⟨⟨a1, _⟩, a2, ⟨a3, _⟩, a4, a5, a6⟩ := h1
    obtain ⟨e1, e2⟩ := e
    have a1 := ints_inj a1
    have a2 : k = k' := by omega
    have a4 : fr0 = fr0' := by omega
    have e1 : fr = fr' := by omega
    subst a1 a2 a3 a4 e1
    have a7 := List.append_cancel_left a6
    simp only [List.cons.injEq, and_true] at a7
    have a7 := ints_inj a7
    subst a7
    simp only [bQ, a5]
  ok := by
    rintro ⟨t, k, c, fr, nx, fr0, nx0, j, R⟩ h ⟨h1, h2, h3⟩
    have h1 : h = ⟨bQ t k fr0 nx0 j R c, [], []⟩ := h1
    subst h1
    have hp : ExP t c f k fr nx := h2
    exact ⟨ok94.call, call_T (us := [I fr, I nx]) h3 (getD_ne hp.ne fun l hl => wyM_ne _ _ _ l hp.ne hl) rfl (hok t k c fr nx hp)⟩
end
end Go.Proofs.Rnk

