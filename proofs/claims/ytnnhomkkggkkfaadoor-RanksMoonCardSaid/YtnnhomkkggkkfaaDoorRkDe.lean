/- Layer 2: the program's search for a round from its beginning: its calls among other blocks. -/
import Derived.Test.YtnnhomkkggkkfaaDoorRkDd
import Derived.KernelRfl
set_option linter.unusedSimpArgs false
set_option linter.unusedVariables false
set_option linter.unnecessarySimpa false
set_option maxHeartbeats 4000000
set_option maxRecDepth 100000
namespace Go.Proofs.Rnk
open Go Go.VM
open Go.Proofs.Sur (andn andn_bit andn_le i_wrap i_and i_or i_xor i_andn i_shl i_shr bit_01)
section
attribute [local instance] wrI
abbrev bTw (t : List Int) (k : Nat) : List (List AV) := [[ls t .no], [ls t .no], [I k], [fitW], [.sl [] 0 .nil], [selfW]]
abbrev bQw (t : List Int) (k : Nat) (fr nx j R : Nat) (c : List Int) : List (List AV) := [ls t .no] :: [ls t .no] :: [I k] :: [fitW] :: [rowV R c.length] :: [selfW] :: [I fr] :: [.bool false] :: [I (dI (nx : Nat) j)] :: (List.replicate (R - 9) [] ++ [ints c])
def RCw (j : Nat) : AV := if j = 0 then .sl [] 0 .nil else rowV (8 + 2 * j) 0
def ZTw (nx j : Nat) : List (List AV) := if j = 0 then [] else List.replicate (2 * j - 1) [] ++ [ints [((el nx (j - 1) : Nat) : Int)]]
abbrev bVw (t : List Int) (k : Nat) (fr nx j : Nat) : List (List AV) := [ls t .no] :: [ls t .no] :: [I k] :: [fitW] :: [RCw j] :: [selfW] :: [I fr] :: [.bool false] :: [I (dI (nx : Nat) j)] :: ZTw nx j
theorem rep_getTw {R b : Nat} {x : List AV} (h1 : 9 ≤ b) (h2 : b < R) : (List.replicate (R - 9) ([] : List AV) ++ [x])[b - 9]? = some [] := by
  rw [List.getElem?_append_left (by simp; omega)]
  simp [List.getElem?_replicate]; omega
theorem rep_endTw {R : Nat} {x : List AV} : (List.replicate (R - 9) ([] : List AV) ++ [x])[R - 9]? = some x := by
  rw [List.getElem?_append_right (by simp)]; simp
theorem bQw_get {t : List Int} {k : Nat} {fr nx j R : Nat} {c : List Int} {i : Nat} (h : 9 ≤ i) : (bQw t k fr nx j R c)[i]? = (List.replicate (R - 9) ([] : List AV) ++ [ints c])[i - 9]? := by
  obtain ⟨m, rfl⟩ : ∃ m, i = m + 9 := ⟨i - 9, by omega⟩
  rw [Nat.add_sub_cancel]; rfl
theorem bQw_len {t : List Int} {k : Nat} {fr nx j R : Nat} {c : List Int} (h : 9 ≤ R) : (bQw t k fr nx j R c).length = R + 1 := by
  simp only [List.length_cons, List.length_append, List.length_replicate, List.length_nil]; omega
theorem ren_Tw {t : List Int} {k : Nat} {c l : List Int} {fr nx j R : Nat} (hR : 9 ≤ R) (hl : l ≠ []) : RenOk (rhoW R) (bEw t k c) (bFw t k l) (bQw t k fr nx j R c) (bQw t k fr nx j (R + 1) l) where
  inj i j hi hj h := by
    have hi : i < 7 := hi
    have hj : j < 7 := hj
    simp only [rhoW] at h
    split at h <;> split at h <;> omega
  lt i hi := by
    have hi : i < 7 := hi
    rw [bQw_len hR, rhoW]; split <;> omega
  cells i cs h := by
    match i, h with
    | 0, h => cases h; exact ⟨_, rfl, .same (bnd_ls t), rfl⟩
    | 1, h => cases h; exact ⟨_, rfl, .same (bnd_ls t), rfl⟩
    | 2, h => cases h; exact ⟨_, rfl, .same rfl, rfl⟩
    | 3, h => cases h; exact ⟨_, rfl, .cons (RV.fitW (by show 1 ≤ 7; omega) (by rw [rhoW, if_neg (by omega)])) .nil, rfl⟩
    | 4, h => cases h; exact ⟨_, rfl, .cons (RV.row (ρ := rhoW R) (R := 6) (by show 6 < 7; omega)) .nil, rfl⟩
    | 5, h => cases h; exact ⟨_, rfl, .cons (RV.selfW (by show 6 ≤ 7; omega) fun i hi => by rw [rhoW, if_neg (by omega)]) .nil, rfl⟩
    | 6, h =>
      cases h
      refine ⟨ints c, ?_, .same (bnd_ints c), rfl⟩
      show (bQw t k fr nx j R c)[R]? = _
      rw [bQw_get hR, rep_endTw]
    | i + 7, h => simp at h
  grow := by show 7 ≤ 8; omega
  len := by rw [bQw_len hR, bQw_len (by omega)]; rfl
  old b' hb hn := by
    rw [bQw_len hR] at hb
    have h5 : b' ≠ R := fun e => hn 6 (by show 6 < 7; omega) (by rw [rhoW, if_pos rfl, e])
    have hs : ∀ i, i < 6 → b' ≠ i := fun i hi e => hn i (by show i < 7; omega) (by rw [rhoW, if_neg (by omega), e])
    have h0 := hs 0 (by omega); have h1 := hs 1 (by omega); have h2 := hs 2 (by omega); have h3 := hs 3 (by omega); have h4 := hs 4 (by omega); have h6 := hs 5 (by omega)
    match b', h0, h1, h2, h3, h4, h6 with
    | 6, _, _, _, _, _, _ => rfl
    | 7, _, _, _, _, _, _ => rfl
    | 8, _, _, _, _, _, _ => rfl
    | m + 9, _, _, _, _, _, _ => rw [bQw_get (by omega), bQw_get (by omega), rep_getTw (by omega) (by omega), rep_getTw (by omega) (by omega)]
  new i cs h := by
    have hρ : rhoN (rhoW R) (bEw t k c).length (bQw t k fr nx j R c).length = fun i => if i < 7 then rhoW R i else R + 1 + (i - 7) := by
      funext i; rw [rhoN, bQw_len hR]; rfl
    rw [hρ]
    match i, h with
    | 0, h => cases h; exact ⟨_, rfl, .same (bnd_ls t), rfl⟩
    | 1, h => cases h; exact ⟨_, rfl, .same (bnd_ls t), rfl⟩
    | 2, h => cases h; exact ⟨_, rfl, .same rfl, rfl⟩
    | 3, h => cases h; exact ⟨_, rfl, .cons (RV.fitW (by show 1 ≤ 8; omega) (by simp only [show 0 < 7 by omega, if_true]; rw [rhoW, if_neg (by omega)])) .nil, rfl⟩
    | 4, h => cases h; exact ⟨_, rfl, .cons (RV.row (R := 7) (by show 7 < 8; omega)) .nil, rfl⟩
    | 5, h => cases h; exact ⟨_, rfl, .cons (RV.selfW (by show 6 ≤ 8; omega) fun i hi => by simp only [show i < 7 by omega, if_true]; rw [rhoW, if_neg (by omega)]) .nil, rfl⟩
    | 6, h =>
      cases h
      refine ⟨[], ?_, .nil, rfl⟩
      show (bQw t k fr nx j (R + 1) l)[R]? = _
      rw [bQw_get hR, rep_getTw hR (by omega)]
    | 7, h =>
      cases h
      refine ⟨ints l, ?_, .same (bnd_ints l), rfl⟩
      show (bQw t k fr nx j (R + 1) l)[R + 1]? = _
      rw [bQw_get (by omega), rep_endTw]
    | i + 8, h => simp at h
  dead i hi h := by
    have hi : i < 7 := hi
    match i, hi, h with
    | 0, _, h => simp at h
    | 1, _, h => simp at h
    | 2, _, h => simp at h
    | 3, _, h => simp at h
    | 4, _, h => simp at h
    | 5, _, h => simp at h
    | 6, _, _ => rfl
  live i hi := by
    have hi : 7 ≤ i := hi
    match i, hi with
    | 7, _ => simp [ints, hl]
    | i + 8, _ => simp
theorem call_Tw {t : List Int} {k : Nat} {c l : List Int} {fr nx j R : Nat} {us : List AV} {v : Bool} (hR : 9 ≤ R) (hl : l ≠ []) (hu : AV.bnds 0 0 0 us = true)
    (hc : CallOkB Tryd.prog 0 94 (us ++ [.ptr 4 0, .ptr 2 0, .ptr 3 0, .ptr 5 0, .ptr 1 0]) ⟨bEw t k c, [], []⟩ (.bool v) ⟨bFw t k l, [], []⟩) :
    CallOkB Tryd.prog 0 94 (us ++ [.ptr 4 0, .ptr 2 0, .ptr 3 0, .ptr 5 0, .ptr 1 0]) ⟨bQw t k fr nx j R c, [], []⟩ (.bool v) ⟨bQw t k fr nx j (R + 1) l, [], []⟩ := by
  refine CallOkB.ren (ren_Tw hR hl) ?_ (.same rfl) hc [] []
  have hp : ∀ i, i < 6 → RV (rhoW R) (bEw t k c).length (.ptr i 0) (.ptr i 0) := fun i hi => by
    have := RV.ptr (ρ := rhoW R) (n := (bEw t k c).length) (b := i) (o := 0) (by show i < 7; omega)
    rwa [rhoW, if_neg (by omega)] at this
  have app : ∀ {us : List AV}, AV.bnds 0 0 0 us = true → RVs (rhoW R) (bEw t k c).length (us ++ [.ptr 4 0, .ptr 2 0, .ptr 3 0, .ptr 5 0, .ptr 1 0]) (us ++ [.ptr 4 0, .ptr 2 0, .ptr 3 0, .ptr 5 0, .ptr 1 0]) := fun {us} h => by
    induction us with
    | nil => exact .cons (hp 4 (by omega)) (.cons (hp 2 (by omega)) (.cons (hp 3 (by omega)) (.cons (hp 5 (by omega)) (.cons (hp 1 (by omega)) .nil))))
    | cons x us ih =>
      simp only [AV.bnds, Bool.and_eq_true] at h
      exact .cons (.same h.1) (ih h.2)
  exact app hu
theorem ap_Tw {t : List Int} {k fr nx j : Nat} {p : Int} :
    aAppend Tryd.prog 22 22 (RCw j) (.sl [I p] 1 .full) ⟨bVw t k fr nx j, [], []⟩ = some (rowV (9 + 2 * j) [p].length, ⟨[ls t .no] :: [ls t .no] :: [I k] :: [fitW] :: [RCw j] :: [selfW] :: [I fr] :: [.bool false] :: [I (dI (nx : Nat) j)] :: (List.replicate (9 + 2 * j - 9) [] ++ [ints [p]]), [], []⟩) := by
  have hA : appTV Tryd.prog 22 = true := by kernel_rfl
  match j with
  | 0 => exact ap_nil1 (P := Tryd.prog) (t := 22) hA (x := p) (h := ⟨bVw t k fr nx 0, [], []⟩)
  | j + 1 =>
    have hz : ZTw nx (j + 1) = List.replicate (2 * j + 1) [] ++ [ints [((el nx j : Nat) : Int)]] := by rw [ZTw, if_neg (by omega)]; rfl
    have hR : RCw (j + 1) = rowV (10 + 2 * j) 0 := by rw [RCw, if_neg (by omega), show 8 + 2 * (j + 1) = 10 + 2 * j by omega]
    have hget : (bVw t k fr nx (j + 1))[10 + 2 * j]? = some (ints [((el nx j : Nat) : Int)]) := by
      rw [show 10 + 2 * j = (2 * j + 1) + 9 by omega]
      show (ZTw nx (j + 1))[2 * j + 1]? = _
      rw [hz, List.getElem?_append_right (by simp)]; simp
    have := ap_msl0 (P := Tryd.prog) (t := 22) hA (R := 10 + 2 * j) (y := ((el nx j : Nat) : Int)) (x := p) (h := ⟨bVw t k fr nx (j + 1), [], []⟩) hget
    rw [hR, this]
    have hlen : (bVw t k fr nx (j + 1)).length = 9 + 2 * (j + 1) := by
      show (ZTw nx (j + 1)).length + 9 = _
      rw [hz]; simp; omega
    rw [hlen]
    congr 3
    rw [show 10 + 2 * j = (2 * j + 1) + 9 by omega]
    show [ls t .no] :: [ls t .no] :: [I k] :: [fitW] :: [RCw (j + 1)] :: [selfW] :: [I fr] :: [.bool false] :: [I (dI (nx : Nat) (j + 1))] :: ((ZTw nx (j + 1)).set (2 * j + 1) [] ++ [[I p]]) = _
    have e : List.replicate (2 * j + 1 + 1) ([] : List AV) = List.replicate (2 * j + 1) [] ++ [[]] := List.replicate_succ'
    rw [hz, hR, set_rep, show 9 + 2 * (j + 1) - 9 = 2 * j + 1 + 1 by omega, e, show 10 + 2 * j = 2 * j + 1 + 9 by omega]
    rfl
noncomputable def c94Tw (f : Nat) (hok : Ok94w f) : CtrB Tryd.prog 0 where
  f := 94
  X := X94
  args x := [I x.fr, I x.nx, .ptr 4 0, .ptr 2 0, .ptr 3 0, .ptr 5 0, .ptr 1 0]
  pre x h := h = ⟨bQw x.t x.k x.fr0 x.nx0 x.j x.R x.c, [], []⟩ ∧ ExP x.t x.c f x.k x.fr x.nx ∧ 9 ≤ x.R
  res x _ := (.bool (exW x.t x.c f x.fr).isSome, ⟨bQw x.t x.k x.fr0 x.nx0 x.j (x.R + 1) ((exW x.t x.c f x.fr).getD x.c), [], []⟩)
  det := by
    rintro ⟨t, k, c, fr, nx, fr0, nx0, j, R⟩ ⟨t', k', c', fr', nx', fr0', nx0', j', R'⟩ h e p p'
    have h1 := p.1.symm.trans p'.1
    simp only [H.mk.injEq, List.cons.injEq, and_true, AV.sl.injEq, AV.int.injEq, AV.msl.injEq, true_and] at h1
    simp only [List.cons.injEq, AV.int.injEq, and_true, true_and] at e
    obtain ⟨⟨a1, _⟩, _, a2, ⟨a3, _⟩, a4, a5, a6⟩ := h1
    obtain ⟨e1, e2⟩ := e
    have a1 := ints_inj a1
    have a2 : k = k' := by omega
    have a4 : fr0 = fr0' := by omega
    have e1 : fr = fr' := by omega
    subst a1 a2 a3 a4 e1
    have a7 := List.append_cancel_left a6
    simp only [List.cons.injEq, and_true] at a7
    have a7 := ints_inj a7
    subst a7
    simp only [bQw, a5]
  ok := by
    rintro ⟨t, k, c, fr, nx, fr0, nx0, j, R⟩ h ⟨h1, h2, h3⟩
    have h1 : h = ⟨bQw t k fr0 nx0 j R c, [], []⟩ := h1
    subst h1
    have hp : ExP t c f k fr nx := h2
    exact ⟨ok94.call, call_Tw (us := [I fr, I nx]) h3 (getD_ne hp.ne fun l hl => wyM_ne _ _ _ l hp.ne hl) rfl (hok t k c fr nx hp)⟩
end
end Go.Proofs.Rnk

