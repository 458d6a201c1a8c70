/- Layer 2: the program's search for a round: the contract of a call in a round. -/
import Derived.Test.YtnnhomkkggkkfaaDoorRkDa
import Derived.KernelRfl
set_option linter.unusedSimpArgs false
set_option linter.unusedVariables false
set_option linter.unnecessarySimpa false
set_option maxHeartbeats 4000000
set_option maxRecDepth 100000
namespace Go.Proofs.Rnk
open Go Go.VM
open Go.Proofs.Sur (andn andn_bit andn_le i_wrap i_and i_or i_xor i_andn i_shl i_shr bit_01)
section
attribute [local instance] wrI
abbrev exW (t b : List Int) (f fr : Nat) : Option (List Int) := wyM (sn t) t.length true f b (metF t fr)
abbrev caps6 : List AV := [.ptr 4 0, .ptr 2 0, .ptr 3 0, .ptr 5 0, .ptr 1 0]
def Ok94w (f : Nat) : Prop := ∀ (t : List Int) (k : Nat) (b : List Int) (fr nx : Nat), ExP t b f k fr nx →
  CallOkB Tryd.prog 0 94 ([I fr, I nx] ++ caps6) ⟨bEw t k b, [], []⟩ (.bool (exW t b f fr).isSome) ⟨bFw t k ((exW t b f fr).getD b), [], []⟩
structure P94w (f : Nat) (x : X94) : Prop where
  p : ExP x.t x.c f x.k x.fr x.nx
  R : 10 ≤ x.R
noncomputable def c94w (f : Nat) (hok : Ok94w f) : CtrB Tryd.prog 0 where
  f := 94
  X := X94
  args x := [I x.fr, I x.nx, .ptr 4 0, .ptr 2 0, .ptr 3 0, .ptr 5 0, .ptr 1 0]
  pre x h := h = ⟨bPw x.t x.k x.c x.fr0 x.nx0 x.j x.R x.c, [], []⟩ ∧ P94w f x
  res x _ := (.bool (exW x.t x.c f x.fr).isSome, ⟨bPw x.t x.k x.c x.fr0 x.nx0 x.j (x.R + 1) ((exW x.t x.c f x.fr).getD x.c), [], []⟩)
  det := by
    rintro ⟨t, k, c, fr, nx, fr0, nx0, j, R⟩ ⟨t', k', c', fr', nx', fr0', nx0', j', R'⟩ h e p p'
    have h1 := p.1.symm.trans p'.1
    simp only [H.mk.injEq, List.cons.injEq, and_true, AV.sl.injEq, AV.int.injEq, AV.msl.injEq, true_and] at h1
    simp only [List.cons.injEq, AV.int.injEq, and_true, true_and] at e
    obtain ⟨⟨a1, _⟩, _, a2, ⟨a3, _⟩, a4, a5, a6⟩ := h1
    obtain ⟨e1, e2⟩ := e
    have a1 := ints_inj a1
    have a2 : k = k' := by omega
    have a4 : fr0 = fr0' := by omega
    have e1 : fr = fr' := by omega
    subst a1 a2 a3 a4 e1
    have a7 := List.append_cancel_left a6
    simp only [List.cons.injEq, and_true] at a7
    have a7 := ints_inj a7
    subst a7
    simp only [bPw, a5]
  ok := by
    rintro ⟨t, k, c, fr, nx, fr0, nx0, j, R⟩ h ⟨h1, h2⟩
    have h1 : h = ⟨bPw t k c fr0 nx0 j R c, [], []⟩ := h1
    subst h1
    have hp : ExP t c f k fr nx := h2.p
    exact ⟨ok94.call, call_Rw (us := [I fr, I nx]) h2.R (getD_ne hp.ne fun l hl => wyM_ne _ _ _ l hp.ne hl) rfl (hok t k c fr nx hp)⟩
theorem ap_Jw {t : List Int} {k : Nat} {b : List Int} {fr nx j : Nat} {p : Int} (hb : b ≠ []) (h8 : b.length ≤ 100) :
    aAppend Tryd.prog 22 22 (rowV (Rw j) b.length) (.sl [I p] 1 .full) ⟨bJw t k b fr nx j, [], []⟩ = some (rowV (10 + 2 * j) (b ++ [p]).length, ⟨[ls t .no] :: [ls t .no] :: [I k] :: [fitW] :: [rowV (Rw j) b.length] :: [selfW] :: [] :: [I fr] :: [.bool false] :: [I (dI (nx : Nat) j)] :: (List.replicate (10 + 2 * j - 10) [] ++ [ints (b ++ [p])]), [], []⟩) := by
  have h0 : 0 < b.length := List.length_pos_iff.2 hb
  have hi : ints (b ++ [p]) = ints b ++ [I p] := by simp [ints]
  have hl : (b ++ [p]).length = b.length + 1 := by simp
  have hA : appTV Tryd.prog 22 = true := by kernel_rfl
  rw [hl, hi]
  match j with
  | 0 =>
    have := ap_msl (P := Tryd.prog) (t := 22) hA (R := 6) (n := b.length) (cs := ints b) (x := p) (h := ⟨bJw t k b fr nx 0, [], []⟩) rfl h0 (by simp) (by omega)
    rw [List.take_of_length_le (by simp)] at this
    exact this
  | j + 1 =>
    have hz : Zj b nx (j + 1) = List.replicate (2 * j + 1) [] ++ [ints (b ++ [((el nx j : Nat) : Int)])] := by
      rw [Zj, if_neg (by omega)]; rfl
    have hR : Rw (j + 1) = 9 + 2 * (j + 1) := by rw [Rw, if_neg (by omega)]
    have hD : Dj b (j + 1) = [] := by rw [Dj, if_neg (by omega)]
    have hx : ints (b ++ [((el nx j : Nat) : Int)]) = ints b ++ [I (el nx j : Nat)] := by simp [ints]
    have hget : (bJw t k b fr nx (j + 1))[9 + 2 * (j + 1)]? = some (ints (b ++ [((el nx j : Nat) : Int)])) := by
      rw [show 9 + 2 * (j + 1) = (2 * j + 1) + 10 by omega]
      show (Zj b nx (j + 1))[2 * j + 1]? = _
      rw [hz, List.getElem?_append_right (by simp)]; simp
    have := ap_msl (P := Tryd.prog) (t := 22) hA (R := 9 + 2 * (j + 1)) (n := b.length) (cs := ints (b ++ [((el nx j : Nat) : Int)])) (x := p) (h := ⟨bJw t k b fr nx (j + 1), [], []⟩) hget h0 (by simp) (by omega)
    rw [hR]
    rw [this]
    have hlen : (bJw t k b fr nx (j + 1)).length = 10 + 2 * (j + 1) := by
      show (Zj b nx (j + 1)).length + 10 = _
      rw [hz]; simp; omega
    have htk : (ints (b ++ [((el nx j : Nat) : Int)])).take b.length = ints b := by rw [hx, List.take_left' (by simp)]
    rw [hlen, htk]
    congr 3
    rw [show 9 + 2 * (j + 1) = (2 * j + 1) + 10 by omega]
    show [ls t .no] :: [ls t .no] :: [I k] :: [fitW] :: [rowV (Rw (j + 1)) b.length] :: [selfW] :: Dj b (j + 1) :: [I fr] :: [.bool false] :: [I (dI (nx : Nat) (j + 1))] :: ((Zj b nx (j + 1)).set (2 * j + 1) [] ++ [ints b ++ [I p]]) = _
    have e : List.replicate (2 * j + 1 + 1) ([] : List AV) = List.replicate (2 * j + 1) [] ++ [[]] := List.replicate_succ'
    rw [hz, hR, hD, set_rep, show 10 + 2 * (j + 1) - 10 = 2 * j + 1 + 1 by omega, e, show 9 + 2 * (j + 1) = 2 * j + 1 + 10 by omega]
end
end Go.Proofs.Rnk

