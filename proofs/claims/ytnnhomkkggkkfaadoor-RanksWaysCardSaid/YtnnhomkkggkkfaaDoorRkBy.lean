/- Joined: RkBy, RkCa. -/
import Derived.Test.YtnnhomkkggkkfaaDoorRkAb
import Derived.Test.YtnnhomkkggkkfaaDoorRkY
import Derived.KernelRfl
import Derived.Test.YtnnhomkkggkkfaaDoorRkBz
set_option linter.unusedSimpArgs false
set_option linter.unusedVariables false
set_option linter.unnecessarySimpa false
section
set_option maxHeartbeats 4000000
set_option maxRecDepth 100000
namespace Go.Proofs.Rnk
open Go Go.VM
open Go.Proofs.Sur (andn andn_bit andn_le i_wrap i_and i_or i_xor i_andn i_shl i_shr bit_01)

theorem pc_add {m q : Nat} (hm : m < 256) (hq : q < 8) (h : m.testBit q = false) : pc (m ||| 2 ^ q) = pc m + 1 := by
  have h1 := pc_and_add (a := 255) (m := m) (q := q) hq h
  have h2 : 2 ^ q < 2 ^ 8 := Nat.pow_lt_pow_right (by decide) hq
  have e : ∀ x, x < 256 → 255 &&& x = x := fun x hx => by
    rw [Nat.and_comm]
    have := Nat.and_two_pow_sub_one_eq_mod x 8
    rw [show 2 ^ 8 - 1 = 255 from rfl] at this
    rw [this]; exact Nat.mod_eq_of_lt hx
  have h3 : (255 : Nat).testBit q = true := by
    match q, hq with
    | 0, _ => rfl
    | 1, _ => rfl
    | 2, _ => rfl
    | 3, _ => rfl
    | 4, _ => rfl
    | 5, _ => rfl
    | 6, _ => rfl
    | 7, _ => rfl
    | q + 8, h => omega
  rw [e _ (Nat.or_lt_two_pow (n := 8) hm h2), e _ hm, h3] at h1
  exact h1
structure WsP (t : List Int) (r : Room) (fr : Int) (f m : Nat) : Prop where
  h : Tn t
  r : rok t r
  fb : -1 ≤ fr ∧ fr < (t.length : Int)
  mb : m < 2 ^ t.length
  p : pc m + f = t.length
theorem WsP.next {t : List Int} {r : Room} {fr : Int} {f m k : Nat} (p : WsP t r fr (f + 1) m) (hk : k < t.length) (hb : m.testBit k = false) : WsP t r (k : Int) f (m ||| 2 ^ k) where
  h := p.h
  r := p.r
  fb := by omega
  mb := Nat.or_lt_two_pow p.mb (Nat.pow_lt_pow_right (by decide) hk)
  p := by
    have h8 := p.h.s.2
    have := pow8 h8
    have := pc_add (m := m) (q := k) (by have := p.mb; omega) (by omega) hb
    have := p.p
    omega
end Go.Proofs.Rnk
end
section
set_option maxHeartbeats 4000000
set_option maxRecDepth 100000
namespace Go.Proofs.Rnk
open Go Go.VM
open Go.Proofs.Sur (andn andn_bit andn_le i_wrap i_and i_or i_xor i_andn i_shl i_shr bit_01)
section
attribute [local instance] wrI
abbrev metF (t : List Int) (fr : Nat) : Nat := andn (alls t.length) fr
structure ExP (t b : List Int) (f k fr nx : Nat) : Prop where
  w : WyP t b .no f k (metF t fr)
  ne : b ≠ []
  f8 : fr < 256
  fi : ∀ i, fr.testBit i = true → i < t.length
  n8 : nx < 256
  ni : ∀ i, nx.testBit i = true ↔ fr.testBit i = true ∧ (sn t (lastN b)).testBit i = true
abbrev exR (t b : List Int) (f fr : Nat) : Option (List Int) := wyM (sn t) t.length false f b (metF t fr)
abbrev caps5 : List AV := [.ptr 3 0, .ptr 1 0, .ptr 2 0, .ptr 4 0, .ptr 0 0]
def Ok94 (f : Nat) : Prop := ∀ (t : List Int) (k : Nat) (b : List Int) (fr nx : Nat), ExP t b f k fr nx →
  CallOkB Tryd.prog 0 94 ([I fr, I nx] ++ caps5) ⟨bE t k b, [], []⟩ (.bool (exR t b f fr).isSome) ⟨bF t k ((exR t b f fr).getD b), [], []⟩
theorem wyM_ne {A : Nat → Nat} {n : Nat} {rd : Bool} : ∀ (f : Nat) (b : List Int) (m : Nat) (l : List Int), b ≠ [] → wyM A n rd f b m = some l → l ≠ []
  | 0, b, m, l, hb, h => by
    rw [wyM] at h
    split at h
    · cases h
    · cases h; exact hb
  | f + 1, b, m, l, hb, h => by
    rw [wyM_go] at h
    have key : ∀ k, fRw A n rd f b m k = some l → l ≠ [] := fun k => by
      induction k with
      | zero => intro h; cases h
      | succ k ih =>
        intro h
        rw [fRw] at h
        cases hq : fRw A n rd f b m k with
        | some l' => rw [hq] at h; cases h; exact ih hq
        | none =>
          rw [hq] at h
          have h : (if fol A b m k = true then wyM A n rd f (b ++ [(k : Int)]) (m ||| 2 ^ k) else none) = some l := h
          split at h
          · exact wyM_ne f _ _ l (by simp) h
          · cases h
    exact key n h
structure X94 where
  t : List Int
  k : Nat
  c : List Int
  fr : Nat
  nx : Nat
  fr0 : Nat
  nx0 : Nat
  j : Nat
  R : Nat
structure P94 (f : Nat) (x : X94) : Prop where
  p : ExP x.t x.c f x.k x.fr x.nx
  R : 9 ≤ x.R
theorem getD_ne {o : Option (List Int)} {c : List Int} (hc : c ≠ []) (h : ∀ l, o = some l → l ≠ []) : o.getD c ≠ [] := by
  cases o with
  | none => exact hc
  | some l => exact h l rfl
noncomputable def c94 (f : Nat) (hok : Ok94 f) : CtrB Tryd.prog 0 where
  f := 94
  X := X94
  args x := [I x.fr, I x.nx, .ptr 3 0, .ptr 1 0, .ptr 2 0, .ptr 4 0, .ptr 0 0]
  pre x h := h = ⟨bP x.t x.k x.c x.fr0 x.nx0 x.j x.R x.c, [], []⟩ ∧ P94 f x
  res x _ := (.bool (exR x.t x.c f x.fr).isSome, ⟨bP x.t x.k x.c x.fr0 x.nx0 x.j (x.R + 1) ((exR x.t x.c f x.fr).getD x.c), [], []⟩)
  det := by
    rintro ⟨t, k, c, fr, nx, fr0, nx0, j, R⟩ ⟨t', k', c', fr', nx', fr0', nx0', j', R'⟩ h e p p'
    have h1 := p.1.symm.trans p'.1
    simp only [H.mk.injEq, List.cons.injEq, and_true, AV.sl.injEq, AV.int.injEq, AV.msl.injEq, true_and] at h1
    simp only [List.cons.injEq, AV.int.injEq, and_true, true_and] at e
    obtain ⟨⟨a1, _⟩, a2, ⟨a3, _⟩, a4, a5, a6⟩ := h1
    obtain ⟨e1, e2⟩ := e
    have a1 := ints_inj a1
    have a2 : k = k' := by omega
    have a4 : fr0 = fr0' := by omega
    have e1 : fr = fr' := by omega
    subst a1 a2 a3 a4 e1
    have a7 := List.append_cancel_left a6
    simp only [List.cons.injEq, and_true] at a7
    have a7 := ints_inj a7
    subst a7
    simp only [bP, a5]
  ok := by
    rintro ⟨t, k, c, fr, nx, fr0, nx0, j, R⟩ h ⟨h1, h2⟩
    have h1 : h = ⟨bP t k c fr0 nx0 j R c, [], []⟩ := h1
    subst h1
    have hp : ExP t c f k fr nx := h2.p
    exact ⟨ok94.call, call_R (us := [I fr, I nx]) h2.R (getD_ne hp.ne fun l hl => wyM_ne _ _ _ l hp.ne hl) rfl (hok t k c fr nx hp)⟩
theorem set_last {α : Type} {x y : α} : ∀ (l : List α), (l ++ [x]).set l.length y = l ++ [y]
  | [] => rfl
  | z :: l => by simp only [List.cons_append, List.length_cons, List.set_cons_succ, set_last l]
theorem set_rep {n : Nat} {x y z : List AV} : (List.replicate n z ++ [x]).set n y = List.replicate n z ++ [y] := by
  have := set_last (x := x) (y := y) (List.replicate n z)
  rwa [List.length_replicate] at this
theorem ap_J {t : List Int} {k : Nat} {b : List Int} {fr nx j : Nat} {p : Int} (hb : b ≠ []) (h8 : b.length ≤ 100) :
    aAppend Tryd.prog 22 22 (rowV (Rj j) b.length) (.sl [I p] 1 .full) ⟨bJ t k b fr nx j, [], []⟩ = some (rowV (9 + 2 * j) (b ++ [p]).length, ⟨[ls t .no] :: [I k] :: [fitV] :: [rowV (Rj j) b.length] :: [selfV] :: [] :: [I fr] :: [.bool false] :: [I (dI (nx : Nat) j)] :: (List.replicate (9 + 2 * j - 9) [] ++ [ints (b ++ [p])]), [], []⟩) := by
  have h0 : 0 < b.length := List.length_pos_iff.2 hb
  have hi : ints (b ++ [p]) = ints b ++ [I p] := by simp [ints]
  have hl : (b ++ [p]).length = b.length + 1 := by simp
  have hA : appTV Tryd.prog 22 = true := by kernel_rfl
  rw [hl, hi]
  match j with
  | 0 =>
    have := ap_msl (P := Tryd.prog) (t := 22) hA (R := 5) (n := b.length) (cs := ints b) (x := p) (h := ⟨bJ t k b fr nx 0, [], []⟩) rfl h0 (by simp) (by omega)
    rw [List.take_of_length_le (by simp)] at this
    exact this
  | j + 1 =>
    have hz : Zj b nx (j + 1) = List.replicate (2 * j + 1) [] ++ [ints (b ++ [((el nx j : Nat) : Int)])] := by
      rw [Zj, if_neg (by omega)]; rfl
    have hR : Rj (j + 1) = 8 + 2 * (j + 1) := by rw [Rj, if_neg (by omega)]
    have hD : Dj b (j + 1) = [] := by rw [Dj, if_neg (by omega)]
    have hx : ints (b ++ [((el nx j : Nat) : Int)]) = ints b ++ [I (el nx j : Nat)] := by simp [ints]
    have hget : (bJ t k b fr nx (j + 1))[8 + 2 * (j + 1)]? = some (ints (b ++ [((el nx j : Nat) : Int)])) := by
      rw [show 8 + 2 * (j + 1) = (2 * j + 1) + 9 by omega]
      show (Zj b nx (j + 1))[2 * j + 1]? = _
      rw [hz, List.getElem?_append_right (by simp)]; simp
    have := ap_msl (P := Tryd.prog) (t := 22) hA (R := 8 + 2 * (j + 1)) (n := b.length) (cs := ints (b ++ [((el nx j : Nat) : Int)])) (x := p) (h := ⟨bJ t k b fr nx (j + 1), [], []⟩) hget h0 (by simp) (by omega)
    rw [hR]
    rw [this]
    have hlen : (bJ t k b fr nx (j + 1)).length = 9 + 2 * (j + 1) := by
      show (Zj b nx (j + 1)).length + 9 = _
      rw [hz]; simp; omega
    have htk : (ints (b ++ [((el nx j : Nat) : Int)])).take b.length = ints b := by rw [hx, List.take_left' (by simp)]
    rw [hlen, htk]
    congr 3
    rw [show 8 + 2 * (j + 1) = (2 * j + 1) + 9 by omega]
    show [ls t .no] :: [I k] :: [fitV] :: [rowV (Rj (j + 1)) b.length] :: [selfV] :: Dj b (j + 1) :: [I fr] :: [.bool false] :: [I (dI (nx : Nat) (j + 1))] :: ((Zj b nx (j + 1)).set (2 * j + 1) [] ++ [ints b ++ [I p]]) = _
    have e : List.replicate (2 * j + 1 + 1) ([] : List AV) = List.replicate (2 * j + 1) [] ++ [[]] := List.replicate_succ'
    rw [hz, hR, hD, set_rep, show 9 + 2 * (j + 1) - 9 = 2 * j + 1 + 1 by omega, e, show 8 + 2 * (j + 1) = 2 * j + 1 + 9 by omega]
end
end Go.Proofs.Rnk
end
