/- Joined: RkBy, RkCa. -/
import Derived.Test.YtnnhomkkggkkfaaDoorRkAw
import Derived.Test.YtnnhomkkggkkfaaDoorRkY
import Derived.KernelRfl
import Derived.Test.YtnnhomkkggkkfaaDoorRkBx
set_option linter.unusedSimpArgs false
set_option linter.unusedVariables false
set_option linter.unnecessarySimpa false
section
set_option maxHeartbeats 4000000
set_option maxRecDepth 100000
namespace Go.Proofs.Rnk
open Go Go.VM
open Go.Proofs.Sur (andn andn_bit andn_le i_wrap i_and i_or i_xor i_andn i_shl i_shr bit_01)

theorem pc_add {m q : Nat} (hm : m < 256) (hq : q < 8) (h : m.testBit q = false) : pc (m ||| 2 ^ q) = pc m + 1 := by
  have h1 := pc_and_add (a := 255) (m := m) (q := q) hq h
  have h2 : 2 ^ q < 2 ^ 8 := Nat.pow_lt_pow_right (by decide) hq
  have e : ∀ x, x < 256 → 255 &&& x = x := fun x hx => by
    rw [Nat.and_comm]
    have := Nat.and_two_pow_sub_one_eq_mod x 8
    rw [show 2 ^ 8 - 1 = 255 from rfl] at this
    rw [this]; exact Nat.mod_eq_of_lt hx
  have h3 : (255 : Nat).testBit q = true := by
    match q, hq with
    | 0, _ => rfl
    | 1, _ => rfl
    | 2, _ => rfl
    | 3, _ => rfl
    | 4, _ => rfl
    | 5, _ => rfl
    | 6, _ => rfl
    | 7, _ => rfl
    | q + 8, h => omega
  rw [e _ (Nat.or_lt_two_pow (n := 8) hm h2), e _ hm, h3] at h1
  exact h1
structure WsP (t : List Int) (r : Room) (fr : Int) (f m : Nat) : Prop where
  h : Tn t
  r : rok t r
  fb : -1 ≤ fr ∧ fr < (t.length : Int)
  mb : m < 2 ^ t.length
  p : pc m + f = t.length
theorem WsP.next {t : List Int} {r : Room} {fr : Int} {f m k : Nat} (p : WsP t r fr (f + 1) m) (hk : k < t.length) (hb : m.testBit k = false) : WsP t r (k : Int) f (m ||| 2 ^ k) where
  h := p.h
  r := p.r
  fb := by omega
  mb := Nat.or_lt_two_pow p.mb (Nat.pow_lt_pow_right (by decide) hk)
  p := by
    have h8 := p.h.s.2
    have := pow8 h8
    have := pc_add (m := m) (q := k) (by have := p.mb; omega) (by omega) hb
    have := p.p
    omega
end Go.Proofs.Rnk
end
section
set_option maxHeartbeats 4000000
set_option maxRecDepth 100000
namespace Go.Proofs.Rnk
open Go Go.VM
open Go.Proofs.Sur (andn andn_bit andn_le i_wrap i_and i_or i_xor i_andn i_shl i_shr bit_01)
section
attribute [local instance] wrI
abbrev metF (t : List Int) (fr : Nat) : Nat := andn (alls t.length) fr
structure ExP (t b : List Int) (f k fr nx : Nat) : Prop where
  w : WyP t b .no f k (metF t fr)
  ne : b ≠ []
  f8 : fr < 256
  fi : ∀ i, fr.testBit i = true → i < t.length
  n8 : nx < 256
  ni : ∀ i, nx.testBit i = true ↔ fr.testBit i = true ∧ (sn t (lastN b)).testBit i = true
theorem wyM_ne {A : Nat → Nat} {n : Nat} {rd : Bool} : ∀ (f : Nat) (b : List Int) (m : Nat) (l : List Int), b ≠ [] → wyM A n rd f b m = some l → l ≠ []
  | 0, b, m, l, hb, h => by
    rw [wyM] at h
    split at h
    · cases h
    · cases h; exact hb
  | f + 1, b, m, l, hb, h => by
    rw [wyM_go] at h
    have key : ∀ k, fRw A n rd f b m k = some l → l ≠ [] := fun k => by
      induction k with
      | zero => intro h; cases h
      | succ k ih =>
        intro h
        rw [fRw] at h
        cases hq : fRw A n rd f b m k with
        | some l' => rw [hq] at h; cases h; exact ih hq
        | none =>
          rw [hq] at h
          have h : (if fol A b m k = true then wyM A n rd f (b ++ [(k : Int)]) (m ||| 2 ^ k) else none) = some l := h
          split at h
          · exact wyM_ne f _ _ l (by simp) h
          · cases h
    exact key n h
structure X94 where
  t : List Int
  k : Nat
  c : List Int
  fr : Nat
  nx : Nat
  fr0 : Nat
  nx0 : Nat
  j : Nat
  R : Nat
structure P94 (f : Nat) (x : X94) : Prop where
  p : ExP x.t x.c f x.k x.fr x.nx
  R : 9 ≤ x.R
theorem getD_ne {o : Option (List Int)} {c : List Int} (hc : c ≠ []) (h : ∀ l, o = some l → l ≠ []) : o.getD c ≠ [] := by
  cases o with
  | none => exact hc
  | some l => exact h l rfl
theorem set_last {α : Type} {x y : α} : ∀ (l : List α), (l ++ [x]).set l.length y = l ++ [y]
  | [] => rfl
  | z :: l => by simp only [List.cons_append, List.length_cons, List.set_cons_succ, set_last l]
theorem set_rep {n : Nat} {x y z : List AV} : (List.replicate n z ++ [x]).set n y = List.replicate n z ++ [y] := by
  have := set_last (x := x) (y := y) (List.replicate n z)
  rwa [List.length_replicate] at this
end
end Go.Proofs.Rnk
end
