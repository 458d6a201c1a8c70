/- Joined: RkCb, RkCc, RkCd. -/
import Derived.Test.YtnnhomkkggkkfaaDoorRkBy
import Derived.KernelRfl
import Derived.Test.YtnnhomkkggkkfaaDoorRkAm
import Derived.Test.YtnnhomkkggkkfaaDoorRkJ
set_option linter.unusedSimpArgs false
set_option linter.unusedVariables false
set_option linter.unnecessarySimpa false
section
set_option maxHeartbeats 4000000
set_option maxRecDepth 100000
namespace Go.Proofs.Rnk
open Go Go.VM
open Go.Proofs.Sur (andn andn_bit andn_le i_wrap i_and i_or i_xor i_andn i_shl i_shr bit_01)
section
attribute [local instance] wrI
theorem last_app (b : List Int) (p : Nat) : lastN (b ++ [(p : Int)]) = p := by
  simp [lastN, List.getD_eq_getElem?_getD]
theorem met_next {t : List Int} {fr p : Nat} (h8 : t.length ≤ 8) (hf : fr < 256) (hp : p < t.length) : metF t (andn fr (2 ^ p)) = metF t fr ||| 2 ^ p := by
  apply Nat.eq_of_testBit_eq
  intro i
  have hA := alls_lt h8
  rw [metF, metF, andn_bit (by omega), andn_bit (by omega), Nat.testBit_or, andn_bit (by omega), Nat.testBit_two_pow, alls_bit]
  by_cases c : p = i
  · subst c; simp [hp]
  · simp [c]
theorem ExP.pl {t b : List Int} {f k fr nx j : Nat} (h : ExP t b f k fr nx) (hj : j < pc nx) : nx.testBit (el nx j) = true ∧ fr.testBit (el nx j) = true ∧ el nx j < t.length ∧ el nx j < 8 ∧ (sn t (lastN b)).testBit (el nx j) = true := by
  have h1 := el_mem hj
  have h2 := (h.ni _).1 h1.1
  exact ⟨h1.1, h2.1, h.fi _ h2.1, h1.2, h2.2⟩
theorem ExP.next {t b : List Int} {f k fr nx p : Nat} (h : ExP t b (f + 1) k fr nx) (hp : fr.testBit p = true) : ExP t (b ++ [(p : Int)]) f k (andn fr (2 ^ p)) (andn fr (2 ^ p) &&& sn t p) where
  w := by
    rw [met_next h.w.h.s.2 h.f8 (h.fi p hp)]
    exact h.w.next (h.fi p hp)
  ne := by simp
  f8 := by have := h.f8; have := andn_le (a := fr) (b := 2 ^ p) (by omega); omega
  fi i hi := by
    rw [andn_bit (by have := h.f8; omega), Bool.and_eq_true] at hi
    exact h.fi i hi.1
  n8 := by have := h.f8; have := andn_le (a := fr) (b := 2 ^ p) (by omega); have := @Nat.and_le_left (andn fr (2 ^ p)) (sn t p); omega
  ni i := by rw [Nat.testBit_and, Bool.and_eq_true, last_app]
theorem sl_row {t : TypeId} {P : Program} (hu : (elemT P t).bind (sizeT P) = some 1) {R n m : Nat} {h : H} (hm : m ≤ n) : aSlice P t (rowV R n) none (some (I m)) none h = some (rowV R m) := by
  cases he : elemT P t with
  | none => rw [he] at hu; cases hu
  | some e =>
    rw [he] at hu
    have hs : sizeT P e = some 1 := hu
    simp [aSlice, intOf?, aBounds, he, hs, hm]
structure TJ (t : List Int) (k : Nat) (b : List Int) (fr nx j : Nat) (H : H) : Prop where
  e : H = ⟨bJ t k b fr nx j, [], []⟩
end
end Go.Proofs.Rnk
end
section
set_option maxHeartbeats 4000000
set_option maxRecDepth 100000
namespace Go.Proofs.Rnk
open Go Go.VM
open Go.Proofs.Sur (andn andn_bit andn_le i_wrap i_and i_or i_xor i_andn i_shl i_shr bit_01)
section
attribute [local instance] wrI
structure TJs (t : List Int) (k : Nat) (b : List Int) (fr nx j0 j : Nat) (H : H) : Prop where
  e : H = ⟨bJ t k b fr nx j, [], []⟩
  le : j ≤ j0
end
end Go.Proofs.Rnk
end
section
set_option maxHeartbeats 4000000
set_option maxRecDepth 100000
namespace Go.Proofs.Rnk
open Go Go.VM
open Go.Proofs.Sur (andn andn_bit andn_le i_wrap i_and i_or i_xor i_andn i_shl i_shr bit_01)
theorem fRw_none {A : Nat → Nat} {n : Nat} {rd : Bool} {f : Nat} {b : List Int} {m : Nat} : ∀ k, (∀ i, i < k → fol A b m i = true → wyM A n rd f (b ++ [(i : Int)]) (m ||| 2 ^ i) = none) → fRw A n rd f b m k = none
  | 0, _ => rfl
  | k + 1, h => by
    rw [fRw, fRw_none k fun i hi => h i (by omega)]
    cases c : fol A b m k
    · rfl
    · rw [if_pos rfl, h k (by omega) c]; rfl
theorem fRw_at {A : Nat → Nat} {n : Nat} {rd : Bool} {f : Nat} {b : List Int} {m p : Nat} {l : List Int} (h : ∀ i, i < p → fol A b m i = true → wyM A n rd f (b ++ [(i : Int)]) (m ||| 2 ^ i) = none) (hp : fol A b m p = true) (hl : wyM A n rd f (b ++ [(p : Int)]) (m ||| 2 ^ p) = some l) (hn : p < n) : fRw A n rd f b m n = some l := by
  have h1 : fRw A n rd f b m (p + 1) = some l := by rw [fRw, fRw_none p h, hp, if_pos rfl, hl]; rfl
  have := fRw_some h1 (n - (p + 1))
  rwa [show p + 1 + (n - (p + 1)) = n by omega] at this
theorem first_of (o : Nat → Option (List Int)) : ∀ n, (∀ j, j < n → o j = none) ∨ ∃ j l, j < n ∧ o j = some l ∧ ∀ i, i < j → o i = none
  | 0 => .inl fun j hj => by omega
  | n + 1 => by
    rcases first_of o n with h | ⟨j, l, h1, h2, h3⟩
    · cases c : o n with
      | none =>
        refine .inl fun j hj => ?_
        by_cases e : j = n
        · rw [e]; exact c
        · exact h j (by omega)
      | some l => exact .inr ⟨n, l, by omega, c, h⟩
    · exact .inr ⟨j, l, by omega, h2, h3⟩
theorem ExP.fol {t b : List Int} {f k fr nx i : Nat} (h : ExP t b f k fr nx) (hi : i < t.length) : fol (sn t) b (metF t fr) i = nx.testBit i := by
  have hA := alls_lt h.w.h.s.2
  have hm : (metF t fr).testBit i = !fr.testBit i := by rw [metF, andn_bit (by omega), alls_bit]; simp [hi]
  have h1 := h.ni i
  rw [Rnk.fol, hm]
  have hne : decide (b = []) = false := by simp [h.ne]
  rw [hne]
  cases c : nx.testBit i <;> rw [c] at h1 <;> cases d : fr.testBit i <;> cases e : (sn t (lastN b)).testBit i <;> simp [d, e] at h1 ⊢
theorem ExP.bt {t b : List Int} {f k fr nx i : Nat} (h : ExP t b f k fr nx) (hi : nx.testBit i = true) : i < t.length := h.fi i ((h.ni i).1 hi).1
section
attribute [local instance] wrI
theorem take_ints (l : List Int) : (ints l).take l.length = ints l := List.take_of_length_le (by simp)
end
end Go.Proofs.Rnk
end
