/- Layer 7: rounds that close a relation, and pairs. -/
import Derived.Test.YtmgbglnljnlapaaOrM
set_option linter.unusedSimpArgs false
set_option linter.unusedVariables false
set_option linter.unnecessarySimpa false
namespace Go.Proofs.Ord
open Go Go.VM

/-- with a pair -/
def P1 (A : Rel) (a b : Nat) : Rel := fun e => if e = a then A e ||| 2 ^ b else A e
theorem P1_ab {A : Rel} {a b e t : Nat} : ab (P1 A a b) e t ↔ ab A e t ∨ e = a ∧ t = b := by
  simp only [ab, P1]
  split <;> rename_i h
  · simp only [Nat.testBit_or, Nat.testBit_two_pow, Bool.or_eq_true, decide_eq_true_eq]
    constructor
    · rintro (h1 | h1)
      · exact .inl h1
      · exact .inr ⟨h, h1.symm⟩
    · rintro (h1 | ⟨_, h1⟩)
      · exact .inl h1
      · exact .inr h1.symm
  · constructor
    · exact .inl
    · rintro (h1 | ⟨h1, _⟩)
      · exact h1
      · exact absurd h1 h
theorem P1_rg {n : Nat} {A : Rel} (h : Rg n A) {a b : Nat} (ha : a < n) (hb : b < n) : Rg n (P1 A a b) := by
  refine ⟨fun e => ?_, fun e he => ?_⟩
  · simp only [P1]; split
    · exact Nat.or_lt_two_pow (h.1 e) (Nat.pow_lt_pow_right (by decide) hb)
    · exact h.1 e
  · simp only [P1]
    rw [if_neg (by omega), h.2 e he]
def zeroR : Rel := fun _ => 0
theorem zero_rg (n : Nat) : Rg n zeroR := ⟨fun _ => Nat.two_pow_pos n, fun _ _ => rfl⟩
theorem zero_ab {i j : Nat} : ¬ ab zeroR i j := by simp [ab, zeroR]
/-- of pairs -/
def Pn (l : List (Int × Int)) : Nat → Rel
  | 0 => zeroR
  | k + 1 => P1 (Pn l k) (l.getD k (0, 0)).1.toNat (l.getD k (0, 0)).2.toNat
def PrOk (n : Nat) (l : List (Int × Int)) : Prop := ∀ k, k < l.length → (0 ≤ (l.getD k (0, 0)).1 ∧ (l.getD k (0, 0)).1 < n) ∧ 0 ≤ (l.getD k (0, 0)).2 ∧ (l.getD k (0, 0)).2 < n
theorem Pn_rg {n : Nat} {l : List (Int × Int)} (h : PrOk n l) : ∀ k, k ≤ l.length → Rg n (Pn l k)
  | 0, _ => zero_rg n
  | k + 1, hk => by
    have := h k (by omega)
    exact P1_rg (Pn_rg h k (by omega)) (by omega) (by omega)
theorem Pn_ab {l : List (Int × Int)} : ∀ {k e t : Nat}, ab (Pn l k) e t ↔ ∃ m, m < k ∧ e = (l.getD m (0, 0)).1.toNat ∧ t = (l.getD m (0, 0)).2.toNat
  | 0, e, t => ⟨fun h => absurd h zero_ab, fun ⟨m, h, _⟩ => by omega⟩
  | k + 1, e, t => by
    rw [Pn, P1_ab, Pn_ab]
    constructor
    · rintro (⟨m, h1, h2⟩ | h)
      · exact ⟨m, by omega, h2⟩
      · exact ⟨k, by omega, h⟩
    · rintro ⟨m, h1, h2⟩
      rcases Nat.lt_or_ge m k with h | h
      · exact .inl ⟨m, h, h2⟩
      · have : m = k := by omega
        subst this; exact .inr h2
end Go.Proofs.Ord

