/- Layer 2: in the best order parts stand together, the mathematics. -/
import Derived.Test.YtnnhomkkggkkfaaDoorRkAq
import Derived.Test.YtnnhomkkggkkfaaDoorRkAb
set_option linter.unusedSimpArgs false
set_option linter.unusedVariables false
set_option linter.unnecessarySimpa false
set_option maxRecDepth 100000
namespace Go.Proofs.Rnk
open Go Go.VM
open Go.Proofs.Sur (andn andn_bit andn_le)

/-- the set of some of an order -/
def sO (o : Nat → Nat) (a : Nat) : Nat → Nat
  | 0 => 0
  | j + 1 => sO o a j ||| 2 ^ o (a + j)
theorem sO_bit {o : Nat → Nat} {a b : Nat} : ∀ j, (sO o a j).testBit b = true ↔ ∃ i, i < j ∧ o (a + i) = b
  | 0 => by simp [sO]
  | j + 1 => by
    rw [sO, Nat.testBit_or, Bool.or_eq_true, sO_bit j, Nat.testBit_two_pow, decide_eq_true_eq]
    constructor
    · rintro (⟨i, h1, h2⟩ | h)
      · exact ⟨i, by omega, h2⟩
      · exact ⟨j, by omega, h⟩
    · rintro ⟨i, h1, h2⟩
      rcases Nat.lt_or_ge i j with q | q
      · exact .inl ⟨i, q, h2⟩
      · have : i = j := by omega
        subst this; exact .inr h2
theorem sO_lt {o : Nat → Nat} {a j : Nat} (h : ∀ i, i < j → o (a + i) < 8) : sO o a j < 256 := by
  apply lt_of_bits (n := 8)
  intro i hi
  obtain ⟨k, h1, h2⟩ := (sO_bit j).1 hi
  have := h k h1
  omega
abbrev bo (t : List Int) (k : Nat) : Nat := oo (sn t) (alls t.length) k
/-- where the parts begin -/
def pa (t : List Int) : Nat → Nat
  | 0 => 0
  | k + 1 => pa t k + pc (pp t (rst t k))
end Go.Proofs.Rnk

