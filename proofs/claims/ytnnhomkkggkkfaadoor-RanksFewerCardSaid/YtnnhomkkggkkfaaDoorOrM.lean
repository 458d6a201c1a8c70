/- Layer 7: orders as sets of bits: what follows, and what is closed. -/
import Derived.Test.YtnnhomkkggkkfaaDoorSuM
set_option linter.unusedSimpArgs false
set_option linter.unusedVariables false
set_option linter.unnecessarySimpa false
namespace Go.Proofs.Ord
open Go Go.VM

abbrev Rel := Nat → Nat
/-- what is above what -/
abbrev ab (A : Rel) (i j : Nat) : Prop := (A i).testBit j = true
def Tr (A : Rel) : Prop := ∀ i j k, ab A i j → ab A j k → ab A i k
def Irr (A : Rel) : Prop := ∀ i, ¬ ab A i i
/-- n elements -/
def Rg (n : Nat) (A : Rel) : Prop := (∀ i, A i < 2 ^ n) ∧ ∀ i, n ≤ i → A i = 0
/-- an order -/
structure Od (n : Nat) (A : Rel) : Prop where
  rg : Rg n A
  tr : Tr A
  irr : Irr A
end Go.Proofs.Ord

