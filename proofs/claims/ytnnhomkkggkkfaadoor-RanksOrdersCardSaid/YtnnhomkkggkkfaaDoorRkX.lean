/- Joined: RkX, OrM. -/
import Derived.Test.YtnnhomkkggkkfaaDoorRkJ
import Derived.KernelRfl
import Derived.Test.YtnnhomkkggkkfaaDoorSuM
set_option linter.unusedSimpArgs false
set_option linter.unusedVariables false
set_option linter.unnecessarySimpa false
section
set_option maxHeartbeats 4000000
set_option maxRecDepth 100000
namespace Go.Proofs.Rnk
open Go Go.VM
open Go.Proofs.Sur (andn andn_bit andn_le i_wrap i_and i_or i_andn i_shl i_shr bit_01)

end Go.Proofs.Rnk
end
section
namespace Go.Proofs.Ord
open Go Go.VM

abbrev Rel := Nat → Nat
/-- what is above what -/
abbrev ab (A : Rel) (i j : Nat) : Prop := (A i).testBit j = true
def Tr (A : Rel) : Prop := ∀ i j k, ab A i j → ab A j k → ab A i k
def Irr (A : Rel) : Prop := ∀ i, ¬ ab A i i
/-- n elements -/
def Rg (n : Nat) (A : Rel) : Prop := (∀ i, A i < 2 ^ n) ∧ ∀ i, n ≤ i → A i = 0
/-- an order -/
structure Od (n : Nat) (A : Rel) : Prop where
  rg : Rg n A
  tr : Tr A
  irr : Irr A
end Go.Proofs.Ord
end
