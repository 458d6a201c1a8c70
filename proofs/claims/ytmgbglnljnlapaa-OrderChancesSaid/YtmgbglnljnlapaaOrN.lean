/- Layer 7: rounds that close a relation, and pairs. -/
import Derived.Test.YtmgbglnljnlapaaOrM
set_option linter.unusedSimpArgs false
set_option linter.unusedVariables false
set_option linter.unnecessarySimpa false
namespace Go.Proofs.Ord
open Go Go.VM

def zeroR : Rel := fun _ => 0
theorem zero_rg (n : Nat) : Rg n zeroR := ⟨fun _ => Nat.two_pow_pos n, fun _ _ => rfl⟩
end Go.Proofs.Ord

