/- Layer 7: an order without an element, those behind it one less. -/
import Derived.Test.YtmgbglnljnlapaaOrL
set_option linter.unusedSimpArgs false
set_option linter.unusedVariables false
set_option linter.unnecessarySimpa false
namespace Go.Proofs.Ord
open Go Go.VM
open Go.Proofs.Sur (andn andn_bit andn_le)

def up (x i : Nat) : Nat := if i < x then i else i + 1
abbrev alls (n : Nat) : Nat := 2 ^ n - 1
theorem alls_bit {n i : Nat} : (alls n).testBit i = decide (i < n) := Nat.testBit_two_pow_sub_one n i
end Go.Proofs.Ord

