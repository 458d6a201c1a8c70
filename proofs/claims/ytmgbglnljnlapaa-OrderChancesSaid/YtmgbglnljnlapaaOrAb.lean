/- Layer 7: how even a pair is, by the program; the first of the most even. -/
import Derived.Test.YtmgbglnljnlapaaOrAa
import Derived.Test.YtmgbglnljnlapaaVm7
import Derived.KernelRfl
set_option linter.unusedSimpArgs false
set_option linter.unusedVariables false
set_option linter.unnecessarySimpa false
set_option maxHeartbeats 4000000
set_option maxRecDepth 100000
namespace Go.Proofs.Ord
open Go Go.VM
open Go.Proofs.Sur (andn andn_bit andn_le i_wrap i_and i_or i_andn i_shl i_shr bit_01)

/-- the lines with i before j -/
abbrev bf (A : Rel) (n i j : Nat) : Nat := ct (adR A i j) n (alls n)
theorem ok79 : FokM Try.prog none1 79 Try.f79 := ⟨mixed, by kernel_rfl, by kernel_rfl, by kernel_rfl, by kernel_rfl⟩
/-- how far a pair is from even -/
def bs (A : Rel) (n i j : Nat) : Nat := max (bf A n i j) (bf A n j i) - min (bf A n i j) (bf A n j i)
/-- the heap in which the closure is made -/
abbrev hE (n : Nat) (A : Rel) : H := ⟨[[I 0, I 0], ints (o7 n A), [I (ct A n (alls n) : Nat)]], [], []⟩
abbrev hM (n : Nat) (A : Rel) (m : Pr) : H := ⟨[[I 0, I 0], ints (o7 n A), [I (ct A n (alls n) : Nat)], [I 0, I 0], [I m.1, I m.2]], [], []⟩
end Go.Proofs.Ord

