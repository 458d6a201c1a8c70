/- Layer 8: joins. -/
import Derived.Test.YtjobibaeklbkmaaDoorEdP
set_option linter.unusedSimpArgs false
set_option linter.unusedVariables false
set_option linter.unnecessarySimpa false
set_option maxRecDepth 100000
namespace Go.Proofs.Evd
open Go.Proofs.Sur (W mem_bits andn andn_bit andn_le lsU lsU_mem)

/-- all unions: the elements of the other have numbers greater by n -/
def jn (n : Nat) (F H : W) : W := ofB fun s => hs F (s % 2 ^ n) && hs H (s / 2 ^ n)
theorem jn_bit {n : Nat} {F H : W} {s : Nat} (h : s < 64) : hs (jn n F H) s = (hs F (s % 2 ^ n) && hs H (s / 2 ^ n)) := ofB_bit h
/-! ### asking a join -/
end Go.Proofs.Evd

