/- Layer 7: the law of counts. -/
import Derived.Test.YtmgbglnljnlapaaOrO
import Derived.KernelRfl
set_option linter.unusedSimpArgs false
set_option linter.unusedVariables false
set_option linter.unnecessarySimpa false
set_option maxHeartbeats 4000000
set_option maxRecDepth 100000
namespace Go.Proofs.Ord
open Go Go.VM
open Go.Proofs.Sur (andn andn_bit andn_le i_wrap i_and i_or i_andn i_shl i_shr bit_01)

/-- a number without its sign, modulo n -/
def ui (i : Int) : Nat := (IntKind.u64.wrap i).toNat
theorem ui_w (i : Int) : IntKind.u64.wrap i = ((ui i : Nat) : Int) := by
  have : 0 ≤ IntKind.u64.wrap i := by
    simp only [IntKind.wrap, IntKind.bits, IntKind.signed]
    simp
    omega
  simp only [ui]; omega
theorem len_w {n : Nat} (h : n ≤ 1000) : IntKind.u64.wrap (n : Int) = (n : Nat) := by
  simp only [IntKind.wrap, IntKind.bits, IntKind.signed]
  simp
  omega
def md (i : Int) (n : Nat) : Nat := ui i % n
theorem md_lt (i : Int) {n : Nat} (h : 1 ≤ n) : md i n < n := Nat.mod_lt _ h
end Go.Proofs.Ord

