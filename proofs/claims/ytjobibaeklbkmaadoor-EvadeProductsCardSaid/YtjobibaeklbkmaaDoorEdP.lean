/- Layer 8: what is settled early has the sum 0; duals. -/
import Derived.Test.YtjobibaeklbkmaaDoorEdO
set_option linter.unusedSimpArgs false
set_option linter.unusedVariables false
set_option linter.unnecessarySimpa false
set_option maxRecDepth 100000
namespace Go.Proofs.Evd
open Go.Proofs.Sur (W mem_bits andn andn_bit andn_le lsU lsU_mem)

/-! ### duals -/
def ofB (f : Nat → Bool) : W := fm ((List.range 64).filter f)
theorem ofB_bit {f : Nat → Bool} {s : Nat} (h : s < 64) : hs (ofB f) s = f s := by
  rw [Bool.eq_iff_iff, ofB, fm_bit h, List.mem_filter, List.mem_range]
  simp [h]
end Go.Proofs.Evd

