/- Layer 8: what is settled early has the sum 0; duals. -/
import Derived.Test.YtjobibaeklbkmaaDoorEdO
set_option linter.unusedSimpArgs false
set_option linter.unusedVariables false
set_option linter.unnecessarySimpa false
set_option maxRecDepth 100000
namespace Go.Proofs.Evd
open Go.Proofs.Sur (W mem_bits andn andn_bit andn_le lsU lsU_mem)

/-! ### duals -/
end Go.Proofs.Evd

