/- Layer 8: joins. -/
import Derived.Test.YtjobibaeklbkmaaDoorEdP
set_option linter.unusedSimpArgs false
set_option linter.unusedVariables false
set_option linter.unnecessarySimpa false
set_option maxRecDepth 100000
namespace Go.Proofs.Evd
open Go.Proofs.Sur (W mem_bits andn andn_bit andn_le lsU lsU_mem)

/-! ### asking a join -/
end Go.Proofs.Evd

