/- Layer 8: a join is settled early if one of both is. -/
import Derived.Test.YtjobibaeklbkmaaDoorEdL
import Derived.Test.YtjobibaeklbkmaaDoorEdQ
set_option linter.unusedSimpArgs false
set_option linter.unusedVariables false
set_option linter.unnecessarySimpa false
set_option maxRecDepth 100000
namespace Go.Proofs.Evd
open Go.Proofs.Sur (W andn andn_bit andn_le)

end Go.Proofs.Evd

