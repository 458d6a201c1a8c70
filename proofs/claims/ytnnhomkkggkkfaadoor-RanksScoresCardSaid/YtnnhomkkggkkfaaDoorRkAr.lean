/- Layer 2: how the first best order of each set begins, by the program. -/
import Derived.Test.YtnnhomkkggkkfaaDoorRkAm
import Derived.Test.YtnnhomkkggkkfaaDoorRkL
import Derived.Test.YtnnhomkkggkkfaaDoorRkU
import Derived.Test.YtnnhomkkggkkfaaDoorVm9
import Derived.Test.YtnnhomkkggkkfaaDoorVm8
import Derived.KernelRfl
set_option linter.unusedSimpArgs false
set_option linter.unusedVariables false
set_option linter.unnecessarySimpa false
set_option maxHeartbeats 4000000
set_option maxRecDepth 100000
namespace Go.Proofs.Rnk
open Go Go.VM
open Go.Proofs.Sur (andn andn_bit andn_le i_wrap i_and i_or i_andn i_shl i_shr bit_01)

abbrev prI (x : Nat × Nat) : Pr := ((x.1 : Int), (x.2 : Int))
/-- the table after some sets -/
def tbl (A : Nat → Nat) (n j : Nat) : List Pr := (List.range n).map fun x => prI (tb A j x)
@[simp] theorem tbl_len (A : Nat → Nat) (n j : Nat) : (tbl A n j).length = n := by simp [tbl]
end Go.Proofs.Rnk

