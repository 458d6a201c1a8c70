/- The program is awake. -/
import Derived.Test.YtbadfaiepgfpdaaTryTy
set_option linter.unusedSimpArgs false
set_option linter.unusedVariables false
set_option linter.unnecessarySimpa false
namespace Go.Proofs.Wei
open Go Go.VM
def aw0 : Summ := fun _ _ _ => none
def awsp : FuncId → Bool := fun f => f == 23 || f == 27 || f == 12
theorem aw0_ok : SummOk Try.prog aw0 := by intro f args h v h' he; cases he
theorem awake_run : deep Try.prog awsp 100 aw0 12 21 [] .nil = some (.bool true, .nil) := by kernel_rfl
theorem good : allGood Try.prog awsp = true := by kernel_rfl
theorem awake_ok : callable Try.prog 21 = true ∧ CallOk Try.prog 21 [] .nil (.bool true) .nil :=
  deep_ok mixed aw0_ok (allGood_spec good) 12 _ _ _ _ _ awake_run
end Go.Proofs.Wei
