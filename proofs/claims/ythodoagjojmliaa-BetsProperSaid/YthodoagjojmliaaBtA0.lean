/- Layer 9: the program is awake. -/
import Derived.Test.YthodoagjojmliaaVm8
import Derived.Test.YthodoagjojmliaaProg
import Derived.KernelRfl
set_option linter.unusedSimpArgs false
set_option linter.unusedVariables false
set_option linter.unnecessarySimpa false
set_option maxHeartbeats 4000000
set_option maxRecDepth 100000
namespace Go.Proofs.Bts
open Go Go.VM
theorem mixed : Try.prog.follows .mixedOrders = true := by kernel_rfl
section
/-- slices of numbers, and of such slices, that append makes may be written here -/
local instance wrI : Inhabited Globs := ⟨⟨fun _ => [], fun t => t == 36 || t == 85⟩⟩
theorem awake_run : deepW Try.prog (· == 74) (fun f => f == 79 || f == 114) 100 12 0 23 [] .nil = some (.bool true, .nil) := by kernel_rfl
theorem awake1 : callable Try.prog 23 = true ∧ CallOkB Try.prog 0 23 [] .nil (.bool true) .nil := deepW_ok mixed 12 0 _ _ _ _ _ awake_run
end
instance : Inhabited Globs := ⟨⟨fun _ => [], fun _ => false⟩⟩
theorem awake_ok : callable Try.prog 23 = true ∧ CallOk Try.prog 23 [] .nil (.bool true) .nil :=
  ⟨awake1.1, CallOk.up (i := wrI) (fun _ => rfl) (@pure_callB wrI _ 0 _ _ _ awake1.2 rfl rfl .nil)⟩
noncomputable def c23 : PCtr Try.prog where
  f := 23
  X := Unit
  args _ := []
  pre _ := True
  v _ := .bool true
  det := by intro x y e _ _; rfl
  ok _ _ := ⟨awake_ok.1, fun h => (pure_call awake_ok.2 rfl rfl h).wk⟩
end Go.Proofs.Bts

