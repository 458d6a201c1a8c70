/- Layer 9: forecasts, as the program reads them. -/
import Derived.Test.YthodoagjojmliaaBtF
import Derived.Test.YthodoagjojmliaaVm8
import Derived.KernelRfl
set_option linter.unusedSimpArgs false
set_option linter.unusedVariables false
set_option linter.unnecessarySimpa false
set_option maxHeartbeats 4000000
set_option maxRecDepth 100000
namespace Go.Proofs.Bts
open Go Go.VM

theorem k3 : ((regOps (sq1 (sq2 (sq2 (sq2 (bd Try.f100))))))[3]?).map (fun o => (o.op, o.dst)) = some (.load 99 (.tmp 4), some 24) := by kernel_rfl
theorem k4 : ((regOps (sq1 (sq2 (sq2 (sq2 (bd Try.f100))))))[4]?).map (fun o => (o.op, o.dst)) = some (.call { callee := .value (.func 99), args := #[.tmp 24], argTypes := #[99] }, some 25) := by kernel_rfl
theorem k6 : ((regOps (sq1 (sq2 (sq2 (sq2 (bd Try.f100))))))[6]?).map (fun o => (o.op, o.dst)) = some (.load 3 (.tmp 26), some 27) := by kernel_rfl
theorem g3 : ((regOps (sq1 (sq2 (sq2 (sq2 (bd Try.f100))))))[3]?).map (fun o => o.guard) = some (some (2, true)) := by kernel_rfl
theorem g4 : ((regOps (sq1 (sq2 (sq2 (sq2 (bd Try.f100))))))[4]?).map (fun o => o.guard) = some (some (2, true)) := by kernel_rfl
theorem d2 : ((regOps (sq1 (sq2 (sq2 (sq2 (bd Try.f100))))))[2]?).bind (·.dst) = some 23 := by kernel_rfl
abbrev J2 (a : List Int) (r : Room) (D : Int) : List AV := [ls a r, I D]
abbrev hN : H := ⟨[nz], [], []⟩
abbrev hM (a : List Int) (r : Room) (D : Int) : H := ⟨[nz, J2 a r D], [], []⟩
abbrev hE (a : List Int) (r : Room) (D : Int) : H := ⟨[J2 a r D, J2 a r D], [], []⟩
/-- may they be read? -/
abbrev rdO (l : List Pr) : Prop := (2 ≤ l.length ∧ l.length ≤ 5) ∧ smPs l
open Classical in
/-- its numbers, their denominator; whether it is a forecast -/
noncomputable def rdA (l : List Pr) : List Int := if rdO l ∧ jOK l then nums l else []
open Classical in
noncomputable def rdD (l : List Pr) : Int := if rdO l ∧ jOK l then (dn l l.length : Nat) else 0
open Classical in
noncomputable def fcB (l : List Pr) : Bool := if rdO l ∧ jOK l then decide (sI (ia (nums l)) (nums l).length = (dn l l.length : Nat)) else false
end Go.Proofs.Bts

