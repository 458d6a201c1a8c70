/- Layer 7: the law of counts, its loops. -/
import Derived.Test.YtmgbglnljnlapaaOrI
import Derived.KernelRfl
set_option linter.unusedSimpArgs false
set_option linter.unusedVariables false
set_option linter.unnecessarySimpa false
set_option maxHeartbeats 4000000
set_option maxRecDepth 100000
namespace Go.Proofs.Ord
open Go Go.VM
open Go.Proofs.Sur (andn andn_bit andn_le i_wrap i_and i_or i_andn i_shl i_shr bit_01)

noncomputable def c20t : PCtr Try.prog := narrow c20 (fun x : List Int × Room => (lim x.1.length ∧ rok x.1 x.2 ∧ em x.1 x.2) ∧ x.1.length ≤ 9) (fun x : List Int × Room => ls x.1 (rcl x.2)) (fun x hx => ⟨hx.1, by show ls (cut x.1) (rcl x.2) = _; rw [show cut x.1 = x.1 from List.take_of_length_le hx.2]⟩)
theorem cut_id {o : List Int} (h : o.length ≤ 9) : cut o = o := List.take_of_length_le h
/-- an order's slice, of a relation -/
theorem rl_get {n : Nat} (A : Rel) {i : Nat} (h : i < n) : ia (rl n A) i = ((A i : Nat) : Int) := by
  simp [ia, rl, List.getD_eq_getElem?_getD, h]
abbrev pJ (o : List Int) (r : Room) : Prop := pI o r ∧ em o r
end Go.Proofs.Ord

