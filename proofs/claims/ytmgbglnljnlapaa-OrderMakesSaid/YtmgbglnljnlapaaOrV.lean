/- Layer 7: the law of closures. -/
import Derived.Test.YtmgbglnljnlapaaOrU
import Derived.KernelRfl
set_option linter.unusedSimpArgs false
set_option linter.unusedVariables false
set_option linter.unnecessarySimpa false
set_option maxHeartbeats 4000000
set_option maxRecDepth 100000
namespace Go.Proofs.Ord
open Go Go.VM
open Go.Proofs.Sur (andn andn_bit andn_le i_wrap i_and i_or i_andn i_shl i_shr bit_01)

abbrev pP (l : List Pr) (r : Room) : Prop := lim l.length ∧ rok l r ∧ emp l r
noncomputable def c18t : PCtr Try.prog := narrow c18 (fun x : List Pr × Room => pP x.1 x.2 ∧ x.1.length ≤ 35) (fun x : List Pr × Room => pz x.1 (rcl x.2)) (fun x hx => ⟨hx.1, by show pz (cutp x.1) (rcl x.2) = _; rw [cutp_id hx.2]⟩)
theorem rcl_rokp {l : List Pr} {r : Room} (h : rok l r) : rok l (rcl r) := fun hne => by
  have := h hne
  cases r <;> simp_all [rcl]
theorem cut_rokp {l : List Pr} {r : Room} (h : rok l r) : rok (cutp l) (rcl r) := fun hne => by
  have : l ≠ [] := fun e => hne (by rw [e]; rfl)
  exact rcl_rokp h this
end Go.Proofs.Ord

