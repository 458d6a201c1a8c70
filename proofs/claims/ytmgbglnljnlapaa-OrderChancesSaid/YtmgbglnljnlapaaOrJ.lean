/- Layer 7: the law of counts, its loops. -/
import Derived.Test.YtmgbglnljnlapaaOrI
import Derived.KernelRfl
set_option linter.unusedSimpArgs false
set_option linter.unusedVariables false
set_option linter.unnecessarySimpa false
set_option maxHeartbeats 4000000
set_option maxRecDepth 100000
namespace Go.Proofs.Ord
open Go Go.VM
open Go.Proofs.Sur (andn andn_bit andn_le i_wrap i_and i_or i_andn i_shl i_shr bit_01)

noncomputable def c20t : PCtr Try.prog := narrow c20 (fun x : List Int × Room => (lim x.1.length ∧ rok x.1 x.2 ∧ em x.1 x.2) ∧ x.1.length ≤ 9) (fun x : List Int × Room => ls x.1 (rcl x.2)) (fun x hx => ⟨hx.1, by show ls (cut x.1) (rcl x.2) = _; rw [show cut x.1 = x.1 from List.take_of_length_le hx.2]⟩)
theorem cut_id {o : List Int} (h : o.length ≤ 9) : cut o = o := List.take_of_length_le h
/-- an order's slice, of a relation -/
theorem rl_get {n : Nat} (A : Rel) {i : Nat} (h : i < n) : ia (rl n A) i = ((A i : Nat) : Int) := by
  simp [ia, rl, List.getD_eq_getElem?_getD, h]
theorem rel_rl {n : Nat} {A : Rel} (h : Rg n A) : rel (rl n A) = A := by
  funext i
  rcases Nat.lt_or_ge i n with q | q
  · simp only [rel]; rw [rl_get A q]; rfl
  · rw [rel_out (by simpa using q), h.2 i q]
theorem rl_ord {n : Nat} {A : Rel} (h : Od n A) (h1 : 1 ≤ n) (h6 : n ≤ 6) : OrdL (rl n A) := by
  refine ⟨⟨by simpa using h1, by simpa using h6⟩, fun i hi => ?_, ?_, ?_⟩
  · have hi' : i < n := by simpa using hi
    have := h.rg.1 i
    rw [q1, rl_get A hi', rl_len]; omega
  · rw [rel_rl h.rg]; exact h.tr
  · rw [rel_rl h.rg]; exact h.irr
theorem ctO_rl {n : Nat} {A : Rel} (h : Rg n A) : ctO (rl n A) = ct A n (alls n) := by rw [ctO, rel_rl h, rl_len]
theorem alls_lt (n : Nat) : alls n < 2 ^ n := by have := Nat.two_pow_pos n; simp only [alls]; omega
abbrev pJ (o : List Int) (r : Room) : Prop := pI o r ∧ em o r
end Go.Proofs.Ord

