/- Layer 7: the law of counts, its loops. -/
import Derived.Test.YtmgbglnljnlapaaOrI
import Derived.KernelRfl
set_option linter.unusedSimpArgs false
set_option linter.unusedVariables false
set_option linter.unnecessarySimpa false
set_option maxHeartbeats 4000000
set_option maxRecDepth 100000
namespace Go.Proofs.Ord
open Go Go.VM
open Go.Proofs.Sur (andn andn_bit andn_le i_wrap i_and i_or i_andn i_shl i_shr bit_01)

noncomputable def c20t : PCtr Try.prog := narrow c20 (fun x : List Int × Room => (lim x.1.length ∧ rok x.1 x.2 ∧ em x.1 x.2) ∧ x.1.length ≤ 9) (fun x : List Int × Room => ls x.1 (rcl x.2)) (fun x hx => ⟨hx.1, by show ls (cut x.1) (rcl x.2) = _; rw [show cut x.1 = x.1 from List.take_of_length_le hx.2]⟩)
noncomputable def c24t : PCtr Try.prog := narrow c24 (fun x : List Int × Room => pI x.1 x.2 ∧ OrdL x.1) (fun _ : List Int × Room => .bool true) (fun x hx => ⟨hx.1, by show AV.bool (ordB x.1) = _; rw [ord_t hx.2]⟩)
/-- an order's slice, of a relation -/
theorem rl_get {n : Nat} (A : Rel) {i : Nat} (h : i < n) : ia (rl n A) i = ((A i : Nat) : Int) := by
  simp [ia, rl, List.getD_eq_getElem?_getD, h]
theorem rel_rl {n : Nat} {A : Rel} (h : Rg n A) : rel (rl n A) = A := by
  funext i
  rcases Nat.lt_or_ge i n with q | q
  · simp only [rel]; rw [rl_get A q]; rfl
  · rw [rel_out (by simpa using q), h.2 i q]
theorem rl_ord {n : Nat} {A : Rel} (h : Od n A) (h1 : 1 ≤ n) (h6 : n ≤ 6) : OrdL (rl n A) := by
  refine ⟨⟨by simpa using h1, by simpa using h6⟩, fun i hi => ?_, ?_, ?_⟩
  · have hi' : i < n := by simpa using hi
    have := h.rg.1 i
    rw [q1, rl_get A hi', rl_len]; omega
  · rw [rel_rl h.rg]; exact h.tr
  · rw [rel_rl h.rg]; exact h.irr
theorem rl_pI {n : Nat} {A : Rel} (h : Od n A) (h6 : n ≤ 6) {r : Room} (hr : rok (rl n A) r) : pI (rl n A) r := by
  refine ⟨?_, hr, fun i hi => ?_⟩
  · show (rl n A).length ≤ _; rw [rl_len]; omega
  · have hi' : i < n := by simpa using hi
    have := rg_lt h.rg h6 i
    rw [rl_get A hi']; simp only [i64]; omega
end Go.Proofs.Ord

