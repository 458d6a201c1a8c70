/- Layer 7: the law of counts. -/
import Derived.Test.YtmgbglnljnlapaaOrO
import Derived.KernelRfl
set_option linter.unusedSimpArgs false
set_option linter.unusedVariables false
set_option linter.unnecessarySimpa false
set_option maxHeartbeats 4000000
set_option maxRecDepth 100000
namespace Go.Proofs.Ord
open Go Go.VM
open Go.Proofs.Sur (andn andn_bit andn_le i_wrap i_and i_or i_andn i_shl i_shr bit_01)

theorem cut_get {o : List Int} {i : Nat} (h : i < 9) : ia (cut o) i = ia o i := by
  simp [ia, cut, List.getD_eq_getElem?_getD, List.getElem?_take, h]
theorem cut_pI {o : List Int} {r : Room} (h : pI o r) : pI (cut o) (rcl r) := by
  refine ⟨cut_lim o, fun hne => ?_, fun i hi => ?_⟩
  · have : o ≠ [] := fun e => hne (by rw [e]; rfl)
    exact rcl_rok h.2.1 this
  · have h9 : i < 9 ∧ i < o.length := by simp only [cut, List.length_take] at hi; omega
    rw [cut_get h9.1]; exact h.2.2 i h9.2
theorem cut_ord {o : List Int} : OrdL (cut o) ↔ OrdL o := by
  by_cases h : o.length ≤ 9
  · rw [cut_id h]
  · constructor
    · intro k
      have := k.s.2
      simp only [cut, List.length_take] at this
      omega
    · intro k
      have := k.s.2
      omega
theorem pJ_20 {o : List Int} {r : Room} (h : pJ o r) : lim o.length ∧ rok o r ∧ em o r := ⟨h.1.1, h.1.2.1, h.2⟩
/-- a number without its sign, modulo n -/
def ui (i : Int) : Nat := (IntKind.u64.wrap i).toNat
def md (i : Int) (n : Nat) : Nat := ui i % n
theorem rcl_pI {o : List Int} {r : Room} (h : pI o r) : pI o (rcl r) := ⟨h.1, rcl_rok h.2.1, h.2.2⟩
end Go.Proofs.Ord

