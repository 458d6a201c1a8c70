/- Layer 7: the least order with pairs, by the reference. -/
import Derived.Test.YtmgbglnljnlapaaOrR
import Derived.KernelRfl
set_option linter.unusedSimpArgs false
set_option linter.unusedVariables false
set_option linter.unnecessarySimpa false
set_option maxHeartbeats 4000000
set_option maxRecDepth 100000
namespace Go.Proofs.Ord
open Go Go.VM
open Go.Proofs.Sur (andn andn_bit andn_le i_wrap i_and i_or i_andn i_shl i_shr bit_01)

theorem rl_set {n : Nat} (A B : Rel) {k : Nat} (hk : k < n) (h : ∀ i, i ≠ k → B i = A i) : (rl n A).set k ((B k : Nat) : Int) = rl n B := by
  apply List.ext_getElem
  · simp
  · intro i h1 h2
    have hi : i < n := by simpa using h1
    simp only [List.getElem_set]
    by_cases e : k = i
    · subst e; rw [if_pos rfl]; simp [rl]
    · rw [if_neg e]; simp [rl, h i (fun q => e q.symm)]
abbrev hr7 (N : Nat) (A : Rel) : H := ⟨[ints (rl N A)], [], []⟩
theorem rl_b {n : Nat} {A : Rel} (h : pO n A) {k : Nat} (hk : k < n) : (rl n A).getD k i0 = ((A k : Nat) : Int) ∧ A k < 64 := ⟨rl_get A hk, rg_lt h.1 h.2 k⟩
end Go.Proofs.Ord

