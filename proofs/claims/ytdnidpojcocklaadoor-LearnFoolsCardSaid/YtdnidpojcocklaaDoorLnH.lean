/- Layer 4: how many concepts: by a table of bytes. -/
import Derived.Test.YtdnidpojcocklaaDoorLnG
import Derived.KernelRfl
set_option linter.unusedSimpArgs false
set_option linter.unusedVariables false
set_option linter.unnecessarySimpa false
set_option maxHeartbeats 4000000
set_option maxRecDepth 100000
namespace Go.Proofs.Lrn
open Go Go.VM

theorem cb_le (f : Nat → Bool) : ∀ n, cb f n ≤ n
  | 0 => Nat.le_refl 0
  | n + 1 => by have := cb_le f n; simp only [cb]; cases f n <;> simp <;> omega
theorem fd (N k : Nat) : (N : Int).fdiv (k : Int) = ((N / k : Nat) : Int) := by
  rw [Int.fdiv_eq_ediv_of_nonneg _ (by omega)]; simp
end Go.Proofs.Lrn

