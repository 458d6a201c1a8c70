/- Layer 4: how many points, how many concepts. -/
import Derived.Test.YtdnidpojcocklaaDoorLnB
import Derived.KernelRfl
set_option linter.unusedSimpArgs false
set_option linter.unusedVariables false
set_option linter.unnecessarySimpa false
set_option maxHeartbeats 4000000
set_option maxRecDepth 100000
namespace Go.Proofs.Lrn
open Go Go.VM

/-- how often a test holds below n -/
def cb (f : Nat → Bool) : Nat → Nat
  | 0 => 0
  | n + 1 => cb f n + (f n).toNat
theorem cb_congr {f g : Nat → Bool} : ∀ n, (∀ i, i < n → f i = g i) → cb f n = cb g n
  | 0, _ => rfl
  | n + 1, h => by simp only [cb]; rw [cb_congr n (fun i hi => h i (by omega)), h n (by omega)]
/-- the number of a set's concepts -/
def pc (b : BitVec 32) : Nat := cb (fun i => b.getLsbD i) 32
end Go.Proofs.Lrn

