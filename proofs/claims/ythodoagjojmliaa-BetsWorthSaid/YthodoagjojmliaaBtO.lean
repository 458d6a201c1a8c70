/- Layer 9: scores and averages, by the program and by the reference. -/
import Derived.Test.YthodoagjojmliaaBtL
import Derived.KernelRfl
set_option linter.unusedSimpArgs false
set_option linter.unusedVariables false
set_option linter.unnecessarySimpa false
set_option maxHeartbeats 4000000
set_option maxRecDepth 100000
namespace Go.Proofs.Bts
open Go Go.VM

/-- one in a world, nothing else -/
def uv (n k : Nat) : List Int := (List.replicate n i0).set k 1
open Classical in
/-- the score -/
noncomputable def scP (l : List Pr) (w : Int) : Pr := if fcB l = true ∧ 0 ≤ w ∧ w < l.length then lw (avN (rdA l) (rdD l) (uv l.length w.toNat) 1) (avD (rdD l) 1) else (0, 0)
open Classical in
/-- the average -/
noncomputable def mnP (l m : List Pr) : Pr := if (fcB l = true ∧ fcB m = true) ∧ l.length = m.length then lw (avN (rdA l) (rdD l) (rdA m) (rdD m)) (avD (rdD l) (rdD m)) else (0, 0)
end Go.Proofs.Bts

