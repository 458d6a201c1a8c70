/- Layer 9: scores and averages. -/
import Derived.Test.YthodoagjojmliaaBtK
import Derived.Test.YthodoagjojmliaaVm8
import Derived.KernelRfl
set_option linter.unusedSimpArgs false
set_option linter.unusedVariables false
set_option linter.unnecessarySimpa false
set_option maxHeartbeats 4000000
set_option maxRecDepth 100000
namespace Go.Proofs.Bts
open Go Go.VM

/-- the common multiple, where there is one -/
noncomputable def c54d : PCtr Try.prog where
  f := 54
  X := List Pr × Room
  args x := [pz x.1 x.2]
  pre x := pN x.1 x.2
  v x := I (dn x.1 x.1.length : Nat)
  det := by rintro ⟨l, r⟩ ⟨m, s⟩ e _ _; rw [pz_det (List.cons.inj e).1]
  ok := by
    rintro ⟨l, r⟩ hp
    have := c54.ok (l, r) hp.1
    have e : c54.v (l, r) = I (dn l l.length : Nat) := by show I ((mul l : Nat) : Int) = _; rw [mul_t (jOK_iff.1 hp.2).1]
    rw [e] at this
    exact this
end Go.Proofs.Bts

