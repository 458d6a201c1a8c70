/- Layer 4: a list that was just made, copied. -/
import Derived.Test.YtdnidpojcocklaaDoorLnE
import Derived.Test.YtdnidpojcocklaaDoorLnQ
import Derived.KernelRfl
set_option linter.unusedSimpArgs false
set_option linter.unusedVariables false
set_option linter.unnecessarySimpa false
set_option maxHeartbeats 4000000
set_option maxRecDepth 100000
namespace Go.Proofs.Lrn
open Go Go.VM

noncomputable def c17a : PCtr Tryd.prog where
  f := 17
  X := List Int
  args l := [acc l]
  pre l := l ≠ [] ∧ lim l.length
  v l := ls (cut l) .no
  det := by
    intro l m e _ _
    have h := (List.cons.inj e).1
    simp only [AV.sl.injEq] at h
    rw [ints_inj h.1]
  ok := by
    intro l hl
    refine ⟨ok17.call, fun h => ?_⟩
    obtain ⟨h1, h2⟩ := hl
    have hb : ∀ m : List Int, (ls m .no).bnd 0 0 0 = true := fun m => by simp [AV.bnd, Room.bnd]
    have hb2 : ∀ m : List Int, AV.bnds 0 0 0 [ls m .no] = true := fun m => by simp [AV.bnds, AV.bnd, Room.bnd]
    cases l with
    | nil => exact absurd rfl h1
    | cons x t =>
      have := pure_call (ok17.run (pof_ok _) (sof_ok _) (r17 (x :: t) h2)) (hb2 (x :: t)) (hb (cut (x :: t))) h
      exact this.wk
end Go.Proofs.Lrn
