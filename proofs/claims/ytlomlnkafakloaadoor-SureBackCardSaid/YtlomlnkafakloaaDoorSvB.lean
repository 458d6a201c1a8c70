/- Layer 5: the reference's pairs; the law of joins. -/
import Derived.Test.YtlomlnkafakloaaDoorSvA
import Derived.Test.YtlomlnkafakloaaDoorSuI
import Derived.KernelRfl
set_option linter.unusedSimpArgs false
set_option linter.unusedVariables false
set_option linter.unnecessarySimpa false
set_option maxHeartbeats 4000000
set_option maxRecDepth 100000
namespace Go.Proofs.Sur
open Go Go.VM

theorem fil_setd {α : Type} (f : Nat → α) (d : α) (n j : Nat) : (fil f d n j).set j d = fil f d n j := by
  apply List.ext_getElem
  · simp
  · intro i h1 h2
    simp only [fil, List.getElem_set, List.getElem_map, List.getElem_range]
    by_cases e : j = i
    · subst e; simp
    · rw [if_neg e]
end Go.Proofs.Sur

