/- Layer 5: graphs beside each other; the reference's pairs. -/
import Derived.Test.YtlomlnkafakloaaDoorSuH
import Derived.Test.YtlomlnkafakloaaDoorSuK
import Derived.Test.YtlomlnkafakloaaDoorSuJ0
import Derived.Test.YtlomlnkafakloaaDoorSuQ0
import Derived.KernelRfl
set_option linter.unusedSimpArgs false
set_option linter.unusedVariables false
set_option linter.unnecessarySimpa false
set_option maxHeartbeats 4000000
set_option maxRecDepth 100000
namespace Go.Proofs.Sur
open Go Go.VM

abbrev iac1 (l : List Int) : AV := .sl (ints l) l.length (.tok 0 1)
abbrev ih1 (l : List Int) : H := ⟨[], [l.length], []⟩
theorem app_intst {P : Program} {t : TypeId} (hT : appT P t = true) {l : List Int} {x : Int} (h0 : l.length ≠ 0) (hn : l.length ≤ 1000000000) :
    aAppend P t t (iac1 l) (.sl [I x] 1 .full) (ih1 l) = some (iac1 (l ++ [x]), ih1 (l ++ [x])) := by
  have := app_one hT (xs := ints l) (c := I x) (n := l.length) (ts := [l.length]) (r := .tok 0 1) (by simp) rfl hn (.inr ⟨h0, rfl, rfl⟩)
  rw [this]
  simp [ints]
end Go.Proofs.Sur

