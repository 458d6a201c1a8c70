/- Layer 4: what follow comes to. -/
import Derived.Test.YtdnidpojcocklaaDoorLnBa
import Derived.KernelRfl
set_option linter.unusedSimpArgs false
set_option linter.unusedVariables false
set_option linter.unnecessarySimpa false
set_option maxHeartbeats 4000000
set_option maxRecDepth 100000
namespace Go.Proofs.Lrn
open Go Go.VM
abbrev nd (l : List Tri) (i : Nat) : Tri := l.getD i tri0
abbrev okA1 (n : Nat) (x : Int) : Prop := x = -1 ∨ (0 ≤ x ∧ x < (n : Int))
/-- every link is an end or a place -/
abbrev lnkd (l : List Tri) : Prop := ∀ i, i < l.length → okA1 l.length (nd l i).2.1 ∧ okA1 l.length (nd l i).2.2
structure FoP (p : Int) (l : List Tri) (r : Room) (a : Int) : Prop where
  hp : p5 p
  hr : rok l r
  hl : lnkd l
  ha : okA1 l.length a
end Go.Proofs.Lrn

