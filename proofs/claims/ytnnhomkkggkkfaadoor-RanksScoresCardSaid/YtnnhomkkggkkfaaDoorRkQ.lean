/- Layer 2: the most players without a cycle, by the program. -/
import Derived.Test.YtnnhomkkggkkfaaDoorRkL
import Derived.Test.YtnnhomkkggkkfaaDoorRkI
import Derived.Test.YtnnhomkkggkkfaaDoorVm8
import Derived.KernelRfl
set_option linter.unusedSimpArgs false
set_option linter.unusedVariables false
set_option linter.unnecessarySimpa false
set_option maxHeartbeats 4000000
set_option maxRecDepth 100000
namespace Go.Proofs.Rnk
open Go Go.VM
open Go.Proofs.Sur (andn andn_bit andn_le i_wrap i_and i_or i_andn i_shl i_shr bit_01)

abbrev d8 (x : Int) : Prop := 0 ≤ x ∧ x < 8
abbrev tr8 (x : Tri) : Prop := d8 x.1 ∧ d8 x.2.1 ∧ d8 x.2.2
abbrev hS (s : Int) : H := ⟨[[I s]], [], []⟩
abbrev ts (l : List Tri) (r : Room) : AV := .sl (trisA l) l.length r
abbrev al8 (l : List Tri) : Prop := ∀ i, i < l.length → tr8 (l.getD i tri0)
abbrev pT (l : List Tri) (r : Room) (s : Int) : Prop := (l.length ≤ 1000 ∧ rok l r ∧ al8 l) ∧ s8 s ∧ r.bnd 0 = true
end Go.Proofs.Rnk

