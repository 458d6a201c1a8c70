/- Layer 9: forecasts and averages, by the reference. -/
import Derived.Test.YthodoagjojmliaaBtJ
import Derived.KernelRfl
set_option linter.unusedSimpArgs false
set_option linter.unusedVariables false
set_option linter.unnecessarySimpa false
set_option maxHeartbeats 4000000
set_option maxRecDepth 100000
namespace Go.Proofs.Bts
open Go Go.VM
open Go.Proofs.Sur (i_and i_shl i_shr bit_01)

abbrev pW (l : List Pr) (r : Room) : Prop := lim l.length ∧ rok l r ∧ inR l
/-- a list that grows, its room -/
abbrev gz (a : List Int) : AV := .sl (ints a) a.length (rm 0 a)
abbrev pN (l : List Pr) (r : Room) : Prop := pM l r ∧ jOK l
end Go.Proofs.Bts

