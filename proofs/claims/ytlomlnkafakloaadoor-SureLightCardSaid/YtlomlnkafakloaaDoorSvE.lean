/- Layer 5: how many sets of neighbours have all signals. -/
import Derived.Test.YtlomlnkafakloaaDoorSvD
import Derived.KernelRfl
set_option linter.unusedSimpArgs false
set_option linter.unusedVariables false
set_option linter.unnecessarySimpa false
set_option maxHeartbeats 4000000
set_option maxRecDepth 100000
namespace Go.Proofs.Sur
open Go Go.VM

def cvT (t : Nat → Nat) (s : Nat) (b : Nat) (c : Int) : Nat := if andn s c.toNat < s then min b (1 + t (andn s c.toNat)) else b
def tb (g : List Int) : Nat → List Nat
  | 0 => []
  | s + 1 => tb g s ++ [if s = 0 then 0 else (clV g).foldl (cvT (fun i => (tb g s).getD i 0) s) g.length]
def V (g : List Int) (s : Nat) : Nat := (tb g (s + 1)).getD s 0
def pf (g : List Int) (s j : Nat) : Nat := ((clV g).take j).foldl (cvT (V g) s) g.length
abbrev VI (g : List Int) (i : Nat) : Int := (V g i : Nat)
abbrev mem (g : List Int) (L s j : Nat) : List Int := (fil (VI g) i0 L s).set s (pf g s j : Nat)
end Go.Proofs.Sur

