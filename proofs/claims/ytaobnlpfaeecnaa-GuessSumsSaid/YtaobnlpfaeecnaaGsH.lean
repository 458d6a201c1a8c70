/- Layer 6: replies, by the program and the reference. -/
import Derived.Test.YtaobnlpfaeecnaaGsG
import Derived.KernelRfl
set_option linter.unusedSimpArgs false
set_option linter.unusedVariables false
set_option linter.unnecessarySimpa false
set_option maxHeartbeats 4000000
set_option maxRecDepth 100000
namespace Go.Proofs.Gss
open Go Go.VM

/-- a list by its elements -/
def bld (n : Nat) (F : Nat → Int) : List Int := (List.range n).map F
@[simp] theorem bld_len (n : Nat) (F : Nat → Int) : (bld n F).length = n := by simp [bld]
/-- what comes over from the element before -/
def pr (y : Bool) (x q : List Int) : Nat → Int
  | 0 => 0
  | i + 1 => oth y (ia x i) (ia q i)
def fi (y : Bool) (x q : List Int) (i : Nat) : Int := pr y x q i + inn y (ia x i) (ia q i)
/-- the state after a reply -/
def afV (y : Bool) (x q : List Int) : List Int := bld x.length (fi y x q)
@[simp] theorem afV_len (y : Bool) (x q : List Int) : (afV y x q).length = x.length := by simp [afV]
end Go.Proofs.Gss

