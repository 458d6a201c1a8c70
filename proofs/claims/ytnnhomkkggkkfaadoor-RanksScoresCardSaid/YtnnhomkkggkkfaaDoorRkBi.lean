/- Layer 2: scores that can be, a finite check. -/
import Derived.Test.YtnnhomkkggkkfaaDoorRkBb
import Derived.Test.YtnnhomkkggkkfaaDoorRkU
set_option linter.unusedSimpArgs false
set_option linter.unusedVariables false
set_option linter.unnecessarySimpa false
set_option maxRecDepth 100000
namespace Go.Proofs.Rnk
open Go Go.VM

/-- rising lists of numbers from some on that sum to some -/
def en : Nat → Nat → Nat → List (List Int)
  | 0, _, r => if r = 0 then [[]] else []
  | m + 1, lo, r => (List.range (8 - lo)).flatMap fun d => if (lo + d) * (m + 1) ≤ r then (en m (lo + d) (r - (lo + d))).map ((((lo + d : Nat)) : Int) :: ·) else []
def goodB (s : List Int) : Bool :=
  let T := mkT s
  T.length == s.length && (List.range s.length).all (fun i => decide (0 ≤ T.getD i i0) && decide (T.getD i i0 < ((2 ^ s.length : Nat) : Int)) && !((T.getD i i0).toNat.testBit i) && (List.range i).all (fun j => (T.getD i i0).toNat.testBit j != (T.getD j i0).toNat.testBit i) && decide (((pc (T.getD i i0).toNat : Nat) : Int) = s.getD i i0)) && decide (srt T = s)
def chkAll : Bool := (List.range 8).all fun n => (en (n + 1) 0 ((n + 1) * n / 2)).all fun s => !lanB s || goodB s
end Go.Proofs.Rnk

