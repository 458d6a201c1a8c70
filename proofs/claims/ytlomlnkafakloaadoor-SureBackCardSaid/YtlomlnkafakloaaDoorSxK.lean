/- Layer 5: weights of joined graphs. -/
import Derived.Test.YtlomlnkafakloaaDoorSxI
import Derived.Test.YtlomlnkafakloaaDoorSvA
set_option linter.unusedSimpArgs false
set_option linter.unusedVariables false
set_option linter.unnecessarySimpa false
namespace Go.Proofs.Sur
open Go Go.VM
set_option maxHeartbeats 1000000
/-- two signals are the same or neighbours -/
def nr (g : List Int) (u v : Nat) : Bool := (wt_ (nrV g) u).getLsbD v
theorem nr_eq {g : List Int} (hg : Gr g) {u v : Nat} (hu : u < g.length) (hv : v < g.length) : nr g u v = (bi (at_ g u) v || decide (v = u)) := by
  have := hg.1.2
  rw [nr, nrV_get hu, nrB_bit hg.1 hu (by omega)]
/-! sums over pairs, and over both parts -/
/-- the joined graph -/
structure Joined (g h J : List Int) : Prop where
  gJ : Gr J
  len : J.length = g.length * h.length
  near : ∀ u v u' v', u < g.length → v < h.length → u' < g.length → v' < h.length → nr J (u * h.length + v) (u' * h.length + v') = (nr g u u' && nr h v v')
/-- both beside each other -/
structure Beside (g h J : List Int) : Prop where
  gJ : Gr J
  len : J.length = g.length + h.length
  n1 : ∀ u u', u < g.length → u' < g.length → nr J u u' = nr g u u'
  n2 : ∀ v v', v < h.length → v' < h.length → nr J (g.length + v) (g.length + v') = nr h v v'
  n3 : ∀ u v, u < g.length → v < h.length → nr J u (g.length + v) = false
end Go.Proofs.Sur

