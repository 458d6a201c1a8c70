/- Layer 5: codes against weights and covers. -/
import Derived.Test.YtlomlnkafakloaaDoorSyh
import Derived.Test.YtlomlnkafakloaaDoorSuZ
import Derived.Test.YtlomlnkafakloaaDoorSvE
set_option linter.unusedSimpArgs false
set_option linter.unusedVariables false
set_option linter.unnecessarySimpa false
namespace Go.Proofs.Sur
open Go Go.VM
set_option maxHeartbeats 1000000
/-- two signals of a set of neighbours are near -/
theorem clq_near {g : List Int} (hg : Gr g) {i : Nat} (hi : i < (clV g).length) {u v : Nat} (hu : u < g.length) (hv : v < g.length) (h1 : bS (clV g) i u = true) (h2 : bS (clV g) i v = true) : (wt_ (nrV g) u).getLsbD v = true := by
  have h64 := pw_64 hg.1.2
  have hm := clV_get hi
  have hlt := (clV_mem hg.1 hm).2
  have hok := clL_ok _ _ hm
  have h6 := hg.1.2
  have hp2 := Nat.two_pow_pos g.length
  rw [nrV_get hu, nrB_bit hg.1 hu (by omega)]
  by_cases e : v = u
  · subst e; simp
  · have := (qc_iff hg (s := (at_ (clV g) i).toNat) (by omega) hu).1 ((okF_iff _).1 hok u hu) h1 v hv h2 e
    rw [this]; rfl
/-! a cover has at least the weight -/
end Go.Proofs.Sur

