/- Layer 9: the law of scores, as it is called (P9.7). -/
import Derived.Test.YthodoagjojmliaaBtQ
import Derived.Test.YthodoagjojmliaaVm7
import Derived.KernelRfl
set_option linter.unusedSimpArgs false
set_option linter.unusedVariables false
set_option linter.unnecessarySimpa false
set_option maxHeartbeats 4000000
set_option maxRecDepth 100000
namespace Go.Proofs.Bts
open Go Go.VM

theorem rr_rok {α : Type} {l : List α} {q : RK} (h : q.mt = true → l = []) : rok l (rr q) := by
  intro hne e
  cases q <;> simp_all [rr, RK.mt]
theorem emp_rr {l : List Pr} {q : RK} (h : q.mt = true → l = []) : emp l (rr q) := by
  intro e
  cases q <;> simp_all [rr, RK.mt]
theorem pZ_rr {l : List Pr} {q : RK} (h1 : l.length ≤ Go.maxLen) (h2 : q.mt = true → l = []) (h3 : inR l) : pZ l (rr q) :=
  ⟨⟨Nat.le_trans h1 (by decide), emp_rr h2⟩, rr_rok h2, h3⟩
end Go.Proofs.Bts

