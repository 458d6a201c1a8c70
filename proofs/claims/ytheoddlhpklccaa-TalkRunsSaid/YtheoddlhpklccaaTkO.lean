/- Layer 3: TalkRuns. -/
import Derived.Test.YtheoddlhpklccaaTkN
import Derived.Test.YtheoddlhpklccaaVm6
set_option linter.unusedSimpArgs false
set_option linter.unusedVariables false
set_option linter.unnecessarySimpa false
set_option maxRecDepth 100000
namespace Go.Proofs.Tlk
open Go Go.VM
theorem rok_rr {α : Type} {l : List α} {q : RK} (h : q.mt = true → l = []) : rok l (rr q) := by
  intro hl e
  cases q <;> simp_all [rr, RK.mt]
theorem runs_ok (l : List Nd) (q : RK) (r c : Int) (h1 : lim l.length) (h2 : q.mt = true → l = []) : CallOk Try.prog 5 [nl l (rr q), I r, I c] .nil (.bool true) .nil := by
  by_cases hl : okR l r c
  · exact (r5 l _ r c h1 (rok_rr h2) hl).run ok5 (.pure _ (.pure _ (.pure _ (.pure _ (.pure _ (.pure _ .nil)))))) rfl
  · exact (r5f l _ r c h1 (rok_rr h2) hl).run ok5 (.pure _ (.pure _ (.pure _ (.pure _ .nil)))) rfl
theorem lim_max {n : Nat} (h : n ≤ Go.maxLen) : lim n := Nat.le_trans h (by decide)
end Go.Proofs.Tlk

