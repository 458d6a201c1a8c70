/- Layer 9: the law of proper scores, in all cases (P9.12). -/
import Derived.Test.YthodoagjojmliaaBtAi
import Derived.KernelRfl
set_option linter.unusedSimpArgs false
set_option linter.unusedVariables false
set_option linter.unnecessarySimpa false
set_option maxHeartbeats 4000000
set_option maxRecDepth 100000
namespace Go.Proofs.Bts
open Go Go.VM

theorem proper_ok (l m : List Pr) (q s : RK) (h1 : l.length ≤ Go.maxLen) (h2 : q.mt = true → l = []) (h3 : inR l) (k1 : m.length ≤ Go.maxLen) (k2 : s.mt = true → m = []) (k3 : inR m) :
    CallOk Try.prog 15 [pz l (rr q), pz m (rr s)] .nil (.bool true) .nil := by
  have hp := pZ_rr h1 h2 h3
  have hq := pZ_rr k1 k2 k3
  by_cases h : (fcB l = true ∧ fcB m = true) ∧ l.length = m.length
  · by_cases hb : 1000 < ((mul (l ++ m) : Nat) : Int)
    · exact (r15b l m (rr q) (rr s) hp hq h.1.1 h.1.2 h.2 hb).run ok15 ct15 rfl
    · exact (r15c l m (rr q) (rr s) hp hq h.1.1 h.1.2 h.2 (by omega)).run ok15 ct15 rfl
  · exact (r15a l m (rr q) (rr s) hp hq h).run ok15 ct15 rfl
end Go.Proofs.Bts

