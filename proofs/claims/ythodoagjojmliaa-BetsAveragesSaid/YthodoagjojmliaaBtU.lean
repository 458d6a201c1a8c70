/- Layer 9: the law of averages, as it is called (P9.7). -/
import Derived.Test.YthodoagjojmliaaBtT
import Derived.Test.YthodoagjojmliaaBtR
import Derived.KernelRfl
set_option linter.unusedSimpArgs false
set_option linter.unusedVariables false
set_option linter.unnecessarySimpa false
set_option maxHeartbeats 4000000
set_option maxRecDepth 100000
namespace Go.Proofs.Bts
open Go Go.VM

theorem averages_ok (l : List Pr) (q : RK) (w : Int) (h1 : l.length ≤ Go.maxLen) (h2 : q.mt = true → l = []) (h3 : inR l) :
    CallOk Try.prog 16 [pz l (rr q), I w] .nil (.bool true) .nil := by
  have hc : Ctrs Try.prog none1 [c21w, c47.to, c49.to, c48.to, c42v, c23.to] := .rd _ c21w_reads (.pure _ (.pure _ (.pure _ (.rd _ c42v_reads (.pure _ .nil)))))
  have hp := pZ_rr h1 h2 h3
  have hr : (rr q).bnd 0 = true := by cases q <;> rfl
  by_cases h : fcB l = true ∧ 0 ≤ w ∧ w < l.length
  · obtain ⟨k, rfl⟩ : ∃ k : Nat, w = k := ⟨w.toNat, by omega⟩
    exact (r16t l (rr q) k hp hr h.1 (by omega)).run ok16 hc rfl
  · exact (r16f l (rr q) w hp h).run ok16 hc rfl
end Go.Proofs.Bts

