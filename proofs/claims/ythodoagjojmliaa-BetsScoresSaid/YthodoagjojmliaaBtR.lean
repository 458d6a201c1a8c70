/- Layer 9: the law of scores, as it is called (P9.7). -/
import Derived.Test.YthodoagjojmliaaBtQ
import Derived.Test.YthodoagjojmliaaVm7
import Derived.KernelRfl
set_option linter.unusedSimpArgs false
set_option linter.unusedVariables false
set_option linter.unnecessarySimpa false
set_option maxHeartbeats 4000000
set_option maxRecDepth 100000
namespace Go.Proofs.Bts
open Go Go.VM

theorem rr_rok {α : Type} {l : List α} {q : RK} (h : q.mt = true → l = []) : rok l (rr q) := by
  intro hne e
  cases q <;> simp_all [rr, RK.mt]
theorem emp_rr {l : List Pr} {q : RK} (h : q.mt = true → l = []) : emp l (rr q) := by
  intro e
  cases q <;> simp_all [rr, RK.mt]
theorem pZ_rr {l : List Pr} {q : RK} (h1 : l.length ≤ Go.maxLen) (h2 : q.mt = true → l = []) (h3 : inR l) : pZ l (rr q) :=
  ⟨⟨Nat.le_trans h1 (by decide), emp_rr h2⟩, rr_rok h2, h3⟩
theorem scores_ok (l m : List Pr) (p q : RK) (w : Int) (h1 : l.length ≤ Go.maxLen) (h2 : p.mt = true → l = []) (h3 : inR l) (h4 : m.length ≤ Go.maxLen) (h5 : q.mt = true → m = []) (h6 : inR m) :
    CallOk Try.prog 8 [pz l (rr p), pz m (rr q), I w] .nil (.bool true) .nil := by
  have hc : Ctrs Try.prog none1 [c21.to, c47.to, c48.to, c49.to, c35.to, c50.to, c51f.to, c23.to] := .pure _ (.pure _ (.pure _ (.pure _ (.pure _ (.pure _ (.pure _ (.pure _ .nil)))))))
  have hp := pZ_rr h1 h2 h3
  have hq := pZ_rr h4 h5 h6
  have run : Body (En6 [c21.to, c47.to, c48.to, c49.to, c35.to, c50.to, c51f.to, c23.to]) none1 Try.f8 [pz l (rr p), pz m (rr q), I w] .nil (.bool true, .nil) := by
    cases hfl : fcB l with
    | false => exact r8a l _ m _ w hp hq hfl
    | true =>
      by_cases w0 : w < 0
      · cases hfm : fcB m with
        | false => exact r8mf l _ m _ w hp hq hfl w0 hfm
        | true =>
          by_cases he : (m.length : Int) = l.length
          · exact r8me l _ m _ w hp hq hfl w0 hfm he
          · exact r8mn l _ m _ w hp hq hfl w0 hfm he
      have w0 : 0 ≤ w := by omega
      by_cases w1 : (l.length : Int) ≤ w
      · cases hfm : fcB m with
        | false => exact r8pf l _ m _ w hp hq hfl w0 w1 hfm
        | true =>
          by_cases he : (m.length : Int) = l.length
          · exact r8pe l _ m _ w hp hq hfl w0 w1 hfm he
          · exact r8pn l _ m _ w hp hq hfl w0 w1 hfm he
      have w1 : w < (l.length : Int) := by omega
      obtain ⟨k, rfl⟩ : ∃ k : Nat, w = k := ⟨w.toNat, by omega⟩
      cases hfm : fcB m with
      | false => exact r8zf l _ m _ k hp hq hfl w0 w1 hfm
      | true =>
        by_cases he : (m.length : Int) = l.length
        · exact r8ze l _ m _ k hp hq hfl w0 w1 hfm he
        · exact r8zn l _ m _ k hp hq hfl w0 w1 hfm he
  exact run.run ok8 hc rfl
end Go.Proofs.Bts

