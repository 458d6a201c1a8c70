/- Layer 4: lists, cut. -/
import Derived.Test.YtdnidpojcocklaaDoorLnB
import Derived.Test.YtdnidpojcocklaaDoorLnE
import Derived.KernelRfl
set_option linter.unusedSimpArgs false
set_option linter.unusedVariables false
set_option linter.unnecessarySimpa false
set_option maxHeartbeats 4000000
set_option maxRecDepth 100000
namespace Go.Proofs.Lrn
open Go Go.VM

theorem cut_same {l : List Int} (h : l.length ≤ 16) : cut l = l := List.take_of_length_le (by omega)
theorem cut_cls {p : Int} {l : List Int} : cls p (cut l) ↔ cls p l := by
  constructor
  · intro h
    have h2 := h.2.2.1
    have : (cut l).length = min 20 l.length := by simp [cut]
    have e : cut l = l := List.take_of_length_le (by omega)
    rw [e] at h; exact h
  · intro h
    rw [cut_same h.2.2.1]; exact h
theorem cl_rok {l : List Int} {q : RK} (h : q.mt = true → l = []) : rok (cut l) (rr q.cl) := by
  intro hne
  cases q
  · simp [rr, RK.cl]
  · exact absurd (by rw [h rfl]; rfl) hne
  · simp [rr, RK.cl]
theorem rr_rok' {l : List Int} {q : RK} (h : q.mt = true → l = []) : rok l (rr q) := by
  intro hne
  cases q
  · simp [rr]
  · exact absurd (h rfl) hne
  · simp [rr]
theorem cut_lim (l : List Int) : lim (cut l).length := by simp only [lim, cut, List.length_take]; omega
abbrev pl (l : List Int) (q : RK) : Prop := lim l.length ∧ (q.mt = true → l = [])
end Go.Proofs.Lrn

