/- Joined: SuJ0, SuQ0. -/
import Derived.Test.YtlomlnkafakloaaDoorSuI
import Derived.KernelRfl
import Derived.Test.YtlomlnkafakloaaDoorSuM
set_option linter.unusedSimpArgs false
set_option linter.unusedVariables false
set_option linter.unnecessarySimpa false
section
set_option maxHeartbeats 4000000
set_option maxRecDepth 100000
namespace Go.Proofs.Sur
open Go Go.VM

abbrev pl (l : List Int) (q : RK) : Prop := lim l.length ∧ (q.mt = true → l = [])
theorem pl_rok {l : List Int} {q : RK} (h : pl l q) : rok l (rr q) := by
  intro hne
  cases q
  · simp [rr]
  · exact absurd (h.2 rfl) hne
  · simp [rr]
theorem pl_em {l : List Int} {q : RK} (h : pl l q) : em l (rr q) := by
  intro he
  cases q
  · simp [rr] at he
  · simp [rr] at he
  · exact h.2 rfl
theorem pl_19 {l : List Int} {q : RK} (h : pl l q) : lim l.length ∧ rok l (rr q) ∧ em l (rr q) := ⟨h.1, pl_rok h, pl_em h⟩
theorem cut_rok {l : List Int} {r : Room} (h : rok l r) : rok (cut l) (rcl r) := fun hne => rcl_rok h (by rintro rfl; exact hne rfl)
theorem pl_c {l : List Int} {q : RK} (h : pl l q) : lim (cut l).length ∧ rok (cut l) (rcl (rr q)) := ⟨cut_lim l, cut_rok (pl_rok h)⟩
end Go.Proofs.Sur
end
section
namespace Go.Proofs.Sur
open Go Go.VM
end Go.Proofs.Sur
end
