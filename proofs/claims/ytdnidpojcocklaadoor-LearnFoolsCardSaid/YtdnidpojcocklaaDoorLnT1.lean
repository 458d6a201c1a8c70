/- Layer 4: the reference's learners. -/
import Derived.Test.YtdnidpojcocklaaDoorLnS0
import Derived.Test.YtdnidpojcocklaaDoorLnR
import Derived.KernelRfl
set_option linter.unusedSimpArgs false
set_option linter.unusedVariables false
set_option linter.unnecessarySimpa false
set_option maxHeartbeats 4000000
set_option maxRecDepth 100000
namespace Go.Proofs.Lrn
open Go Go.VM

theorem cb_or {f g : Nat → Bool} : ∀ n, (∀ i, i < n → ¬ (f i = true ∧ g i = true)) → cb (fun i => f i || g i) n = cb f n + cb g n
  | 0, _ => rfl
  | n + 1, h => by
    simp only [cb]
    rw [cb_or n (fun i hi => h i (by omega))]
    have := h n (by omega)
    cases hf : f n <;> cases hg : g n <;> simp_all <;> omega
abbrev lsn (l : List Int) (r : Room) : Prop := lst l r ∧ l.Nodup
@[simp] theorem lsn_wk {l : List Int} {r : Room} : lsn l r.wk ↔ lsn l r := by simp only [lsn, lst_wk]
theorem dimV_pos {p : Int} {b : BitVec 32} (h : b ≠ 0#32) : 0 ≤ dimV p b := by
  rw [dimV_eq h]
  exact (dmL_bd (K := 33) (by omega) (fun c _ => by have := dimV_bd p c; omega) _).1
end Go.Proofs.Lrn

