/- Layer 5: codes of a graph, as lists. -/
import Derived.Test.YtlomlnkafakloaaDoorSuI
import Derived.Test.YtlomlnkafakloaaDoorSuY
import Derived.KernelRfl
set_option linter.unusedSimpArgs false
set_option linter.unusedVariables false
set_option linter.unnecessarySimpa false
set_option maxHeartbeats 4000000
set_option maxRecDepth 100000
namespace Go.Proofs.Sur
open Go Go.VM

theorem cut_g {g : List Int} (h : sz (cut g)) : cut g = g := by
  have h1 := h.2
  have : (cut g).length = min 80 g.length := by simp [cut]
  exact List.take_of_length_le (by omega)
theorem cut_gr {g : List Int} : Gr (cut g) ↔ Gr g := by
  constructor
  · intro h; rw [cut_g h.1] at h; exact h
  · intro h
    have : cut g = g := List.take_of_length_le (by have := h.1.2; omega)
    rw [this]; exact h
abbrev sm64 (l : List Int) : Prop := l.length ≤ 64 ∧ ∀ x, x ∈ l → 0 ≤ x ∧ x < 64
theorem sm_get {l : List Int} (h : sm64 l) {j : Nat} (hj : j < l.length) : 0 ≤ at_ l j ∧ at_ l j < 64 := by
  have e : at_ l j = l[j] := by simp [at_, List.getD_eq_getElem?_getD, List.getElem?_eq_getElem hj]
  rw [e]; exact h.2 _ (List.getElem_mem hj)
theorem co_eq {g : List Int} {k : Int} (h : rdE g k = 0) : coV g k = frV (rdW g k) := if_pos h
theorem cd_eq {g : List Int} {k : Int} (h : rdE g k = 0) (l : List Int) : cdB g k l = icF (rdW g k) 0#64 (-1) l := if_pos h
theorem co_sm {g : List Int} {k : Int} (h : rdE g k = 0) : sm64 (coV g k) := by
  have hg := rd_gs h
  obtain ⟨h1, h2, _⟩ := frV_ok hg
  rw [co_eq h]
  refine ⟨by rw [h1]; exact msV_le _ _, fun x hx => ?_⟩
  have := h2 x hx
  have := hg.1.1.2
  omega
theorem co_cd {g : List Int} {k : Int} (h : rdE g k = 0) : cdB g k (coV g k) = true := by
  rw [cd_eq h, co_eq h]; exact ic_fr (rd_gs h)
theorem cd_len {g : List Int} {k : Int} (h : rdE g k = 0) {l : List Int} (hc : cdB g k l = true) : l.length ≤ (coV g k).length := by
  rw [cd_eq h] at hc
  rw [co_eq h]
  exact cd_le (rd_gs h) ((ic_iff (rd_gs h).1.1.2 l).1 hc)
theorem cut_len {g : List Int} {k : Int} (h : rdE g k = 0) {l : List Int} (hc : cdB g k (cut l) = true) : l.length ≤ (coV g k).length := by
  have h1 := cd_len h hc
  have h2 := (co_sm h).1
  have : (cut l).length = min 80 l.length := by simp [cut]
  omega
end Go.Proofs.Sur
