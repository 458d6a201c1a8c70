/- Layer 1: a table that is one, copied. -/
import Derived.Test.YtbadfaiepgfpdaaWgM
import Derived.KernelRfl
set_option linter.unusedSimpArgs false
set_option linter.unusedVariables false
set_option linter.unnecessarySimpa false
namespace Go.Proofs.Weg
open Go Go.VM

theorem tabs_eq {t : List Row} (hgr : gr t) (h : tb t) : tab t = t := by
  obtain ⟨_, h2, h3, h4, h5⟩ := h
  simp only [tab]
  rw [List.take_of_length_le (by omega)]
  have : ∀ x ∈ t, cr x = x := by
    intro x hx
    obtain ⟨i, hi, rfl⟩ := List.mem_iff_getElem.1 hx
    have e : List.getD t i row0 = t[i] := by simp [List.getD_eq_getElem?_getD, List.getElem?_eq_getElem hi]
    have hl := (h5 i hi).1
    have hm := (hgr i hi).2
    rw [e] at hl hm
    have hk : (t[i]).2.cl = (t[i]).2 := by
      cases hq : (t[i]).2 with
      | l => rfl
      | n => rfl
      | e =>
        rw [hq] at hm
        have h0 := hm rfl
        have h6 : (t[i]).1.length = 0 := by rw [h0]; rfl
        omega
    simp only [cr, cut, hk]
    rw [List.take_of_length_le (by omega)]
  rw [List.map_congr_left this, List.map_id']
end Go.Proofs.Weg
