/- Layer 1: a table that is one, copied. -/
import Derived.Test.YtbadfaiepgfpdaaWgM
import Derived.KernelRfl
set_option linter.unusedSimpArgs false
set_option linter.unusedVariables false
set_option linter.unnecessarySimpa false
namespace Go.Proofs.Weg
open Go Go.VM

theorem tabs_eq {t : List Row} (hgr : gr t) (h : tb t) : tab t = t := by
  obtain ⟨_, h2, h3, h4, h5⟩ := h
  simp only [tab]
  rw [List.take_of_length_le (by omega)]
  have : ∀ x ∈ t, cr x = x := by
    intro x hx
    obtain ⟨i, hi, rfl⟩ := List.mem_iff_getElem.1 hx
    have e : List.getD t i row0 = t[i] := by simp [List.getD_eq_getElem?_getD, List.getElem?_eq_getElem hi]
    have hl := (h5 i hi).1
    have hm := (hgr i hi).2
    rw [e] at hl hm
    have hk : (t[i]).2.cl = (t[i]).2 := by
      cases hq : (t[i]).2 with
      | l => rfl
      | n => rfl
      | e =>
        rw [hq] at hm
        have h0 := hm rfl
        have h6 : (t[i]).1.length = 0 := by rw [h0]; rfl
        omega
    simp only [cr, cut, hk]
    rw [List.take_of_length_le (by omega)]
  rw [List.map_congr_left this, List.map_id']
theorem tab_len (t : List Row) : (tab t).length = min 16 t.length := by simp [tab]
theorem tab_at {t : List Row} {i : Nat} (h : i < (tab t).length) : (tab t).getD i row0 = cr (List.getD t i row0) := by
  have hl := tab_len t
  have hi : i < t.length := by omega
  have hi' : i < 16 := by omega
  simp only [List.getD_eq_getElem?_getD, tab, List.getElem?_map, List.getElem?_take, if_pos hi', List.getElem?_eq_getElem hi, Option.map_some, Option.getD_some]
theorem tb_tab {t : List Row} (h : tb (tab t)) : tb t := by
  obtain ⟨h1, h2, h3, h4, h5⟩ := h
  have hl := tab_len t
  have hlt : (tab t).length = t.length := by omega
  have e0 := tab_at (show 0 < (tab t).length by omega)
  rw [e0] at h3 h4
  simp only [cr, cut, List.length_take] at h3 h4
  refine ⟨by omega, by omega, by omega, by omega, fun i hi => ?_⟩
  have := h5 i (by omega)
  rw [tab_at (by omega), e0] at this
  simp only [cr, cut, List.length_take] at this
  have hk : (List.getD t i row0).1.length ≤ 16 := by omega
  rw [List.take_of_length_le hk] at this
  exact ⟨by omega, this.2⟩
theorem gr_tab {t : List Row} (h : gr t) : gr (tab t) := by
  intro i hi
  have hl := tab_len t
  rw [tab_at hi]
  refine ⟨by simp only [cr, cut, List.length_take, lim]; omega, fun hb => ?_⟩
  have hb' : (List.getD t i row0).2.mt = true := by
    cases hq : (List.getD t i row0).2 with
    | l => simp only [cr, hq] at hb; cases hb
    | n => rfl
    | e => rfl
  have := (h i (by omega)).2 hb'
  simp only [cr, cut]
  rw [this]; rfl
end Go.Proofs.Weg
