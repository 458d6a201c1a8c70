/- Layer 2: the law of fewer pairs. -/
import Derived.Test.YtnnhomkkggkkfaaDoorRkAu
import Derived.Test.YtnnhomkkggkkfaaDoorRkAq
import Derived.KernelRfl
set_option linter.unusedSimpArgs false
set_option linter.unusedVariables false
set_option linter.unnecessarySimpa false
set_option maxHeartbeats 4000000
set_option maxRecDepth 100000
namespace Go.Proofs.Rnk
open Go Go.VM
open Go.Proofs.Sur (andn andn_bit andn_le i_wrap i_and i_or i_xor i_andn i_shl i_shr bit_01)

theorem oL_get {t : List Int} {n k : Nat} (h : k < n) : (oL t n).getD k i0 = ((oo (sn t) (alls t.length) k : Nat) : Int) := by
  simp [oL, List.getD_eq_getElem?_getD, h]
theorem oT_ob {t : List Int} (h : Tn t) : OB t.length (oT t) := by
  have hA := alls_lt h.s.2
  have hp := pc_alls t.length (by have := h.s.2; omega)
  refine ⟨oL_len _ _, ⟨fun k hk => ?_⟩⟩
  rw [oL_len] at hk
  have hw := oo_way (A := sn t) hA k (by omega)
  refine ⟨by rw [oL_get hk]; omega, by rw [oL_get hk]; have := fp_in h hk; omega, fun hm => ?_⟩
  rw [oL_get hk] at hm
  obtain ⟨j, hj, e⟩ := List.getElem_of_mem hm
  simp only [List.length_take, oL_len] at hj
  rw [List.getElem_take] at e
  simp only [oL, List.getElem_map, List.getElem_range] at e
  exact ((rs_bit hA k).1 hw).2 j (by omega) (by omega)
theorem oR_rok (t : List Int) : rok (oT t) (oR t) ∧ em (oT t) (oR t) := by
  constructor
  · intro hne
    cases hq : oT t with
    | nil => exact absurd hq hne
    | cons x l => simp [rm, hq, Room.wk]
  · intro e
    simp only [oR] at e
    cases hq : oT t with
    | nil => rfl
    | cons x l => rw [hq] at e; simp [rm, Room.wk] at e
end Go.Proofs.Rnk

