/- Joined: RkAu, RkX. -/
import Derived.Test.YtnnhomkkggkkfaaDoorRkAt
import Derived.KernelRfl
import Derived.Test.YtnnhomkkggkkfaaDoorRkJ
set_option linter.unusedSimpArgs false
set_option linter.unusedVariables false
set_option linter.unnecessarySimpa false
section
set_option maxHeartbeats 4000000
set_option maxRecDepth 100000
namespace Go.Proofs.Rnk
open Go Go.VM
open Go.Proofs.Sur (andn andn_bit andn_le i_wrap i_and i_or i_andn i_shl i_shr bit_01)

/-- an order's players -/
abbrev ofn (o : List Int) (k : Nat) : Nat := (o.getD k i0).toNat
theorem OB.way {n : Nat} {o : List Int} (h : OB n o) (h8 : n ≤ 8) : way (alls n) (ofn o) n := fun k hk => by
  rw [rs_bit (alls_lt h8) k, alls_bit]
  have hl := h.le
  have hd := h.h.h k (by omega)
  have h1 := hd.a
  have h2 := hd.b
  refine ⟨by simp only [ofn, decide_eq_true_eq]; omega, fun j hj e => hd.d ?_⟩
  have h3 := (h.h.h j (by omega)).a
  have e' : o.getD j i0 = o.getD k i0 := by simp only [ofn] at e; omega
  rw [← e']
  have hjl : j < o.length := by omega
  have : (o.take k)[j]? = some (o.getD j i0) := by
    rw [List.getElem?_take, if_pos hj, List.getD_eq_getElem?_getD, List.getElem?_eq_getElem hjl]; rfl
  exact List.mem_of_getElem? this
end Go.Proofs.Rnk
end
section
set_option maxHeartbeats 4000000
set_option maxRecDepth 100000
namespace Go.Proofs.Rnk
open Go Go.VM
open Go.Proofs.Sur (andn andn_bit andn_le i_wrap i_and i_or i_andn i_shl i_shr bit_01)

end Go.Proofs.Rnk
end
