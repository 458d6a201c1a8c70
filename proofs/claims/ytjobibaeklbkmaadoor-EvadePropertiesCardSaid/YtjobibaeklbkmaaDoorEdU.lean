/- Layer 8: sums. -/
import Derived.Test.YtjobibaeklbkmaaDoorEdS
import Derived.KernelRfl
set_option linter.unusedSimpArgs false
set_option linter.unusedVariables false
set_option linter.unnecessarySimpa false
set_option maxHeartbeats 4000000
set_option maxRecDepth 100000
namespace Go.Proofs.Evd
open Go Go.VM
open Go.Proofs.Sur (W w_wrap w_nat w_inj w_eq0 w_and w_or w_andn w_shl w_shr neg_nat sub_nat tz tz_ok cl bits_cons bits_0 bits_len andn andn_bit andn_le i_wrap i_and i_or i_andn i_shl i_shr bit_01)

/-! ### what a law gets -/
theorem em_rr {l : List Int} {q : RK} (h : q.mt = true → l = []) : em l (rr q) := by
  intro e
  cases q <;> simp_all [rr, RK.mt]
theorem cut_rng {l : List Int} (h : rng l) : rng (cut l) := fun i hi => by
  have h1 : i < l.length := by rw [List.length_take] at hi; omega
  have h2 : i < 70 := by rw [List.length_take] at hi; omega
  have := h i h1
  simpa [cut, List.getD_eq_getElem?_getD, List.getElem?_take, h2] using this
theorem cut_no {n : Int} {l : List Int} (h : ¬ ∃ F, Fm n l F) : ¬ ∃ F, Fm n (cut l) F := by
  rintro ⟨F, hF⟩
  by_cases hl : l.length ≤ 70
  · rw [cut, List.take_of_length_le hl] at hF
    exact h ⟨F, hF⟩
  · have := hF.ok.2.1
    rw [List.length_take] at this
    omega
end Go.Proofs.Evd

