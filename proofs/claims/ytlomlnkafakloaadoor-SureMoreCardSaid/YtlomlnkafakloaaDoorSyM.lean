/- Layer 5: the law of products. -/
import Derived.Test.YtlomlnkafakloaaDoorSxL
import Derived.Test.YtlomlnkafakloaaDoorSuJ0
import Derived.Test.YtlomlnkafakloaaDoorSyC
import Derived.KernelRfl
set_option linter.unusedSimpArgs false
set_option linter.unusedVariables false
set_option linter.unnecessarySimpa false
set_option maxHeartbeats 4000000
set_option maxRecDepth 100000
namespace Go.Proofs.Sur
open Go Go.VM

abbrev ub (x : Int) (M : Int) : Prop := 0 ≤ x ∧ x ≤ M
theorem ub_mul {x y A B : Int} (hx : ub x A) (hy : ub y B) (hA : 0 ≤ A) : ub (x * y) (A * B) := ⟨Int.mul_nonneg hx.1 hy.1, Int.mul_le_mul hx.2 hy.2 hy.1 hA⟩
theorem wg_ub {g : List Int} (hg : Gr g) : ub (wgN g) 4320 ∧ ub (wgD g) 720 ∧ (1 ≤ wgD g ∧ wgD g ≤ 720 ∧ wgD g ≤ wgN g ∧ wgN g ≤ 6 * wgD g) ∧ wgE g = 0 := by
  obtain ⟨w0, _, _, _, w1, w2, w3, w4⟩ := wg_ok hg
  have h6 := hg.1.2
  have w5 : wgN g ≤ 6 * wgD g := by
    have := Int.mul_le_mul_of_nonneg_right (show (g.length : Int) ≤ 6 by omega) (show 0 ≤ wgD g by omega)
    omega
  exact ⟨⟨by omega, by omega⟩, ⟨by omega, by omega⟩, ⟨w1, w2, w3, w5⟩, w0⟩
end Go.Proofs.Sur

