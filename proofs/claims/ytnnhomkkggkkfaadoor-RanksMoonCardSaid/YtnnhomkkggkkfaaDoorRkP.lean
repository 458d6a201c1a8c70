/- Layer 2: the tables of turns, laid; what a slice as an argument is. -/
import Derived.Test.YtnnhomkkggkkfaaDoorRkM
import Derived.Test.YtnnhomkkggkkfaaDoorVm9
import Derived.Test.YtnnhomkkggkkfaaDoorRows
import Derived.KernelRfl
set_option linter.unusedSimpArgs false
set_option linter.unusedVariables false
set_option linter.unnecessarySimpa false
set_option maxRecDepth 100000
namespace Go.Proofs.Rnk
open Go Go.VM

theorem globs_ok {W : World} (h : laidMet Tryd.prog [("math/bits.deBruijn32tab", YtnnhomkkggkkfaaDoor.Rows.laid_math_bits_deBruijn32tab), ("math/bits.deBruijn64tab", YtnnhomkkggkkfaaDoor.Rows.laid_math_bits_deBruijn64tab)] W) : GlobOk (.ofCells (Go.VM.seen W)) := by
  obtain ⟨ps, hL, _, _⟩ := h
  have h1 := laid_ints (zs := [0, 1, 28, 2, 29, 14, 24, 3, 30, 22, 20, 15, 25, 17, 4, 8, 31, 27, 13, 23, 21, 19, 16, 7, 26, 12, 18, 6, 11, 5, 10, 9]) (k := .u8) (rest := [("math/bits.deBruijn64tab", YtnnhomkkggkkfaaDoor.Rows.laid_math_bits_deBruijn64tab)]) (e := 5) (t := 108) (g := 0) hL (by kernel_rfl) (by kernel_rfl) (by kernel_rfl) (by kernel_rfl) (by kernel_rfl)
  obtain ⟨_, qs, hL2⟩ := h1
  have h2 := laid_ints (zs := [0, 1, 56, 2, 57, 49, 28, 3, 61, 58, 42, 50, 38, 29, 17, 4, 62, 47, 59, 36, 45, 43, 51, 22, 53, 39, 33, 30, 24, 18, 12, 5, 63, 55, 48, 27, 60, 41, 37, 16, 46, 35, 44, 21, 52, 32, 23, 11, 54, 26, 40, 15, 34, 20, 31, 10, 25, 14, 19, 9, 13, 8, 7, 6]) (k := .u8) (rest := []) (e := 5) (t := 109) (g := 1) hL2 (by kernel_rfl) (by kernel_rfl) (by kernel_rfl) (by kernel_rfl) (by kernel_rfl)
  intro g i v hv
  match g with
  | 1 => exact h2.1 i v hv
  | 0 => cases hv
  | g + 2 => cases hv
end Go.Proofs.Rnk

