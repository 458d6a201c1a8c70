/- Layer 5: the table of turns, laid. -/
import Derived.Test.YtlomlnkafakloaaDoorSuA
import Derived.Test.YtlomlnkafakloaaDoorVm6
import Derived.Test.YtlomlnkafakloaaDoorRows
import Derived.KernelRfl
set_option linter.unusedSimpArgs false
set_option linter.unusedVariables false
set_option linter.unnecessarySimpa false
set_option maxRecDepth 100000
namespace Go.Proofs.Sur
open Go Go.VM

theorem globs_ok {W : World} (h : laidMet Tryd.prog [("math/bits.deBruijn64tab", YtlomlnkafakloaaDoor.Rows.laid_math_bits_deBruijn64tab)] W) : GlobOk (.ofCells (Go.VM.seen W)) := by
  obtain ⟨ps, hL, _, _⟩ := h
  have := laid_ints (zs := [0, 1, 56, 2, 57, 49, 28, 3, 61, 58, 42, 50, 38, 29, 17, 4, 62, 47, 59, 36, 45, 43, 51, 22, 53, 39, 33, 30, 24, 18, 12, 5, 63, 55, 48, 27, 60, 41, 37, 16, 46, 35, 44, 21, 52, 32, 23, 11, 54, 26, 40, 15, 34, 20, 31, 10, 25, 14, 19, 9, 13, 8, 7, 6]) (k := .u8) (rest := []) (e := 5) (t := 117) (g := 0) hL (by kernel_rfl) (by kernel_rfl) (by kernel_rfl) (by kernel_rfl) (by kernel_rfl)
  intro g i v hv
  match g with
  | 0 => exact this.1 i v hv
  | g + 1 => cases hv
end Go.Proofs.Sur

