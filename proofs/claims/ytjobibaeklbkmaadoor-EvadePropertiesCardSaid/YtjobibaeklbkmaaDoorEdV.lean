/- Layer 8: the tables, laid. -/
import Derived.Test.YtjobibaeklbkmaaDoorEdA
import Derived.Test.YtjobibaeklbkmaaDoorVm7
import Derived.Test.YtjobibaeklbkmaaDoorRows
import Derived.KernelRfl
set_option linter.unusedSimpArgs false
set_option linter.unusedVariables false
set_option linter.unnecessarySimpa false
set_option maxRecDepth 100000
namespace Go.Proofs.Evd
open Go Go.VM

theorem globs_ok {W : World} (h : laidMet Tryd.prog [("math/bits.deBruijn64tab", YtjobibaeklbkmaaDoor.Rows.laid_math_bits_deBruijn64tab), ("planchet/evade.lacking", YtjobibaeklbkmaaDoor.Rows.laid_planchet_evade_lacking)] W) : GlobOk (.ofCells (Go.VM.seen W)) := by
  obtain ⟨ps, hL, _, _⟩ := h
  have h1 := laid_ints (zs := [0, 1, 56, 2, 57, 49, 28, 3, 61, 58, 42, 50, 38, 29, 17, 4, 62, 47, 59, 36, 45, 43, 51, 22, 53, 39, 33, 30, 24, 18, 12, 5, 63, 55, 48, 27, 60, 41, 37, 16, 46, 35, 44, 21, 52, 32, 23, 11, 54, 26, 40, 15, 34, 20, 31, 10, 25, 14, 19, 9, 13, 8, 7, 6]) (k := .u8) (rest := [("planchet/evade.lacking", YtjobibaeklbkmaaDoor.Rows.laid_planchet_evade_lacking)]) (e := 5) (t := 163) (g := 1) hL (by kernel_rfl) (by kernel_rfl) (by kernel_rfl) (by kernel_rfl) (by kernel_rfl)
  obtain ⟨h1, qs, hL2⟩ := h1
  have h2 := laid_ints (zs := [6148914691236517205, 3689348814741910323, 1085102592571150095, 71777214294589695, 281470681808895, 4294967295]) (k := .u64) (rest := []) (e := 74) (t := 135) (g := 0) hL2 (by kernel_rfl) (by kernel_rfl) (by kernel_rfl) (by kernel_rfl) (by kernel_rfl)
  intro g i v hv
  match g with
  | 0 => exact h2.1 i v hv
  | 1 => exact h1 i v hv
  | g + 2 => cases hv
end Go.Proofs.Evd

