/- Layer 4: both tables, laid. -/
import Derived.Test.YtdnidpojcocklaaDoorLoB0
import Derived.Test.YtdnidpojcocklaaDoorVm7
import Derived.Test.YtdnidpojcocklaaDoorRows
import Derived.KernelRfl
set_option linter.unusedSimpArgs false
set_option linter.unusedVariables false
set_option linter.unnecessarySimpa false
set_option maxRecDepth 100000
namespace Go.Proofs.Lrn
open Go Go.VM

theorem globs_both {W : World} (h : laidMet Tryd.prog [("math/bits.deBruijn32tab", YtdnidpojcocklaaDoor.Rows.laid_math_bits_deBruijn32tab), ("planchet/learn.having", YtdnidpojcocklaaDoor.Rows.laid_planchet_learn_having)] W) : GlobOk (.ofCells (Go.VM.seen W)) := by
  obtain ⟨ps, hL, _, _⟩ := h
  have h1 := laid_ints (zs := [0, 1, 28, 2, 29, 14, 24, 3, 30, 22, 20, 15, 25, 17, 4, 8, 31, 27, 13, 23, 21, 19, 16, 7, 26, 12, 18, 6, 11, 5, 10, 9]) (k := .u8) (e := 5) (t := 100) (g := 1) hL (by kernel_rfl) (by kernel_rfl) (by kernel_rfl) (by kernel_rfl) (by kernel_rfl)
  obtain ⟨qs, hL2⟩ := h1.2
  have h2 := laid_ints (zs := [2863311530, 3435973836, 4042322160, 4278255360, 4294901760]) (k := .u32) (rest := []) (e := 72) (t := 99) (g := 0) hL2 (by kernel_rfl) (by kernel_rfl) (by kernel_rfl) (by kernel_rfl) (by kernel_rfl)
  intro g i v hv
  match g with
  | 0 => exact h2.1 i v hv
  | 1 => exact h1.1 i v hv
  | g + 2 => cases hv
end Go.Proofs.Lrn

