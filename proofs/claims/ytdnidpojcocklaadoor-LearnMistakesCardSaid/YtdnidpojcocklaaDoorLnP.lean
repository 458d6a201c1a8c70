/- Layer 4: the table of the concepts with a point, laid. -/
import Derived.Test.YtdnidpojcocklaaDoorLnA
import Derived.Test.YtdnidpojcocklaaDoorVm8
import Derived.Test.YtdnidpojcocklaaDoorRows
import Derived.KernelRfl
set_option linter.unusedSimpArgs false
set_option linter.unusedVariables false
set_option linter.unnecessarySimpa false
set_option maxRecDepth 100000
namespace Go.Proofs.Lrn
open Go Go.VM

theorem globs_ok {W : World} (h : laidMet Tryd.prog [("planchet/learn.having", YtdnidpojcocklaaDoor.Rows.laid_planchet_learn_having)] W) : GlobOk (.ofCells (Go.VM.seen W)) := by
  obtain ⟨ps, hL, _, _⟩ := h
  have := laid_ints (zs := [2863311530, 3435973836, 4042322160, 4278255360, 4294901760]) (k := .u32) (rest := []) (e := 72) (t := 99) (g := 0) hL (by kernel_rfl) (by kernel_rfl) (by kernel_rfl) (by kernel_rfl) (by kernel_rfl)
  intro g i v hv
  match g with
  | 0 => exact this.1 i v hv
  | g + 1 => cases hv
end Go.Proofs.Lrn

