/- Layer 1: the halves of all slices of places. -/
import Derived.Test.YtbadfaiepgfpdaaWgV
import Derived.KernelRfl
set_option linter.unusedSimpArgs false
set_option linter.unusedVariables false
set_option linter.unnecessarySimpa false
set_option maxHeartbeats 4000000
set_option maxRecDepth 100000
namespace Go.Proofs.Weg
open Go Go.VM
open Go.Proofs

def H1 : List Row := [([1], .l)]
def hv1 : AV := .sl [.sl [I (1)] 1 .full] 1 (.tok 0 1)
theorem h1run : deep Try.prog Wei.awsp 100 Wei.aw0 12 64 [I 1] .nil = some (hv1, ⟨[], [1], []⟩) := by kernel_rfl
def H2 : List Row := [([1, 0], .l), ([-1, 1], .l), ([0, 1], .l), ([1, 1], .l)]
def hv2 : AV := .sl [.sl [I (1), I (0)] 2 .full, .sl [I (-1), I (1)] 2 .full, .sl [I (0), I (1)] 2 .full, .sl [I (1), I (1)] 2 .full] 4 (.tok 0 1)
theorem h2run : deep Try.prog Wei.awsp 100 Wei.aw0 12 64 [I 2] .nil = some (hv2, ⟨[], [4], []⟩) := by kernel_rfl
def H3 : List Row := [([1, 0, 0], .l), ([-1, 1, 0], .l), ([0, 1, 0], .l), ([1, 1, 0], .l), ([-1, -1, 1], .l), ([0, -1, 1], .l), ([1, -1, 1], .l), ([-1, 0, 1], .l), ([0, 0, 1], .l), ([1, 0, 1], .l), ([-1, 1, 1], .l), ([0, 1, 1], .l), ([1, 1, 1], .l)]
def hv3 : AV := .sl [.sl [I (1), I (0), I (0)] 3 .full, .sl [I (-1), I (1), I (0)] 3 .full, .sl [I (0), I (1), I (0)] 3 .full, .sl [I (1), I (1), I (0)] 3 .full, .sl [I (-1), I (-1), I (1)] 3 .full, .sl [I (0), I (-1), I (1)] 3 .full, .sl [I (1), I (-1), I (1)] 3 .full, .sl [I (-1), I (0), I (1)] 3 .full, .sl [I (0), I (0), I (1)] 3 .full, .sl [I (1), I (0), I (1)] 3 .full, .sl [I (-1), I (1), I (1)] 3 .full, .sl [I (0), I (1), I (1)] 3 .full, .sl [I (1), I (1), I (1)] 3 .full] 13 (.tok 0 1)
theorem h3run : deep Try.prog Wei.awsp 100 Wei.aw0 12 64 [I 3] .nil = some (hv3, ⟨[], [13], []⟩) := by kernel_rfl
theorem h_ok {k : Int} {v : AV} {ts : List Nat} {w : AV} (h : deep Try.prog Wei.awsp 100 Wei.aw0 12 64 [I k] .nil = some (v, ⟨[], ts, []⟩)) (hp : v.plain = true) (hw : v.wkd = w) : callable Try.prog 64 = true ∧ CallOk Try.prog 64 [I k] .nil w .nil := by
  have := deep_ok mixed Wei.aw0_ok (allGood_spec Wei.good) 12 _ _ _ _ _ h
  refine ⟨this.1, ?_⟩
  rw [← hw]
  exact this.2.drop hp
def HL (k : Int) : List Row := if k = 1 then H1 else if k = 2 then H2 else H3
noncomputable def c64 : PCtr Try.prog where
  f := 64
  X := Int
  args k := [I k]
  pre k := k = 1 ∨ k = 2 ∨ k = 3
  v k := rs (HL k) .no
  det := by intro x y e _ _; simp at e; rw [e]
  ok := by
    intro k hk
    rcases hk with rfl | rfl | rfl
    · have := h_ok h1run rfl (w := rs (HL 1) .no) rfl
      exact ⟨this.1, fun h => pure_call this.2 rfl rfl h⟩
    · have := h_ok h2run rfl (w := rs (HL 2) .no) rfl
      exact ⟨this.1, fun h => pure_call this.2 rfl rfl h⟩
    · have := h_ok h3run rfl (w := rs (HL 3) .no) rfl
      exact ⟨this.1, fun h => pure_call this.2 rfl rfl h⟩
end Go.Proofs.Weg
