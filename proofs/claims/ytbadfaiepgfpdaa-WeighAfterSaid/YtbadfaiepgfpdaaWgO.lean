/- Layer 1: the arguments of its laws, opened. -/
import Derived.Test.YtbadfaiepgfpdaaVm5
import Derived.Test.YtbadfaiepgfpdaaWgA
set_option linter.unusedSimpArgs false
set_option linter.unusedVariables false
set_option linter.unnecessarySimpa false
namespace Go.Proofs.Weg
open Go Go.VM
section
variable {w : World} {r : Reach} {base : Nat}
set_option maxRecDepth 100000 in
theorem open_known {v : Value} (h : Value.okWide Try.prog w r base 23 v) :
    ∃ b hv l g n, v = .agg #[.int .i64 b, .int .i64 hv, .int .i64 l, .int .i64 g, .bool n] ∧ rng b ∧ rng hv ∧ rng l ∧ rng g := by
  obtain ⟨cs, rfl, hl, hc⟩ := agg_cells (ts := [3, 3, 3, 3, 4]) (by kernel_rfl) (by kernel_rfl) h
  have hl' : cs.length = 5 := hl.trans (by kernel_rfl)
  have u3 : Try.prog.underlying 3 = some (.int .i64) := by kernel_rfl
  have u4 : Try.prog.underlying 4 = some .bool := by kernel_rfl
  match cs, hl' with
  | [c0, c1, c2, c3, c4], _ =>
    obtain ⟨u, e0, k0⟩ := hc 0 c0 rfl; cases e0
    obtain ⟨u, e0, k1⟩ := hc 1 c1 rfl; cases e0
    obtain ⟨u, e0, k2⟩ := hc 2 c2 rfl; cases e0
    obtain ⟨u, e0, k3⟩ := hc 3 c3 rfl; cases e0
    obtain ⟨u, e0, k4⟩ := hc 4 c4 rfl; cases e0
    obtain ⟨b, rfl, hb⟩ := cell_int u3 k0
    obtain ⟨hv, rfl, hh⟩ := cell_int u3 k1
    obtain ⟨l, rfl, hz⟩ := cell_int u3 k2
    obtain ⟨g, rfl, hg⟩ := cell_int u3 k3
    obtain ⟨n, rfl⟩ := cell_bool u4 k4
    exact ⟨b, hv, l, g, n, rfl, hb, hh, hz, hg⟩
set_option maxRecDepth 100000 in
theorem open_load {v : Value} (h : Value.okWide Try.prog w r base 26 v) :
    ∃ b0 b1 h0 h1 l0 l1 g0 g1, v = .agg #[.int .i64 b0, .int .i64 b1, .int .i64 h0, .int .i64 h1, .int .i64 l0, .int .i64 l1, .int .i64 g0, .int .i64 g1] ∧ rng b0 ∧ rng b1 ∧ rng h0 ∧ rng h1 ∧ rng l0 ∧ rng l1 ∧ rng g0 ∧ rng g1 := by
  obtain ⟨cs, rfl, hl, hc⟩ := agg_cells (ts := [3, 3, 3, 3, 3, 3, 3, 3]) (by kernel_rfl) (by kernel_rfl) h
  have hl' : cs.length = 8 := hl.trans (by kernel_rfl)
  have u3 : Try.prog.underlying 3 = some (.int .i64) := by kernel_rfl
  match cs, hl' with
  | [c0, c1, c2, c3, c4, c5, c6, c7], _ =>
    obtain ⟨u, e0, k0⟩ := hc 0 c0 rfl; cases e0
    obtain ⟨u, e0, k1⟩ := hc 1 c1 rfl; cases e0
    obtain ⟨u, e0, k2⟩ := hc 2 c2 rfl; cases e0
    obtain ⟨u, e0, k3⟩ := hc 3 c3 rfl; cases e0
    obtain ⟨u, e0, k4⟩ := hc 4 c4 rfl; cases e0
    obtain ⟨u, e0, k5⟩ := hc 5 c5 rfl; cases e0
    obtain ⟨u, e0, k6⟩ := hc 6 c6 rfl; cases e0
    obtain ⟨u, e0, k7⟩ := hc 7 c7 rfl; cases e0
    obtain ⟨a0, rfl, q0⟩ := cell_int u3 k0
    obtain ⟨a1, rfl, q1⟩ := cell_int u3 k1
    obtain ⟨a2, rfl, q2⟩ := cell_int u3 k2
    obtain ⟨a3, rfl, q3⟩ := cell_int u3 k3
    obtain ⟨a4, rfl, q4⟩ := cell_int u3 k4
    obtain ⟨a5, rfl, q5⟩ := cell_int u3 k5
    obtain ⟨a6, rfl, q6⟩ := cell_int u3 k6
    obtain ⟨a7, rfl, q7⟩ := cell_int u3 k7
    exact ⟨_, _, _, _, _, _, _, _, rfl, q0, q1, q2, q3, q4, q5, q6, q7⟩
end
end Go.Proofs.Weg
