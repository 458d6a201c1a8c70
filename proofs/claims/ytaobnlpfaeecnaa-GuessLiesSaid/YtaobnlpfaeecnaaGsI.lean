/- Layer 6: After, Weight, Lie. -/
import Derived.Test.YtaobnlpfaeecnaaGsH
import Derived.KernelRfl
set_option linter.unusedSimpArgs false
set_option linter.unusedVariables false
set_option linter.unnecessarySimpa false
set_option maxHeartbeats 4000000
set_option maxRecDepth 100000
namespace Go.Proofs.Gss
open Go Go.VM

theorem stB_t {x : List Int} {m : Int} : stB x m = true ↔ l4 x ∧ wn 0 m x = true ∧ sj x x.length ≤ m := by
  simp only [stB, Bool.and_eq_true, decide_eq_true_eq]
theorem bq_of {x u : List Int} (hw : wn 0 200 x = true) (hq : quB x u = true) : ∀ i, i < x.length → bq (ia x i) (ia u i) := fun i hi => by
  have h1 := (quB_t.1 hq).2 i hi
  have h2 := wn_get hw hi
  exact ⟨h1, h2.2⟩
theorem l4_q {x u : List Int} (h : l4 x) (hq : quB x u = true) : l4 u := by rw [l4, (quB_t.1 hq).1]; exact h
/-- both with as many elements as there may be -/
theorem nf_q {x u : List Int} (h : l4 x) (hw : wn 0 200 x = true) (hq : quB x u = true) : bq (nf x 0) (nf u 0) ∧ bq (nf x 1) (nf u 1) ∧ bq (nf x 2) (nf u 2) ∧ bq (nf x 3) (nf u 3) := by
  have g := bq_of hw hq
  have he := (quB_t.1 hq).1
  rcases l4_cases h with ⟨a, rfl⟩ | ⟨a, b, rfl⟩ | ⟨a, b, c, rfl⟩ | ⟨a, b, c, d, rfl⟩ <;>
  rcases l4_cases (l4_q h hq) with ⟨a', rfl⟩ | ⟨a', b', rfl⟩ | ⟨a', b', c', rfl⟩ | ⟨a', b', c', d', rfl⟩ <;> simp at he
  · have g0 := g 0 (by simp); simp [ia] at g0; simp [nf]; omega
  · have g0 := g 0 (by simp); have g1 := g 1 (by simp); simp [ia] at g0 g1; simp [nf]; omega
  · have g0 := g 0 (by simp); have g1 := g 1 (by simp); have g2 := g 2 (by simp); simp [ia] at g0 g1 g2; simp [nf]; omega
  · have g0 := g 0 (by simp); have g1 := g 1 (by simp); have g2 := g 2 (by simp); have g3 := g 3 (by simp); simp [ia] at g0 g1 g2 g3; simp [nf]; omega
abbrev okA (x u : List Int) : Bool := stB x 200 && quB x u
theorem wn_q {lo q : Int} : wn lo 30 [q] = decide (lo ≤ q ∧ q ≤ 30) := wn1 _ _ _
end Go.Proofs.Gss

