/- Layer 2: kings, their mathematics. -/
import Derived.Test.YtnnhomkkggkkfaaDoorRkI
set_option linter.unusedSimpArgs false
set_option linter.unusedVariables false
set_option linter.unnecessarySimpa false
set_option maxRecDepth 100000
namespace Go.Proofs.Rnk
open Go Go.VM

/-! ### how many -/
theorem filter_lt {α : Type} {f g : α → Bool} : ∀ (l : List α), (∀ a ∈ l, f a = true → g a = true) → (∃ a ∈ l, f a = false ∧ g a = true) → (l.filter f).length < (l.filter g).length
  | [], _, h => by obtain ⟨_, h, _⟩ := h; cases h
  | x :: l, h1, h2 => by
    have hle : (l.filter f).length ≤ (l.filter g).length := by
      have : ∀ (l : List α), (∀ a ∈ l, f a = true → g a = true) → (l.filter f).length ≤ (l.filter g).length := by
        intro l
        induction l with
        | nil => intro _; exact Nat.le_refl _
        | cons y l ih =>
          intro h
          have i := ih (fun a ha => h a (List.mem_cons_of_mem _ ha))
          have hy := h y (List.mem_cons_self ..)
          cases hf : f y
          · rw [List.filter_cons_of_neg (by simp [hf])]
            cases hg : g y
            · rw [List.filter_cons_of_neg (by simp [hg])]; exact i
            · rw [List.filter_cons_of_pos hg]; simp only [List.length_cons]; omega
          · rw [List.filter_cons_of_pos hf, List.filter_cons_of_pos (hy hf)]; simp only [List.length_cons]; omega
      exact this l (fun a ha => h1 a (List.mem_cons_of_mem _ ha))
    have hx := h1 x (List.mem_cons_self ..)
    cases hf : f x
    · rw [List.filter_cons_of_neg (by simp [hf])]
      cases hg : g x
      · rw [List.filter_cons_of_neg (by simp [hg])]
        refine filter_lt l (fun a ha => h1 a (List.mem_cons_of_mem _ ha)) ?_
        obtain ⟨a, ha, q1, q2⟩ := h2
        rcases List.mem_cons.1 ha with rfl | ha
        · rw [hg] at q2; cases q2
        · exact ⟨a, ha, q1, q2⟩
      · rw [List.filter_cons_of_pos hg]; simp only [List.length_cons]; omega
    · rw [List.filter_cons_of_pos hf, List.filter_cons_of_pos (hx hf)]
      simp only [List.length_cons]
      have := filter_lt l (fun a ha => h1 a (List.mem_cons_of_mem _ ha)) (by
        obtain ⟨a, ha, q1, q2⟩ := h2
        rcases List.mem_cons.1 ha with rfl | ha
        · rw [hf] at q1; cases q1
        · exact ⟨a, ha, q1, q2⟩)
      omega
/-! ### who is reached by two -/
theorem mem_els {s e : Nat} : e ∈ els s ↔ e < 8 ∧ s.testBit e = true := by
  simp only [els, List.mem_filter, List.mem_range]
theorem el_of {s e : Nat} (h : e < 8) (hb : s.testBit e = true) : ∃ k, k < pc s ∧ el s k = e := by
  obtain ⟨k, hk, hv⟩ := List.getElem_of_mem (mem_els.2 ⟨h, hb⟩)
  exact ⟨k, hk, by rw [el, List.getD_eq_getElem?_getD, List.getElem?_eq_getElem hk]; exact hv⟩
/-! ### the greatest score within a set -/
/-- the players who beat v -/
def over (t : List Int) (v : Nat) : Nat → Nat
  | 0 => 0
  | j + 1 => if bt t j v then over t v j ||| 2 ^ j else over t v j
end Go.Proofs.Rnk

