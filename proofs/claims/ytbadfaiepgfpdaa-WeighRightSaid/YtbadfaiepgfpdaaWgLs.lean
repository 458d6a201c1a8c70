/- Layer 1: the law of Right and Plan, for all inputs. -/
import Derived.Test.YtbadfaiepgfpdaaWgLr
import Derived.KernelRfl
set_option linter.unusedSimpArgs false
set_option linter.unusedVariables false
set_option linter.unnecessarySimpa false
namespace Go.Proofs.Weg
open Go Go.VM
theorem ok6 : FokM Try.prog none1 6 Try.f6 := ⟨mixed, by kernel_rfl, by kernel_rfl, by kernel_rfl, by kernel_rfl⟩
theorem rights_ok (t : List Row) (r : Room) (m k : Int) (q1 : lim t.length) (q2 : rok t r) (q3 : gr t) : CallOk Try.prog 6 [rs t r, I m, I k] .nil (.bool true) .nil := by
  have g1 : lim (tab t).length := by have := tab_len t; simp only [lim]; omega
  have g3 := gr_tab q3
  have hi : in6 t r := ⟨q1, q2, q3, g1, g3⟩
  have cases_mk : (¬ (1 ≤ m ∧ m ≤ 13 ∧ 1 ≤ k ∧ k ≤ 3)) ∨ ∃ n, in31 n m k := by
    by_cases h : 1 ≤ m ∧ m ≤ 13 ∧ 1 ≤ k ∧ k ≤ 3
    · exact .inr ⟨m.toNat, by omega, by omega, by omega, by omega⟩
    · exact .inl h
  by_cases h : tb (tab t)
  · have ht := tb_tab h
    have e := tabs_eq q3 ht
    by_cases hw : lv t ∧ ap t
    · have hB : tb (tab t) ∧ lv (tab t) ∧ ap (tab t) := by rw [e]; exact ⟨ht, hw⟩
      rcases cases_mk with hA | ⟨n, hA⟩
      · exact (r6bz t r m k hA hB ht hw hi).run ok6 (.pure _ (.pure _ (.pure _ (.pure _ (.pure _ (.pure _ .nil)))))) rfl
      · rcases plan_cases hA.2.2.2 hA.2.1 hA.2.2.1 with ⟨p, h1, h2, h3, h4, h5, h6, h7, h8⟩ | ⟨h1, h2⟩
        · exact (r6sz t r m k n p hA h1 ⟨h2, h3⟩ h4 h5 h6 h7 h8 hB ht hw hi).run ok6 (.pure _ (.pure _ (.pure _ (.pure _ (.pure _ (.pure _ (.pure _ .nil))))))) rfl
        · exact (r6nz t r m k n hA h1 h2 hB ht hw hi).run ok6 (.pure _ (.pure _ (.pure _ (.pure _ (.pure _ (.pure _ (.pure _ .nil))))))) rfl
    · have hB : tb (tab t) ∧ ¬ (lv (tab t) ∧ ap (tab t)) := by rw [e]; exact ⟨ht, hw⟩
      rcases cases_mk with hA | ⟨n, hA⟩
      · exact (r6by t r m k hA hB ht hw hi).run ok6 (.pure _ (.pure _ (.pure _ (.pure _ (.pure _ (.pure _ .nil)))))) rfl
      · rcases plan_cases hA.2.2.2 hA.2.1 hA.2.2.1 with ⟨p, h1, h2, h3, h4, h5, h6, h7, h8⟩ | ⟨h1, h2⟩
        · exact (r6sy t r m k n p hA h1 ⟨h2, h3⟩ h4 h5 h6 h7 h8 hB ht hw hi).run ok6 (.pure _ (.pure _ (.pure _ (.pure _ (.pure _ (.pure _ (.pure _ .nil))))))) rfl
        · exact (r6ny t r m k n hA h1 h2 hB ht hw hi).run ok6 (.pure _ (.pure _ (.pure _ (.pure _ (.pure _ (.pure _ (.pure _ .nil))))))) rfl
  · have h0 : ¬ tb t := fun ht => by have e := tabs_eq q3 ht; rw [e] at h; exact h ht
    rcases cases_mk with hA | ⟨n, hA⟩
    · exact (r6bx t r m k hA h h0 hi).run ok6 (.pure _ (.pure _ (.pure _ (.pure _ (.pure _ .nil))))) rfl
    · rcases plan_cases hA.2.2.2 hA.2.1 hA.2.2.1 with ⟨p, h1, h2, h3, h4, h5, h6, h7, h8⟩ | ⟨h1, h2⟩
      · exact (r6sx t r m k n p hA h1 ⟨h2, h3⟩ h4 h5 h6 h7 h8 h h0 hi).run ok6 (.pure _ (.pure _ (.pure _ (.pure _ (.pure _ (.pure _ (.pure _ .nil))))))) rfl
      · exact (r6nx t r m k n hA h1 h2 h h0 hi).run ok6 (.pure _ (.pure _ (.pure _ (.pure _ (.pure _ (.pure _ .nil)))))) rfl
end Go.Proofs.Weg
