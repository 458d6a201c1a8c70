/- Layer 5: words of words. -/
import Derived.Test.YtlomlnkafakloaaDoorSuX
import Derived.KernelRfl
set_option linter.unusedSimpArgs false
set_option linter.unusedVariables false
set_option linter.unnecessarySimpa false
set_option maxHeartbeats 4000000
set_option maxRecDepth 100000
namespace Go.Proofs.Sur
open Go Go.VM

def pwW (g : List Int) : Nat → List W
  | 0 => nrV g
  | m + 1 => prV (pwW g m) (nrV g)
theorem pwW_len (g : List Int) : ∀ m, (pwW g m).length = g.length ^ (m + 1)
  | 0 => by rw [pwW, nrV_len, Nat.pow_succ, Nat.pow_zero, Nat.one_mul]
  | m + 1 => by rw [pwW, prV_len, pwW_len g m, nrV_len, ← Nat.pow_succ]
theorem rdF_pw (g : List Int) : ∀ (n m : Nat) (u : List W), rdF g n (pwW g m) = some u → u = pwW g (m + n) ∧ (n ≠ 0 → g.length ^ (m + n + 1) ≤ 64)
  | 0, m, u, h => by cases h; exact ⟨rfl, fun h => absurd rfl h⟩
  | n + 1, m, u, h => by
    simp only [rdF] at h
    split at h
    · cases h
    · rename_i hs
      obtain ⟨h1, h2⟩ := rdF_pw g n (m + 1) u h
      have e : m + 1 + n = m + (n + 1) := by omega
      rw [e] at h1 h2
      refine ⟨h1, fun _ => ?_⟩
      by_cases hn : n = 0
      · subst hn
        rw [pwW_len, ← Nat.pow_succ] at hs
        exact Nat.le_of_not_lt hs
      · exact h2 hn
theorem rd_pw {g : List Int} {k : Int} (h : rdE g k = 0) : rdW g k = pwW g (k - 1).toNat ∧ g.length ^ k.toNat ≤ 64 := by
  obtain ⟨hg, hk, hF, hw⟩ := rd_ok h
  obtain ⟨h1, h2⟩ := rdF_pw g (k - 1).toNat 0 _ hF
  rw [Nat.zero_add] at h1
  refine ⟨h1, ?_⟩
  have e : k.toNat = (k - 1).toNat + 1 := by omega
  have hl := pwW_len g (k - 1).toNat
  rw [← h1] at hl
  rw [e, ← hl]; exact hw.1.2
theorem pwW_gs {g : List Int} (hg : Gr g) : ∀ m, g.length ^ (m + 1) ≤ 64 → gsW (pwW g m)
  | 0, _ => ⟨nrV_gd hg, nrV_sy hg⟩
  | m + 1, h => by
    have h1 : g.length ^ (m + 1) ≤ 64 := Nat.le_trans (Nat.pow_le_pow_right (by have := hg.1.1; omega) (by omega)) h
    obtain ⟨i1, i2⟩ := pwW_gs hg m h1
    have hl : (pwW g m).length * (nrV g).length ≤ 64 := by rw [pwW_len, nrV_len, ← Nat.pow_succ]; exact h
    exact ⟨prV_gd i1 (nrV_gd hg) hl, prV_sy i1 (nrV_gd hg) hl i2 (nrV_sy hg)⟩
theorem rd_gs {g : List Int} {k : Int} (h : rdE g k = 0) : gsW (rdW g k) := by
  obtain ⟨h1, h2⟩ := rd_pw h
  have e : k.toNat = (k - 1).toNat + 1 := by have := (rd_ok h).2.1; omega
  rw [h1]; exact pwW_gs (rd_ok h).1 _ (by rw [← e]; exact h2)
end Go.Proofs.Sur

