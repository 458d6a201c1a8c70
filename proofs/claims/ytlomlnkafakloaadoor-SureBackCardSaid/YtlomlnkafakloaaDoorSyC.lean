/- Layer 5: what the laws of weights have in common. -/
import Derived.Test.YtlomlnkafakloaaDoorSyh
import Derived.Test.YtlomlnkafakloaaDoorSuY
import Derived.KernelRfl
set_option linter.unusedSimpArgs false
set_option linter.unusedVariables false
set_option linter.unnecessarySimpa false
set_option maxHeartbeats 4000000
set_option maxRecDepth 100000
namespace Go.Proofs.Sur
open Go Go.VM

theorem cut_g5 {g : List Int} (h : sz (cut g)) : cut g = g := by
  have h1 := h.2
  have : (cut g).length = min 80 g.length := by simp [cut]
  exact List.take_of_length_le (by omega)
theorem rd_gr {g : List Int} {k : Int} (h : rdE g k = 0) : Gr g ∧ 1 ≤ k ∧ k ≤ 3 := by
  simp only [rdE] at h
  split at h
  · rename_i hc; exact ⟨grB_iff.1 hc.1, hc.2⟩
  · cases h
theorem co_eqB {g : List Int} {k : Int} (h : rdE g k = 0) : coV g k = frV (rdW g k) := if_pos h
theorem co_len {g : List Int} {k : Int} (h : rdE g k = 0) : (coV g k).length = msV (pwW g (k - 1).toNat) (ful (pwW g (k - 1).toNat).length) ∧ g.length ^ ((k - 1).toNat + 1) ≤ 64 := by
  obtain ⟨e, hl⟩ := rd_pw h
  obtain ⟨_, h1, _⟩ := rd_gr h
  rw [co_eqB h, (frV_ok (rd_gs h)).1, e]
  refine ⟨rfl, ?_⟩
  have : (k - 1).toNat + 1 = k.toNat := by omega
  rw [this]; exact hl
end Go.Proofs.Sur

