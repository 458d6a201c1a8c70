/- Layer 8: a join is settled early if one of both is. -/
import Derived.Test.YtjobibaeklbkmaaDoorEdL
import Derived.Test.YtjobibaeklbkmaaDoorEdQ
set_option linter.unusedSimpArgs false
set_option linter.unusedVariables false
set_option linter.unnecessarySimpa false
set_option maxRecDepth 100000
namespace Go.Proofs.Evd
open Go.Proofs.Sur (W andn andn_bit andn_le)

theorem pc_full : ∀ k, k ≤ 6 → pc (2 ^ k - 1) = k := by decide
theorem fm_fa {n : Nat} {F : W} (h : Fm n (lst F) F) : Fa (2 ^ n - 1) F := fa_full (by have := h.n6; omega) (by have := h.rg; simpa using this) h.dn
theorem askV_nat (k : Nat) (F : W) : askV k F = ask (2 ^ k - 1) F := by rw [askV, Int.toNat_natCast]
end Go.Proofs.Evd

