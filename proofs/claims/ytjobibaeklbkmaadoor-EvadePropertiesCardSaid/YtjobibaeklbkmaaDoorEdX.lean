/- Layer 8: joins, by the program and by the reference. -/
import Derived.Test.YtjobibaeklbkmaaDoorEdW
import Derived.KernelRfl
set_option linter.unusedSimpArgs false
set_option linter.unusedVariables false
set_option linter.unnecessarySimpa false
set_option maxHeartbeats 4000000
set_option maxRecDepth 100000
namespace Go.Proofs.Evd
open Go Go.VM
open Go.Proofs.Sur (W w_wrap w_nat w_inj w_eq0 w_and w_or w_andn w_shl w_shr neg_nat sub_nat tz tz_ok cl bits_cons bits_0 bits_len andn andn_bit andn_le i_wrap i_and i_or i_andn i_shl i_shr bit_01)

/-- two pure contracts as one -/
noncomputable def orP (c d : PCtr Tryd.prog) (hf : d.f = c.f) (hd : ∀ x y, c.args x = d.args y → c.pre x → d.pre y → c.v x = d.v y) : PCtr Tryd.prog where
  f := c.f
  X := c.X ⊕ d.X
  args := Sum.elim c.args d.args
  pre := Sum.elim c.pre d.pre
  v := Sum.elim c.v d.v
  det x y e p q := by
    cases x <;> cases y
    · exact c.det _ _ e p q
    · exact hd _ _ e p q
    · exact (hd _ _ e.symm q p).symm
    · exact d.det _ _ e p q
  ok x p := by
    cases x
    · exact c.ok _ p
    · rw [← hf]; exact d.ok _ p
theorem ls_inj {l m : List Int} {r q : Room} (h : ls l r = ls m q) : l = m := by
  simp at h; exact h.1
end Go.Proofs.Evd

