/- Joined: EdAa, EdAb. -/
import Derived.Test.YtjobibaeklbkmaaDoorEdZ
import Derived.KernelRfl
set_option linter.unusedSimpArgs false
set_option linter.unusedVariables false
set_option linter.unnecessarySimpa false
section
set_option maxHeartbeats 4000000
set_option maxRecDepth 100000
namespace Go.Proofs.Evd
open Go Go.VM
open Go.Proofs.Sur (W w_wrap w_nat w_inj w_eq0 w_and w_or w_andn w_shl w_shr neg_nat sub_nat tz tz_ok cl bits_cons bits_0 bits_len andn andn_bit andn_le i_wrap i_and i_or i_andn i_shl i_shr bit_01)

end Go.Proofs.Evd
end
section
set_option maxHeartbeats 4000000
set_option maxRecDepth 100000
namespace Go.Proofs.Evd
open Go Go.VM
open Go.Proofs.Sur (W w_wrap w_nat w_inj w_eq0 w_and w_or w_andn w_shl w_shr neg_nat sub_nat tz tz_ok cl bits_cons bits_0 bits_len andn andn_bit andn_le i_wrap i_and i_or i_andn i_shl i_shr bit_01)

/-! ### Close -/
noncomputable def c65b : PCtr Tryd.prog := sctr ok65 (X := Int × List Int × Room) (fun x => [I x.1, ls x.2.1 x.2.2]) (fun x => (lim x.2.1.length ∧ rok x.2.1 x.2.2 ∧ rng x.2.1) ∧ ¬ okS x.1 x.2.1) (fun _ => .tup [fA 0 0#64, .bool false])
  (by intro x y e _ _; rfl) (fun x => by simp [AV.bnds, AV.bnd, AV.wk, rm_wk_bnd]) (fun _ => rfl) (fun x hx => ⟨_, _, _, .pure c111 (.pure c86i .nil), r65b x.1 x.2.1 x.2.2.wk (by simpa using hx.1.2.1) hx.1.2.2 hx.1.1 hx.2⟩)
noncomputable def c65g : PCtr Tryd.prog := sctr ok65 (X := Nat × List Int × Room) (fun x => [I x.1, ls x.2.1 x.2.2]) (fun x => (rok x.2.1 x.2.2 ∧ rng x.2.1) ∧ okS x.1 x.2.1) (fun x => .tup [fA (2 ^ x.1 - 1) (fm (nl x.2.1)), .bool true])
  (by
    rintro ⟨n, l, r⟩ ⟨n', l', r'⟩ e _ _
    simp at e
    obtain ⟨h1, h2, _⟩ := e
    have h1 : n = n' := by omega
    subst h1; subst h2; rfl) (fun x => by simp [AV.bnds, AV.bnd, AV.wk, rm_wk_bnd]) (fun _ => rfl) (fun x hx => ⟨_, _, _, .pure c111 (.pure c86i .nil), r65g x.1 x.2.1 x.2.2.wk (by simpa using hx.1.1) hx.1.2 hx.2.1 hx.2.2.1 (by have := hx.2.2.2; simpa using this)⟩)
/-! ### Link and Without -/
end Go.Proofs.Evd
end
