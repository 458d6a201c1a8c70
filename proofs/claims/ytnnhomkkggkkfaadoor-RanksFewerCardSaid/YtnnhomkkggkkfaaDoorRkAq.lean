/- Layer 2: the law of results turned. -/
import Derived.Test.YtnnhomkkggkkfaaDoorRkAp
import Derived.Test.YtnnhomkkggkkfaaDoorRkAg
import Derived.Test.YtnnhomkkggkkfaaDoorRkK
import Derived.KernelRfl
set_option linter.unusedSimpArgs false
set_option linter.unusedVariables false
set_option linter.unnecessarySimpa false
set_option maxHeartbeats 4000000
set_option maxRecDepth 100000
namespace Go.Proofs.Rnk
open Go Go.VM
open Go.Proofs.Sur (andn andn_bit andn_le i_wrap i_and i_or i_xor i_andn i_shl i_shr bit_01)

/-- 'list' of a slice that is not longer and not empty -/
noncomputable def c19q : PCtr Tryd.prog where
  f := 19
  X := List Int × Room
  args x := [ls x.1 x.2]
  pre x := ((lim x.1.length ∧ rok x.1 x.2 ∧ em x.1 x.2) ∧ x.1.length ≤ 11) ∧ x.1 ≠ []
  v x := ls x.1 .no
  det := by
    rintro ⟨l, r⟩ ⟨l', r'⟩ e _ _
    simp at e
    simp [e]
  ok := by
    rintro ⟨l, r⟩ ⟨h1, h2⟩
    have := c19s.ok (l, r) h1
    have e : c19s.v (l, r) = ls l .no := by
      show ls l (rcl r) = _
      have hr := h1.1.2.1 h2
      cases r <;> first | rfl | exact absurd rfl hr
    rw [e] at this
    exact this
/-- 'pairs' of a slice that is not longer -/
noncomputable def c48s : PCtr Tryd.prog where
  f := 48
  X := List Pr × Room
  args x := [pz x.1 x.2]
  pre x := pP x.1 x.2 ∧ x.1.length ≤ 32
  v x := pz x.1 (rcl x.2)
  det := by
    rintro ⟨l, r⟩ ⟨l', r'⟩ e _ _
    simp only [List.cons.injEq, and_true] at e
    obtain ⟨rfl, rfl⟩ := pz_in e
    rfl
  ok := by
    rintro ⟨l, r⟩ ⟨h1, h2⟩
    have := c48.ok (l, r) h1
    have e : c48.v (l, r) = pz l (rcl r) := by show pz (cutp l) (rcl r) = _; rw [cutp_id h2]
    rw [e] at this
    exact this
theorem rcl_rokp {l : List Pr} {r : Room} (h : rok l r) : rok l (rcl r) := fun hne => by
  have := h hne
  cases r <;> first | exact absurd rfl this | (intro q; cases q)
theorem pP_rcl {l : List Pr} {r : Room} (h : pP l r) : pP l (rcl r) := ⟨h.1, rcl_rokp h.2.1, fun q => by cases r <;> cases q⟩
theorem pP_cut {l : List Pr} {r : Room} (h : pP l r) : pP (cutp l) (rcl r) := by
  refine ⟨?_, fun hne => rcl_rokp h.2.1 (fun e => hne (by rw [e]; rfl)), fun q => by cases r <;> cases q⟩
  have := h.1
  simp only [lim, cutp, List.length_take] at this ⊢
  omega
theorem pP_rr {l : List Pr} {q : RK} (h1 : l.length ≤ Go.maxLen) (h2 : q.mt = true → l = []) : pP l (rr q) := by
  refine ⟨Nat.le_trans h1 (by decide), fun hl e => ?_, fun e => ?_⟩
  · cases q <;> simp_all [rr, RK.mt]
  · cases q <;> simp_all [rr, RK.mt]
end Go.Proofs.Rnk

