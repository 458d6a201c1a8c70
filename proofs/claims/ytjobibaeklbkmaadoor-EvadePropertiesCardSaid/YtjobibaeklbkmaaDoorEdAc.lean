/- Layer 8: EvadeParts. -/
import Derived.Test.YtjobibaeklbkmaaDoorEdAa
import Derived.KernelRfl
set_option linter.unusedSimpArgs false
set_option linter.unusedVariables false
set_option linter.unnecessarySimpa false
set_option maxHeartbeats 4000000
set_option maxRecDepth 100000
namespace Go.Proofs.Evd
open Go Go.VM
open Go.Proofs.Sur (W w_wrap w_nat w_inj w_eq0 w_and w_or w_andn w_shl w_shr neg_nat sub_nat tz tz_ok cl bits_cons bits_0 bits_len andn andn_bit andn_le i_wrap i_and i_or i_andn i_shl i_shr bit_01)

/-- 'list' of sets -/
noncomputable def c18i : PCtr Tryd.prog where
  f := 18
  X := List Nat × Room
  args x := [ls (ic x.1) x.2]
  pre x := x.1.length ≤ 70 ∧ rok (ic x.1) x.2 ∧ em (ic x.1) x.2
  v x := ls (ic x.1) (rcl x.2)
  det := by
    rintro ⟨l, r⟩ ⟨l', r'⟩ e _ _
    simp at e
    obtain ⟨h1, _, h2⟩ := e
    have := ic_inj h1
    subst this; subst h2; rfl
  ok := by
    rintro ⟨l, r⟩ ⟨h0, h1, h2⟩
    have h0 : l.length ≤ 70 := h0
    have hl : lim (ic l).length := by have := ic_len l; simp only [lim]; omega
    have := c18.ok (ic l, r) ⟨hl, h1, h2⟩
    simp only [c18] at this
    rw [show cut (ic l) = ic l from List.take_of_length_le (by have := ic_len l; omega)] at this
    exact this
noncomputable def c18o : PCtr Tryd.prog := orP c18i c18 rfl (by
  rintro ⟨k, r⟩ ⟨l, q⟩ e ⟨h0, _⟩ _
  simp only [c18i, c18, List.cons.injEq, and_true] at e ⊢
  have e1 := ls_inj e
  simp at e
  obtain ⟨_, _, e2⟩ := e
  subst e1; subst e2
  rw [show cut (ic k) = ic k from List.take_of_length_le (by have := ic_len k; simp only at h0; omega)])
theorem elts_70 (F : W) : (elts F).length ≤ 70 := by
  have h1 : (elts F).length ≤ 64 := Go.Proofs.Sur.bits_len F
  omega
theorem ic_nl {l : List Int} (h : ∀ i, i < l.length → 0 ≤ ia l i) : ic (nl l) = l := by
  simp only [ic, nl, List.map_map]
  have : l.map ((fun n : Nat => (n : Int)) ∘ Int.toNat) = l.map id := by
    apply List.map_congr_left
    intro x hx
    obtain ⟨i, h1, h2⟩ := mem_ia hx
    have := h i h1
    rw [h2] at this
    simp only [Function.comp_apply, id_eq]; omega
  rw [this, List.map_id]
theorem cut_rok {l : List Int} {r : Room} (h : rok l r) : rok (cut l) (rcl r) := fun hne => rcl_rok h (fun e => hne (by rw [cut, e]; rfl))
theorem cut_okS {n : Int} {l : List Int} (h : ¬ okS n l) : ¬ okS n (cut l) := fun q => h (by
  by_cases hl : l.length ≤ 70
  · rwa [cut, List.take_of_length_le hl] at q
  · have := q.2.1
    rw [List.length_take] at this; omega)
theorem gB_t {n : Int} {l : List Int} (h : okS n l) : gB n l = true := by unfold gB; exact decide_eq_true h
theorem gB_f {n : Int} {l : List Int} (h : ¬ okS n l) : gB n l = false := by unfold gB; exact decide_eq_false h
end Go.Proofs.Evd

