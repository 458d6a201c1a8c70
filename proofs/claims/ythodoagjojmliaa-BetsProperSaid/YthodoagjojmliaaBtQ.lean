/- Layer 9: the law of scores (P9.7). -/
import Derived.Test.YthodoagjojmliaaBtP
import Derived.KernelRfl
set_option linter.unusedSimpArgs false
set_option linter.unusedVariables false
set_option linter.unnecessarySimpa false
set_option maxHeartbeats 4000000
set_option maxRecDepth 100000
namespace Go.Proofs.Bts
open Go Go.VM

theorem cutp_len (l : List Pr) : (cutp l).length ≤ 8 := by simp only [cutp, List.length_take]; omega
theorem cutp_inR {l : List Pr} (h : inR l) : inR (cutp l) := fun i hi => by
  have h1 : i < l.length := by simp only [cutp, List.length_take] at hi; omega
  have h2 : i < 8 := by simp only [cutp, List.length_take] at hi; omega
  have e : (cutp l).getD i pair0 = l.getD i pair0 := by simp [cutp, List.getD_eq_getElem?_getD, List.getElem?_take, h2]
  rw [e]; exact h i h1
theorem cutp_M {l : List Pr} {r : Room} (hr : rok l r) (h : inR l) : pM (cutp l) (rcl r) := ⟨by have := cutp_len l; omega, fun hne => rcl_rok hr (fun e => hne (by rw [cutp, e]; rfl)), cutp_inR h⟩
theorem cutp_fc (l : List Pr) : fcB (cutp l) = fcB l := by
  by_cases h : l.length ≤ 8
  · rw [cutp_id h]
  · rw [fcB_f (fun q => by have := q.1.1; simp only [cutp, List.length_take] at this; omega), fcB_f (fun q => by have := q.1.1; omega)]
theorem cutp_fi {l : List Pr} (h : fcB l = true) : cutp l = l := cutp_id (by have := (fcB_r h).2.2.1; omega)
abbrev pZ (l : List Pr) (r : Room) : Prop := (lim l.length ∧ emp l r) ∧ rok l r ∧ inR l
end Go.Proofs.Bts

