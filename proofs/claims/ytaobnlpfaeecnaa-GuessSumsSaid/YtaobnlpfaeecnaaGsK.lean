/- Layer 6: the laws of After and Lie. -/
import Derived.Test.YtaobnlpfaeecnaaGsJ
import Derived.KernelRfl
set_option linter.unusedSimpArgs false
set_option linter.unusedVariables false
set_option linter.unnecessarySimpa false
set_option maxHeartbeats 4000000
set_option maxRecDepth 100000
namespace Go.Proofs.Gss
open Go Go.VM

/-- what is asked of a list that comes in -/
abbrev inc (x : List Int) (r : Room) : Prop := lim x.length ∧ rok x r ∧ em x r
theorem inc_rr {x : List Int} {q : RK} (h1 : lim x.length) (h2 : q.mt = true → x = []) : inc x (rr q) :=
  ⟨h1, rr_rok h2, fun h => by cases q <;> simp [rr] at h; exact h2 rfl⟩
theorem cut_id {x : List Int} (h : x.length ≤ 7) : cut x = x := List.take_of_length_le h
theorem cut_lim' {x : List Int} {r : Room} (h : inc x r) : lim (cut x).length ∧ rok (cut x) (rcl r) :=
  ⟨cut_lim x, fun hne => rcl_rok h.2.1 (fun e => hne (by rw [e]; rfl))⟩
theorem stB_cut (x : List Int) (m : Int) : stB (cut x) m = stB x m := by
  by_cases h : x.length ≤ 7
  · rw [cut_id h]
  · have h1 : stB x m = false := by simp [stB, l4]; omega
    have h2 : stB (cut x) m = false := by simp [stB, l4]; omega
    rw [h1, h2]
theorem quB_cut {x : List Int} (hx : x.length ≤ 4) (u : List Int) : quB x (cut u) = quB x u := by
  by_cases h : u.length ≤ 7
  · rw [cut_id h]
  · rw [quB_len (q := cut u) (by rw [List.length_take]; omega), quB_len (q := u) (by omega)]
theorem okA_cut (x u : List Int) : okA (cut x) (cut u) = okA x u := by
  simp only [okA, stB_cut]
  cases hs : stB x 200
  · rfl
  · have h4 := (stB_t.1 hs).1
    rw [cut_id (by omega : x.length ≤ 7), quB_cut h4.2]
abbrev p34 (x u : List Int) (r r' : Room) : Prop := ((lim x.length ∧ rok x r) ∧ rok u r')
end Go.Proofs.Gss

