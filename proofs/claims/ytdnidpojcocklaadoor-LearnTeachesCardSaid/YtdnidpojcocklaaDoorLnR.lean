/- Layer 4: the reference's dimension. -/
import Derived.Test.YtdnidpojcocklaaDoorLnQ
import Derived.Test.YtdnidpojcocklaaDoorLnI
import Derived.KernelRfl
set_option linter.unusedSimpArgs false
set_option linter.unusedVariables false
set_option linter.unnecessarySimpa false
set_option maxHeartbeats 4000000
set_option maxRecDepth 100000
namespace Go.Proofs.Lrn
open Go Go.VM

theorem dfb_iff {b : BitVec 32} {x : Int} : dfb b x = true ↔ pt b x 0 ≠ 0#32 ∧ pt b x 1 ≠ 0#32 := by
  have e0 : pt b x 0 = b &&& ~~~ hv x := rfl
  have e1 : pt b x 1 = b &&& hv x := rfl
  rw [e0, e1]
  simp only [dfb, Bool.and_eq_true, bne_iff_ne, ne_eq]
  constructor
  · rintro ⟨h1, h2⟩
    refine ⟨fun h => h2 ?_, h1⟩
    apply BitVec.eq_of_getLsbD_eq
    intro i hi
    have := congrArg (fun z => z.getLsbD i) h
    simp only [BitVec.getLsbD_and, BitVec.getLsbD_not] at this ⊢
    simp [hi] at this ⊢
    exact this
  · rintro ⟨h1, h2⟩
    refine ⟨h2, fun h => h1 ?_⟩
    apply BitVec.eq_of_getLsbD_eq
    intro i hi
    have := congrArg (fun z => z.getLsbD i) h
    simp only [BitVec.getLsbD_and, BitVec.getLsbD_not] at this ⊢
    simp [hi] at this ⊢
    exact this
abbrev lst (l : List Int) (r : Room) : Prop := (l.length ≤ 1000 ∧ rok l r) ∧ inL l
@[simp] theorem lst_wk {l : List Int} {r : Room} : lst l r.wk ↔ lst l r := by simp only [lst, rok_wk]
end Go.Proofs.Lrn

