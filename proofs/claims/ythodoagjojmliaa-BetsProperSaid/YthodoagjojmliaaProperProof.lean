/- P9.12: the true chances score best. -/
import Derived.Test.YthodoagjojmliaaRows
import Derived.WalkKit
import Derived.ProofKit
import Derived.OpenShut
import Derived.Test.YthodoagjojmliaaVm7
import Derived.Test.YthodoagjojmliaaBtAj
set_option linter.unusedSimpArgs false
set_option linter.unusedVariables false
set_option linter.unnecessarySimpa false
namespace Go.Proofs.Ythodoagjojmliaa.betsProper
open Go.ChangeShapes Go.WideShapes Go.ChangeAt Go.RowKit
set_option linter.unusedVariables false

theorem own : ownKnob Try.prog.godebug = none := by kernel_rfl
theorem laidOut : laidOutB Try.prog = true := by kernel_rfl

/-! ### THE ROW's STEP -/
set_option maxRecDepth 100000 in
theorem lifted (os : Os) (started : os.Started) (H : Type) (enc : TypeId × Value → H) :
    ReturnsInHanded {} Try.checked os 15 .any (Rows.betsProperSpec.pre6 enc Try.prog Try.f15 Rows.betsProperRow.domain false) (Rows.betsProperSpec.post enc Try.prog Try.f15 false true false false) := by
  refine returnsInHanded_of_change (C := Try.checked) own started (by kernel_rfl) Try.func15
    (ChangeSpec.witness6 (enc := enc) (C := Try.checked) false ⟨#[], #[.slice none 0 0, .slice none 0 0], []⟩ 8 (by kernel_rfl) (by kernel_rfl) (by kernel_rfl) (by kernel_rfl)) ?_
  intro W base args ds gs before hval0 hW hcnd _
  have hval : ∀ (j : Nat) t v, Try.f15.params[j]? = some t → args[j]? = some v → Value.okWide Try.prog W .any base t v := hval0
  have hW' := hW
  obtain ⟨p, q, hA0, hV, rfl, hfz, hnd⟩ := hW
  have hA : DataW.TrodAll enc Try.prog W 0 (fun _ => true) true Try.f15.params.toList args.toList ds p := hA0
  rw [Try.params15] at hA hval
  obtain ⟨v0, vs0, d0, ds0, p0, q0, hargs, rfl, rfl, t0, rr0⟩ := trodAll_cons hA
  obtain ⟨v1, vs1, d1, ds1, p1, q1, rfl, rfl, rfl, t1, rr1⟩ := trodAll_cons rr0
  obtain ⟨rfl, rfl, rfl⟩ := trodAll_nil rr1
  obtain rfl : args = #[v0, v1] := by cases args; simp_all
  obtain ⟨rfl, rfl⟩ := trodVars_none hV
  have hm : Go.maxLen ≤ 9223372036854775807 := by decide
  obtain ⟨s0, s0'⟩ := Go.VM.val_slice (by kernel_rfl : Try.prog.underlying 23 = some (.slice 47)) (hval 0 23 v0 rfl rfl)
  obtain ⟨fuel0, f0⟩ := id t0
  rw [s0] at f0
  obtain ⟨a0, b0, hv0, k0a, k0b, k0c⟩ := Go.VM.open_fracsrB (by kernel_rfl : Try.prog.underlying 23 = some (.slice 47)) (by kernel_rfl) (by kernel_rfl : Go.VM.fr2 Try.prog 47 3 = true) Try.underlying3 (by kernel_rfl) s0' f0
  obtain ⟨s1, s1'⟩ := Go.VM.val_slice (by kernel_rfl : Try.prog.underlying 23 = some (.slice 47)) (hval 1 23 v1 rfl rfl)
  obtain ⟨fuel1, f1⟩ := id t1
  rw [s1] at f1
  obtain ⟨a1, b1, hv1, k1a, k1b, k1c⟩ := Go.VM.open_fracsrB (by kernel_rfl : Try.prog.underlying 23 = some (.slice 47)) (by kernel_rfl) (by kernel_rfl : Go.VM.fr2 Try.prog 47 3 = true) Try.underlying3 (by kernel_rfl) s1' f1
  have hc := Go.Proofs.Bts.proper_ok a0 a1 b0 b1 k0a k0b k0c k1a k1b k1c
  clear hA0 hval0
  have hlt : ∀ x ∈ p0 ++ (p1 ++ []), x.block < W.heap.size := fun x hx => by simpa using hW'.lt x (by simpa using hx)
  refine (Go.VM.top_bool (fr := Go.VM.seen W) hc Go.VM.seen_ok (Go.Proofs.Bts.globs_ok _) (w := W) (vs := [v0, v1]) (Go.VM.vrels_cons hv0 (Go.VM.vrels_cons hv1 (Go.VM.vrels_nil)))).mono fun e W' ⟨he, hg⟩ => ?_
  subst he
  have st : ∀ (t : TypeId) (v : Value) (d : DataW H) (ps : List MemPlace) (sp : Nat → Bool), Try.prog.readableRec t = true → t < Try.prog.types.size → DataW.Trod enc Try.prog W 0 (fun _ => true) true t v d ps → (∀ x ∈ ps, x.block < W.heap.size) → (∀ x ∈ ps, sp x.block = true) → DataW.Trod enc Try.prog W' 0 sp true t v d ps :=
    fun t v d ps sp k1 k2 k3 k4 k5 => Go.WideElems.Trod_stays laidOut k1 k2 k3 (fun x hx => hg.same (k4 x hx)) k5
  exact ⟨_, rfl, Go.VM.post_of_below (pv := []) hW' (fun _ _ _ => (trodAll_cons_mk (shut_bool Try.underlying4 _) trodAll_mk0))
    (fun sp hsp => (trodAll_cons_mk (st 23 _ _ _ sp (by kernel_rfl) (of_decide_eq_true (by kernel_rfl)) t0 (fun x hx => hlt x (by simp [hx])) (fun x hx => hsp x (by simp [hx]))) (trodAll_cons_mk (st 23 _ _ _ sp (by kernel_rfl) (of_decide_eq_true (by kernel_rfl)) t1 (fun x hx => hlt x (by simp [hx])) (fun x hx => hsp x (by simp [hx]))) trodAll_mk0))) (fun _ _ => rfl) rfl
    hg (ok_one (by kernel_rfl) rfl (okWide_bool_mk Try.underlying4 _))⟩

theorem over : Rows.betsProperRow.holds Try.pinned (OpenSpec.ofChange Rows.betsProperSpec) :=
  OpenClaim.holds_of_wide 15 Try.f15 rfl rfl rfl rfl rfl rfl rfl ⟨rfl, rfl, rfl, rfl, rfl⟩ rfl rfl rfl rfl rfl (by kernel_rfl) Try.func15 (by kernel_rfl)
    (of_decide_eq_true (by kernel_rfl)) (by unfold Func.isWrapper; first | (rw [if_pos (by decide +kernel)]; kernel_rfl) | (rw [if_neg (by decide +kernel)]; exact ⟨rfl, rfl⟩))
    (fun os started H enc _ => lifted os started H enc)

/-- ████ THE STATEMENT ████ -/
theorem proved : Rows.BetsProperSaid :=
  over
#print axioms proved
end Go.Proofs.Ythodoagjojmliaa.betsProper
