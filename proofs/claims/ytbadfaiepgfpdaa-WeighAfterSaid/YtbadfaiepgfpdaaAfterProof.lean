/- For every Known, every Load and every result the law of After, the Go function that holds what is known
   after a weighing against the reference, returns true. -/
import Derived.Test.YtbadfaiepgfpdaaRows
import Derived.WalkKit
import Derived.ProofKit
import Derived.OpenShut
import Derived.Test.YtbadfaiepgfpdaaWgO
import Derived.Test.YtbadfaiepgfpdaaWgD
set_option linter.unusedSimpArgs false
set_option linter.unusedVariables false
set_option linter.unnecessarySimpa false
namespace Go.Proofs.Ytbadfaiepgfpdaa.weighAfter
open Go.ChangeShapes Go.WideShapes Go.ChangeAt Go.RowKit
set_option linter.unusedVariables false

theorem own : ownKnob Try.prog.godebug = none := by kernel_rfl
theorem laidOut : laidOutB Try.prog = true := by kernel_rfl

/-! ### THE ROW's STEP -/
set_option maxRecDepth 100000 in
theorem lifted (os : Os) (started : os.Started) (H : Type) (enc : TypeId × Value → H) :
    ReturnsInHanded {} Try.checked os 3 .any (Rows.weighAfterSpec.pre6 enc Try.prog Try.f3 Rows.weighAfterRow.domain false) (Rows.weighAfterSpec.post enc Try.prog Try.f3 false true false false) := by
  refine returnsInHanded_of_change (C := Try.checked) own started (by kernel_rfl) Try.func3
    (ChangeSpec.witness6 (enc := enc) (C := Try.checked) false ⟨#[], #[.agg #[.int .i64 0, .int .i64 0, .int .i64 0, .int .i64 0, .bool false], .agg #[.int .i64 0, .int .i64 0, .int .i64 0, .int .i64 0, .int .i64 0, .int .i64 0, .int .i64 0, .int .i64 0], .int .i64 0], []⟩ 8 (by kernel_rfl) (by kernel_rfl) (by kernel_rfl) (by kernel_rfl)) ?_
  intro W base args ds gs before hval0 hW hcnd _
  have hval : ∀ (j : Nat) t v, Try.f3.params[j]? = some t → args[j]? = some v → Value.okWide Try.prog W .any base t v := hval0
  have hW' := hW
  obtain ⟨p, q, hA0, hV, rfl, hfz, hnd⟩ := hW
  have hA : DataW.TrodAll enc Try.prog W 0 (fun _ => true) true Try.f3.params.toList args.toList ds p := hA0
  rw [Try.params3] at hA hval
  obtain ⟨v0, vs0, d0, ds0, p0, q0, hargs, rfl, rfl, t0, r0⟩ := trodAll_cons hA
  obtain ⟨v1, vs1, d1, ds1, p1, q1, rfl, rfl, rfl, t1, r1⟩ := trodAll_cons r0
  obtain ⟨v2, vs2, d2, ds2, p2, q2, rfl, rfl, rfl, t2, r2⟩ := trodAll_cons r1
  obtain ⟨rfl, rfl, rfl⟩ := trodAll_nil r2
  obtain rfl : args = #[v0, v1, v2] := by cases args; simp_all
  obtain ⟨rfl, rfl⟩ := trodVars_none hV
  obtain ⟨b, hv, l, g, n, rfl, w1, w2, w3, w4⟩ := Go.Proofs.Weg.open_known (hval 0 23 v0 rfl rfl)
  obtain ⟨b0, b1, h0, h1, l0, l1, g0, g1, rfl, y1, y2, y3, y4, y5, y6, y7, y8⟩ := Go.Proofs.Weg.open_load (hval 1 26 v1 rfl rfl)
  obtain ⟨r, rfl, hr⟩ := Go.VM.val_int Try.underlying3 (hval 2 3 v2 rfl rfl)
  have hc := Go.Proofs.Weg.after_ok b hv l g n b0 b1 h0 h1 l0 l1 g0 g1 r ⟨w1, w2, w3, w4, y1, y2, y3, y4, y5, y6, y7, y8, hr⟩
  clear hA0 hval0
  have hlt : ∀ x ∈ p0 ++ (p1 ++ (p2 ++ [])), x.block < W.heap.size := fun x hx => by simpa using hW'.lt x (by simpa using hx)
  refine (Go.VM.top_bool (fr := fun _ _ => none) hc (fun _ _ _ h => by cases h) (w := W) (vs := [.agg #[.int .i64 b, .int .i64 hv, .int .i64 l, .int .i64 g, .bool n], .agg #[.int .i64 b0, .int .i64 b1, .int .i64 h0, .int .i64 h1, .int .i64 l0, .int .i64 l1, .int .i64 g0, .int .i64 g1], .int .i64 r]) (by repeat (first | exact Go.VM.vrels_nil | exact Go.VM.vrel_int | exact Go.VM.vrel_bool | refine Go.VM.vrel_agg ?_ | refine Go.VM.vrels_cons ?_ ?_))).mono fun e W' ⟨he, hg⟩ => ?_
  subst he
  have st : ∀ (t : TypeId) (v : Value) (d : DataW H) (ps : List MemPlace) (sp : Nat → Bool), Try.prog.readableRec t = true → t < Try.prog.types.size → DataW.Trod enc Try.prog W 0 (fun _ => true) true t v d ps → (∀ x ∈ ps, x.block < W.heap.size) → (∀ x ∈ ps, sp x.block = true) → DataW.Trod enc Try.prog W' 0 sp true t v d ps :=
    fun t v d ps sp k1 k2 k3 k4 k5 => Go.WideElems.Trod_stays laidOut k1 k2 k3 (fun x hx => hg.same (k4 x hx)) k5
  exact ⟨_, rfl, Go.VM.post_of_below (pv := []) hW' (fun _ _ _ => (trodAll_cons_mk (shut_bool Try.underlying4 _) trodAll_mk0))
    (fun sp hsp => (trodAll_cons_mk (st 23 _ _ _ sp (by kernel_rfl) (of_decide_eq_true (by kernel_rfl)) t0 (fun x hx => hlt x (by simp [hx])) (fun x hx => hsp x (by simp [hx])))
      (trodAll_cons_mk (st 26 _ _ _ sp (by kernel_rfl) (of_decide_eq_true (by kernel_rfl)) t1 (fun x hx => hlt x (by simp [hx])) (fun x hx => hsp x (by simp [hx])))
      (trodAll_cons_mk (st 3 _ _ _ sp (by kernel_rfl) (of_decide_eq_true (by kernel_rfl)) t2 (fun x hx => hlt x (by simp [hx])) (fun x hx => hsp x (by simp [hx]))) trodAll_mk0)))) (fun _ _ => rfl) rfl
    hg (ok_one (by kernel_rfl) rfl (okWide_bool_mk Try.underlying4 _))⟩

theorem over : Rows.weighAfterRow.holds Try.pinned (OpenSpec.ofChange Rows.weighAfterSpec) :=
  OpenClaim.holds_of_wide 3 Try.f3 rfl rfl rfl rfl rfl rfl rfl ⟨rfl, rfl, rfl, rfl, rfl⟩ rfl rfl rfl rfl rfl (by kernel_rfl) Try.func3 (by kernel_rfl)
    (of_decide_eq_true (by kernel_rfl)) (by unfold Func.isWrapper; first | (rw [if_pos (by decide +kernel)]; kernel_rfl) | (rw [if_neg (by decide +kernel)]; exact ⟨rfl, rfl⟩))
    (fun os started H enc _ => lifted os started H enc)

/-- ████ THE STATEMENT ████ -/
theorem proved : Rows.WeighAfterSaid :=
  over
#print axioms proved
end Go.Proofs.Ytbadfaiepgfpdaa.weighAfter
