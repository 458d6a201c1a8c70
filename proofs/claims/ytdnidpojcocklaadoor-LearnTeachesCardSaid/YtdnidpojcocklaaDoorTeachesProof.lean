/- Keys settle their concept, and no part of one does; Teach, Peel and Ask are bounded as the document says. -/
import Derived.Test.YtdnidpojcocklaaDoorRows
import Derived.Test.YtdnidpojcocklaaDoorTie
import Derived.Test.YtdnidpojcocklaaDoorCards
import Derived.WalkKit
import Derived.ProofKit
import Derived.OpenShut
import Derived.LaidMore
import Derived.Lay
import Derived.SevenTiedAt
import Derived.Stop.Joined
import Derived.Test.YtdnidpojcocklaaDoorLoU
import Derived.Test.YtdnidpojcocklaaDoorLoP
set_option linter.unusedSimpArgs false
set_option linter.unusedVariables false
set_option linter.unnecessarySimpa false
namespace Go.Proofs.YtdnidpojcocklaaDoor.learnTeaches
open Go.ChangeShapes Go.WideShapes Go.ChangeAt Go.RowKit
set_option linter.unusedVariables false

theorem own : ownKnob Tryd.prog.godebug = none := by kernel_rfl
theorem laidOut : laidOutB Tryd.prog = true := by kernel_rfl
def laid : List (String × DataW Unit) := [("math/bits.deBruijn32tab", Rows.laid_math_bits_deBruijn32tab), ("planchet/learn.having", Rows.laid_planchet_learn_having)]

/-! ### THE ROW's STEP -/
set_option maxRecDepth 100000 in
theorem lifted (os : Os) (started : os.Started) (H : Type) (enc : TypeId × Value → H) :
    ReturnsInHanded {} Tryd.checked os 13 .any (fun w args => (Rows.learnTeachesSpec.pre enc Tryd.prog Tryd.f13 Rows.learnTeachesRow.domain false w args ∧ laidMetH Tryd.prog laid w) ∧ sizedMet enc Tryd.prog Tryd.f13 (OpenSpec.ofChange Rows.learnTeachesSpec) false w args) (Rows.learnTeachesSpec.post enc Tryd.prog Tryd.f13 false true false false) := by
  refine returnsInHanded_of_change_and (C := Tryd.checked) (X := fun w _ => laidMetH Tryd.prog laid w) (fun _ _ _ hh h => h.of_heap hh) own started (by kernel_rfl) Tryd.func13
    (ChangeSpec.witness_shaped (enc := enc) (C := Tryd.checked) (os := os) (X := fun w _ => laidMetH Tryd.prog laid w) false (World.laidAll Tryd.prog os laid) #[.int .i64 0, .slice none 0 0, .int .i64 0] 8 (World.laidAll_os _ _ _)
      (World.shaped_of_ZipB (by kernel_rfl) (by kernel_rfl)) (by kernel_rfl) (by kernel_rfl) (by kernel_rfl)
      (by rw [MakeChecks.laidMetH_plain _ _ _ (by kernel_rfl)]; exact laidMet_laidAll _ (by kernel_rfl) (by kernel_rfl))) ?_
  intro W base args ds gs before hval0 hW _ _ hL0 _
  have hval : ∀ (j : Nat) t v, Tryd.f13.params[j]? = some t → args[j]? = some v → Value.okWide Tryd.prog W .any base t v := hval0
  have hL : laidMet Tryd.prog laid W := by rw [MakeChecks.laidMetH_plain _ _ _ (by kernel_rfl)] at hL0; exact hL0
  have hW' := hW
  obtain ⟨p, q, hA0, hV, rfl, hfz, hnd⟩ := hW
  have hA : DataW.TrodAll enc Tryd.prog W 0 (fun _ => true) true Tryd.f13.params.toList args.toList ds p := hA0
  rw [Tryd.params13] at hA hval
  obtain ⟨v0, vs0, d0, ds0, p0, q0, hargs, rfl, rfl, t0, rr0⟩ := trodAll_cons hA
  obtain ⟨v1, vs1, d1, ds1, p1, q1, rfl, rfl, rfl, t1, rr1⟩ := trodAll_cons rr0
  obtain ⟨v2, vs2, d2, ds2, p2, q2, rfl, rfl, rfl, t2, rr2⟩ := trodAll_cons rr1
  obtain ⟨rfl, rfl, rfl⟩ := trodAll_nil rr2
  obtain rfl : args = #[v0, v1, v2] := by cases args; simp_all
  obtain ⟨rfl, rfl⟩ := trodVars_none hV
  have hm : Go.maxLen ≤ 9223372036854775807 := by decide
  obtain ⟨a0, rfl, hr0⟩ := Go.VM.val_int Tryd.underlying3 (hval 0 3 v0 rfl rfl)
  obtain ⟨s1, s1'⟩ := Go.VM.val_slice (by kernel_rfl : Tryd.prog.underlying 22 = some (.slice 3)) (hval 1 22 v1 rfl rfl)
  obtain ⟨fuel1, f1⟩ := id t1
  rw [s1] at f1
  obtain ⟨a1, b1, hv1, k1a, k1b⟩ := Go.VM.open_list (by kernel_rfl : Tryd.prog.underlying 22 = some (.slice 3)) Tryd.underlying3 (by kernel_rfl) f1
  obtain ⟨a2, rfl, hr2⟩ := Go.VM.val_int Tryd.underlying3 (hval 2 3 v2 rfl rfl)
  have hc := (Go.Proofs.Lrn.teaches_ok a0 a1 b1 a2 (Nat.le_trans k1a hm) k1b)
  have hG := (Go.Proofs.Lrn.globs_both hL)
  clear hA0 hval0
  have hlt : ∀ x ∈ p0 ++ (p1 ++ (p2 ++ [])), x.block < W.heap.size := fun x hx => by simpa using hW'.lt x (by simpa using hx)
  refine (Go.VM.top_bool (fr := Go.VM.seen W) hc Go.VM.seen_ok hG (w := W) (vs := [.int .i64 a0, v1, .int .i64 a2]) (Go.VM.vrels_cons Go.VM.vrel_int (Go.VM.vrels_cons hv1 (Go.VM.vrels_cons Go.VM.vrel_int (Go.VM.vrels_nil))))).mono fun e W' ⟨he, hg⟩ => ?_
  subst he
  have st : ∀ (t : TypeId) (v : Value) (d : DataW H) (ps : List MemPlace) (sp : Nat → Bool), Tryd.prog.readableRec t = true → t < Tryd.prog.types.size → DataW.Trod enc Tryd.prog W 0 (fun _ => true) true t v d ps → (∀ x ∈ ps, x.block < W.heap.size) → (∀ x ∈ ps, sp x.block = true) → DataW.Trod enc Tryd.prog W' 0 sp true t v d ps :=
    fun t v d ps sp k1 k2 k3 k4 k5 => Go.WideElems.Trod_stays laidOut k1 k2 k3 (fun x hx => hg.same (k4 x hx)) k5
  exact ⟨_, rfl, Go.VM.post_of_below (pv := []) hW' (fun _ _ _ => (trodAll_cons_mk (shut_bool Tryd.underlying4 _) trodAll_mk0))
    (fun sp hsp => (trodAll_cons_mk (st 3 _ _ _ sp (by kernel_rfl) (of_decide_eq_true (by kernel_rfl)) t0 (fun x hx => hlt x (by simp [hx])) (fun x hx => hsp x (by simp [hx]))) (trodAll_cons_mk (st 22 _ _ _ sp (by kernel_rfl) (of_decide_eq_true (by kernel_rfl)) t1 (fun x hx => hlt x (by simp [hx])) (fun x hx => hsp x (by simp [hx]))) (trodAll_cons_mk (st 3 _ _ _ sp (by kernel_rfl) (of_decide_eq_true (by kernel_rfl)) t2 (fun x hx => hlt x (by simp [hx])) (fun x hx => hsp x (by simp [hx]))) trodAll_mk0)))) (fun _ _ => rfl) rfl
    hg (ok_one (by kernel_rfl) rfl (okWide_bool_mk Tryd.underlying4 _))⟩

theorem over : Rows.LearnTeachesSaid :=
  OpenClaim.holds_of_wide 13 Tryd.f13 rfl rfl rfl rfl rfl rfl rfl ⟨rfl, rfl, rfl, rfl, rfl⟩ rfl rfl rfl rfl rfl (by kernel_rfl) Tryd.func13 (by kernel_rfl)
    (of_decide_eq_true (by kernel_rfl)) (by unfold Func.isWrapper; first | (rw [if_pos (by decide +kernel)]; kernel_rfl) | (rw [if_neg (by decide +kernel)]; exact ⟨rfl, rfl⟩))
    (fun os started H enc _ => lifted os started H enc)

/-- ████ THE STATEMENT ████ -/
theorem proved : Rows.LearnTeachesCardSaid :=
  Claim7.holds_tied_plain_at .later [] [.data, .data] true (true, "2b997f18946a999e9ac35b406956340bea0dbde0b398d56f043a4f5f9f6ed632") false
    over (fun _ h => by cases h) (by kernel_rfl) (fun _ h => by cases h) learnTeaches_row_tie rfl ⟨rfl, rfl⟩ (by kernel_rfl) rfl
    (fun f fn hf hfn => by
      obtain rfl : f = 13 := Option.some.inj ((show Tryd.prog.funcNamed "planchet/planchetlaw04.LearnTeaches" = some 13 by kernel_rfl).symm.trans hf) |>.symm
      obtain rfl : fn = Tryd.f13 := (Option.some.inj (Tryd.func13.symm.trans hfn)).symm
      exact ⟨by kernel_rfl, fun j t ht => by
        rw [Tryd.params13] at ht
        have hm : t ∈ [3, 22, 3] := by simpa using Array.mem_of_getElem? ht
        have hall : ([3, 22, 3].all fun u => !Tryd.prog.wantsStandIn u) = true := by kernel_rfl
        exact (show Tryd.prog.wantsStandIn t = false by simpa using List.all_eq_true.1 hall t hm)⟩)
    (by kernel_rfl)
#print axioms proved
end Go.Proofs.YtdnidpojcocklaaDoor.learnTeaches
