/- Layer 8: what is left after an answer. -/
import Derived.Test.YtjobibaeklbkmaaDoorEdE
import Derived.Test.YtjobibaeklbkmaaDoorVm6
import Derived.Test.YtjobibaeklbkmaaDoorVm7
import Derived.KernelRfl
set_option linter.unusedSimpArgs false
set_option linter.unusedVariables false
set_option linter.unnecessarySimpa false
set_option maxHeartbeats 4000000
set_option maxRecDepth 100000
namespace Go.Proofs.Evd
open Go Go.VM
open Go.Proofs.Sur (W w_wrap w_nat w_inj w_eq0 w_and w_or w_andn w_shl w_shr neg_nat sub_nat tz tz_ok cl bits_cons bits_0 bits_len andn andn_bit andn_le i_wrap i_and i_or i_andn i_shl i_shr bit_01)

/-- one that asks -/
abbrev asA (r : Nat) (F : W) : AV := .agg [I r, u64A F, .map 0]
theorem asA_mp {r : Nat} {F : W} {xs : List AV} (G : Ghost) (vs : List Value) (h : VRels G (asA r F :: xs) vs) : ∃ c, G.mp 0 = some c := by
  simp only [VRels, VRel] at h
  obtain ⟨_, _, _, ⟨_, _, hu⟩, _⟩ := h
  obtain ⟨_, _, _, _, hu⟩ := hu
  obtain ⟨_, _, _, _, hu⟩ := hu
  obtain ⟨_, _, _, ⟨c, hc, _⟩, _⟩ := hu
  exact ⟨c, hc⟩
noncomputable abbrev EnM (cs : List (Ctr Tryd.prog)) : Env := ⟨Tryd.prog, Sof (P := Tryd.prog) cs, Pof (P := Tryd.prog) [], ⟨0, 0, 1⟩, 300⟩
theorem okL116 : FokL Tryd.prog none1 116 Tryd.f116 := ⟨mixed, by kernel_rfl, by kernel_rfl, by kernel_rfl⟩
theorem bd116 : bd Tryd.f116 = .seq (sq1 (bd Tryd.f116)) (.seq (sq1 (sq2 (bd Tryd.f116))) (sq2 (sq2 (bd Tryd.f116)))) := by kernel_rfl
theorem reg116 : sq1 (sq2 (bd Tryd.f116)) = .region (regId (sq1 (sq2 (bd Tryd.f116)))) (regOps (sq1 (sq2 (bd Tryd.f116)))) true := by kernel_rfl
theorem sim116 : simpleRegionV none1 (regOps (sq1 (sq2 (bd Tryd.f116)))) = true := by kernel_rfl
theorem smp116a : allSimpleM none1 (sq1 (bd Tryd.f116)) = true := by kernel_rfl
theorem smp116c : allSimpleM none1 (sq2 (sq2 (bd Tryd.f116))) = true := by kernel_rfl
theorem val116 : ∀ (i : Nat) (o : Oper), (regOps (sq1 (sq2 (bd Tryd.f116))))[i]? = some o → valCall o.op = true → ∀ x args ts, o.op = .call { callee := .value x, args := args, argTypes := ts } → x = .tmp 7 := by
  have key : ((regOps (sq1 (sq2 (bd Tryd.f116)))).toList.all fun o => match o.op with | .call { callee := .value (.tmp t), .. } => t == 7 | .call { callee := .value (.func _), .. } => true | .call { callee := .value _, .. } => false | _ => true) = true := by kernel_rfl
  intro i o ho hv x args ts hop
  have h1 := List.all_eq_true.1 key o (by rw [← Array.mem_def]; exact Array.mem_of_getElem? ho)
  rw [hop] at h1 hv
  cases x <;> simp [valCall] at h1 hv ⊢
  exact h1
theorem no_free {M : FuncId → Bool} {ops : Array Oper} (key : (ops.toList.zipIdx.all fun (o, i) => !(readsV M o.op && freeV M ops i)) = true) (i : Nat) (o : Oper) (ho : ops[i]? = some o) (h1 : readsV M o.op = true) (h2 : freeV M ops i = true) : False := by
  have := List.all_eq_true.1 key (o, i) (by rw [List.mem_zipIdx_iff_getElem?]; simpa using ho)
  simp [h1, h2] at this
theorem fre116 : ((regOps (sq1 (sq2 (bd Tryd.f116)))).toList.zipIdx.all fun (o, i) => !(readsV none1 o.op && freeV none1 (regOps (sq1 (sq2 (bd Tryd.f116)))) i)) = true := by kernel_rfl
abbrev A11669 (r : Nat) (F : W) (x : Nat) : List AV := [asA r F, .fn (.func 69) [] [], I x, .ptr 0 0, .undef, .undef, .ptr 1 0, .undef, .undef, .undef, .undef, .undef, .undef, .undef, .undef]
abbrev B11669 (r : Nat) (F : W) (x : Nat) : List AV := [asA r F, .fn (.func 69) [] [], I x, .ptr 0 0, .undef, .undef, .ptr 1 0, .fn (.func 69) [] [], .ptr 0 0, fA r F, I x, fA (rst r x) (lnk F x), .ptr 0 2, .map 0, asA (rst r x) (lnk F x)]
theorem s116a69 (r : Nat) (F : W) (x : Nat) (M : List (AV × AV)) : ∃ os, ∀ u : Nat → AV, Led (wS (EnM [c69.to]) (sq1 (bd Tryd.f116)) ([asA r F, .fn (.func 69) [] [], I x] ++ List.replicate (Tryd.f116.ntmps - 3) .undef) ⟨[], [], [M]⟩ os (fun y A h _ => Keep (y = .normal ∧ A = A11669 r F x ∧ h = ⟨[[I r, u64A F, .map 0], [I 0, .int .u64 0, .nilM]], [], [M]⟩))) := by
  refine ⟨[], fun u => of_eq (AX.normal = AX.normal ∧ [AV.agg [I (↑r : Int), u64A F, AV.map (0 : Nat)], AV.fn (Fn.func (69 : FuncId)) [] [], I (↑x : Int), AV.ptr 0 0, AV.tup [], AV.tup [], AV.ptr 1 0, AV.tup [], AV.tup [], AV.tup [], AV.tup [], AV.tup [], AV.tup [], AV.tup [], AV.tup []] = [AV.agg [I (↑r : Int), u64A F, AV.map (0 : Nat)], AV.fn (Fn.func (69 : FuncId)) [] [], I (↑x : Int), AV.ptr 0 0, AV.tup [], AV.tup [], AV.ptr 1 0, AV.tup [], AV.tup [], AV.tup [], AV.tup [], AV.tup [], AV.tup [], AV.tup [], AV.tup []] ∧ H.mk [[I (↑r : Int), u64A F, AV.map (0 : Nat)], [I 0, AV.int IntKind.u64 (0 : Int), AV.nilM]] [] [M] = H.mk [[I (↑r : Int), u64A F, AV.map (0 : Nat)], [I 0, AV.int IntKind.u64 (0 : Int), AV.nilM]] [] [M]) (by kernel_rfl) ?_⟩
  refine ⟨by rfl, ?_⟩
  refine ⟨by rfl, ?_⟩
  rfl
theorem s116b69 (r : Nat) (F : W) (x : Nat) (M : List (AV × AV)) (hp : r < 64 ∧ x < 6) : ∃ os, ∀ u : Nat → AV, Led (wS (EnM [c69.to]) (sq1 (sq2 (bd Tryd.f116))) (A11669 r F x) ⟨[[I r, u64A F, .map 0], [I 0, .int .u64 0, .nilM]], [], [M]⟩ os (fun y A h _ => Keep (y = .normal ∧ A = B11669 r F x ∧ h = ⟨[[I r, u64A F, .map 0], [I (rst r x : Nat), u64A (lnk F x), .map 0]], [], [M]⟩))) := by
  refine ⟨[Ans.o (Orc.val 11 (AV.agg [I (↑(rst r x) : Int), u64A (lnk F x)]) (H.mk [[I (↑r : Int), u64A F, AV.map (0 : Nat)], [I 0, AV.int IntKind.u64 (0 : Int), AV.nilM]] [] [M]))], fun u => of_eq (aCall (Sof [c69.to]) (AV.fn (Fn.func (69 : FuncId)) [] []) [AV.agg [I (↑r : Int), u64A F], I (↑x : Int)] (H.mk [[I (↑r : Int), u64A F, AV.map (0 : Nat)], [I 0, AV.int IntKind.u64 (0 : Int), AV.nilM]] [] [M]) = some (AV.agg [I (↑(rst r x) : Int), u64A (lnk F x)], H.mk [[I (↑r : Int), u64A F, AV.map (0 : Nat)], [I 0, AV.int IntKind.u64 (0 : Int), AV.nilM]] [] [M]) ∧ AX.normal = AX.normal ∧ [AV.agg [I (↑r : Int), u64A F, AV.map (0 : Nat)], AV.fn (Fn.func (69 : FuncId)) [] [], I (↑x : Int), AV.ptr 0 0, AV.tup [], AV.tup [], AV.ptr 1 0, AV.fn (Fn.func (69 : FuncId)) [] [], AV.ptr 0 0, AV.agg [I (↑r : Int), u64A F], I (↑x : Int), AV.agg [I (↑(rst r x) : Int), u64A (lnk F x)], AV.ptr 0 2, AV.map (0 : Nat), AV.agg [I (↑(rst r x) : Int), u64A (lnk F x), AV.map (0 : Nat)]] = [AV.agg [I (↑r : Int), u64A F, AV.map (0 : Nat)], AV.fn (Fn.func (69 : FuncId)) [] [], I (↑x : Int), AV.ptr 0 0, AV.tup [], AV.tup [], AV.ptr 1 0, AV.fn (Fn.func (69 : FuncId)) [] [], AV.ptr 0 0, AV.agg [I (↑r : Int), u64A F], I (↑x : Int), AV.agg [I (↑(rst r x) : Int), u64A (lnk F x)], AV.ptr 0 2, AV.map (0 : Nat), AV.agg [I (↑(rst r x) : Int), u64A (lnk F x), AV.map (0 : Nat)]] ∧ H.mk [[I (↑r : Int), u64A F, AV.map (0 : Nat)], [I (↑(rst r x) : Int), u64A (lnk F x), AV.map (0 : Nat)]] [] [M] = H.mk [[I (↑r : Int), u64A F, AV.map (0 : Nat)], [I (↑(rst r x) : Int), u64A (lnk F x), AV.map (0 : Nat)]] [] [M]) (by kernel_rfl) ?_⟩
  refine ⟨acall_hit (c := c69.to) (r, F, x) _ rfl hp, ?_⟩
  refine ⟨by rfl, ?_⟩
  refine ⟨by rfl, ?_⟩
  rfl
theorem s116c69 (r : Nat) (F : W) (x : Nat) (M : List (AV × AV)) : ∃ os, ∀ u : Nat → AV, Led (wS (EnM [c69.to]) (sq2 (sq2 (bd Tryd.f116))) (B11669 r F x) ⟨[[I r, u64A F, .map 0], [I (rst r x : Nat), u64A (lnk F x), .map 0]], [], [M]⟩ os (Kfin (EnM [c69.to]) Tryd.f116 ⟨[], [], [M]⟩ (asA (rst r x) (lnk F x), ⟨[], [], [M]⟩))) := by
  refine ⟨[], fun u => of_eq ((AV.agg [I (↑(rst r x) : Int), u64A (lnk F x), AV.map (0 : Nat)], H.mk [] [] [M]) = (AV.agg [I (↑(rst r x) : Int), u64A (lnk F x), AV.map (0 : Nat)], H.mk [] [] [M])) (by kernel_rfl) ?_⟩
  rfl
theorem call11669 (r : Nat) (F : W) (x : Nat) (M : List (AV × AV)) (hp : r < 64 ∧ x < 6) : CallOk Tryd.prog 116 [asA r F, .fn (.func 69) [] [], I x] ⟨[], [], [M]⟩ (asA (rst r x) (lnk F x)) ⟨[], [], [M]⟩ := by
  have hR : Rests (EnM [c69.to]) none1 := rests mixed (.pure _ .nil)
  refine sem_callL (E := EnM [c69.to]) (r := (asA (rst r x) (lnk F x), ⟨[], [], [M]⟩)) (lv := (300 = 300)) okL116 rfl ?_
  rw [bd116]
  refine SemC.seq (K1 := fun y A h => y = .normal ∧ A = A11669 r F x ∧ h = ⟨[[I r, u64A F, .map 0], [I 0, .int .u64 0, .nilM]], [], [M]⟩) ((SemC.read hR smp116a (s116a69 r F x M)).mono fun x A' h' ⟨_, hk⟩ => hk) (fun _ _ _ hk => hk.1) (fun A1 h1 hk => ?_)
  obtain ⟨_, rfl, rfl⟩ := hk
  refine SemC.seq (SemC.draw1 hR reg116 sim116 (s116b69 r F x M hp) (fun i o y args ts ho hop hv _ => ?_) (fun i o ho h1 h2 _ => (no_free fre116 i o ho h1 h2).elim)) (fun _ _ _ hk => hk.1) (fun A1 h1 hk => ?_)
  · obtain rfl := val116 i o ho hv y args ts hop
    exact ⟨69, rfl, rfl⟩
  obtain ⟨_, rfl, rfl⟩ := hk
  exact SemC.read hR smp116c (s116c69 r F x M)
abbrev A11670 (r : Nat) (F : W) (x : Nat) : List AV := [asA r F, .fn (.func 70) [] [], I x, .ptr 0 0, .undef, .undef, .ptr 1 0, .undef, .undef, .undef, .undef, .undef, .undef, .undef, .undef]
abbrev B11670 (r : Nat) (F : W) (x : Nat) : List AV := [asA r F, .fn (.func 70) [] [], I x, .ptr 0 0, .undef, .undef, .ptr 1 0, .fn (.func 70) [] [], .ptr 0 0, fA r F, I x, fA (rst r x) (wot F x), .ptr 0 2, .map 0, asA (rst r x) (wot F x)]
theorem s116a70 (r : Nat) (F : W) (x : Nat) (M : List (AV × AV)) : ∃ os, ∀ u : Nat → AV, Led (wS (EnM [c70.to]) (sq1 (bd Tryd.f116)) ([asA r F, .fn (.func 70) [] [], I x] ++ List.replicate (Tryd.f116.ntmps - 3) .undef) ⟨[], [], [M]⟩ os (fun y A h _ => Keep (y = .normal ∧ A = A11670 r F x ∧ h = ⟨[[I r, u64A F, .map 0], [I 0, .int .u64 0, .nilM]], [], [M]⟩))) := by
  refine ⟨[], fun u => of_eq (AX.normal = AX.normal ∧ [AV.agg [I (↑r : Int), u64A F, AV.map (0 : Nat)], AV.fn (Fn.func (70 : FuncId)) [] [], I (↑x : Int), AV.ptr 0 0, AV.tup [], AV.tup [], AV.ptr 1 0, AV.tup [], AV.tup [], AV.tup [], AV.tup [], AV.tup [], AV.tup [], AV.tup [], AV.tup []] = [AV.agg [I (↑r : Int), u64A F, AV.map (0 : Nat)], AV.fn (Fn.func (70 : FuncId)) [] [], I (↑x : Int), AV.ptr 0 0, AV.tup [], AV.tup [], AV.ptr 1 0, AV.tup [], AV.tup [], AV.tup [], AV.tup [], AV.tup [], AV.tup [], AV.tup [], AV.tup []] ∧ H.mk [[I (↑r : Int), u64A F, AV.map (0 : Nat)], [I 0, AV.int IntKind.u64 (0 : Int), AV.nilM]] [] [M] = H.mk [[I (↑r : Int), u64A F, AV.map (0 : Nat)], [I 0, AV.int IntKind.u64 (0 : Int), AV.nilM]] [] [M]) (by kernel_rfl) ?_⟩
  refine ⟨by rfl, ?_⟩
  refine ⟨by rfl, ?_⟩
  rfl
theorem s116b70 (r : Nat) (F : W) (x : Nat) (M : List (AV × AV)) (hp : r < 64 ∧ x < 6) : ∃ os, ∀ u : Nat → AV, Led (wS (EnM [c70.to]) (sq1 (sq2 (bd Tryd.f116))) (A11670 r F x) ⟨[[I r, u64A F, .map 0], [I 0, .int .u64 0, .nilM]], [], [M]⟩ os (fun y A h _ => Keep (y = .normal ∧ A = B11670 r F x ∧ h = ⟨[[I r, u64A F, .map 0], [I (rst r x : Nat), u64A (wot F x), .map 0]], [], [M]⟩))) := by
  refine ⟨[Ans.o (Orc.val 11 (AV.agg [I (↑(rst r x) : Int), u64A (wot F x)]) (H.mk [[I (↑r : Int), u64A F, AV.map (0 : Nat)], [I 0, AV.int IntKind.u64 (0 : Int), AV.nilM]] [] [M]))], fun u => of_eq (aCall (Sof [c70.to]) (AV.fn (Fn.func (70 : FuncId)) [] []) [AV.agg [I (↑r : Int), u64A F], I (↑x : Int)] (H.mk [[I (↑r : Int), u64A F, AV.map (0 : Nat)], [I 0, AV.int IntKind.u64 (0 : Int), AV.nilM]] [] [M]) = some (AV.agg [I (↑(rst r x) : Int), u64A (wot F x)], H.mk [[I (↑r : Int), u64A F, AV.map (0 : Nat)], [I 0, AV.int IntKind.u64 (0 : Int), AV.nilM]] [] [M]) ∧ AX.normal = AX.normal ∧ [AV.agg [I (↑r : Int), u64A F, AV.map (0 : Nat)], AV.fn (Fn.func (70 : FuncId)) [] [], I (↑x : Int), AV.ptr 0 0, AV.tup [], AV.tup [], AV.ptr 1 0, AV.fn (Fn.func (70 : FuncId)) [] [], AV.ptr 0 0, AV.agg [I (↑r : Int), u64A F], I (↑x : Int), AV.agg [I (↑(rst r x) : Int), u64A (wot F x)], AV.ptr 0 2, AV.map (0 : Nat), AV.agg [I (↑(rst r x) : Int), u64A (wot F x), AV.map (0 : Nat)]] = [AV.agg [I (↑r : Int), u64A F, AV.map (0 : Nat)], AV.fn (Fn.func (70 : FuncId)) [] [], I (↑x : Int), AV.ptr 0 0, AV.tup [], AV.tup [], AV.ptr 1 0, AV.fn (Fn.func (70 : FuncId)) [] [], AV.ptr 0 0, AV.agg [I (↑r : Int), u64A F], I (↑x : Int), AV.agg [I (↑(rst r x) : Int), u64A (wot F x)], AV.ptr 0 2, AV.map (0 : Nat), AV.agg [I (↑(rst r x) : Int), u64A (wot F x), AV.map (0 : Nat)]] ∧ H.mk [[I (↑r : Int), u64A F, AV.map (0 : Nat)], [I (↑(rst r x) : Int), u64A (wot F x), AV.map (0 : Nat)]] [] [M] = H.mk [[I (↑r : Int), u64A F, AV.map (0 : Nat)], [I (↑(rst r x) : Int), u64A (wot F x), AV.map (0 : Nat)]] [] [M]) (by kernel_rfl) ?_⟩
  refine ⟨acall_hit (c := c70.to) (r, F, x) _ rfl hp, ?_⟩
  refine ⟨by rfl, ?_⟩
  refine ⟨by rfl, ?_⟩
  rfl
theorem s116c70 (r : Nat) (F : W) (x : Nat) (M : List (AV × AV)) : ∃ os, ∀ u : Nat → AV, Led (wS (EnM [c70.to]) (sq2 (sq2 (bd Tryd.f116))) (B11670 r F x) ⟨[[I r, u64A F, .map 0], [I (rst r x : Nat), u64A (wot F x), .map 0]], [], [M]⟩ os (Kfin (EnM [c70.to]) Tryd.f116 ⟨[], [], [M]⟩ (asA (rst r x) (wot F x), ⟨[], [], [M]⟩))) := by
  refine ⟨[], fun u => of_eq ((AV.agg [I (↑(rst r x) : Int), u64A (wot F x), AV.map (0 : Nat)], H.mk [] [] [M]) = (AV.agg [I (↑(rst r x) : Int), u64A (wot F x), AV.map (0 : Nat)], H.mk [] [] [M])) (by kernel_rfl) ?_⟩
  rfl
theorem call11670 (r : Nat) (F : W) (x : Nat) (M : List (AV × AV)) (hp : r < 64 ∧ x < 6) : CallOk Tryd.prog 116 [asA r F, .fn (.func 70) [] [], I x] ⟨[], [], [M]⟩ (asA (rst r x) (wot F x)) ⟨[], [], [M]⟩ := by
  have hR : Rests (EnM [c70.to]) none1 := rests mixed (.pure _ .nil)
  refine sem_callL (E := EnM [c70.to]) (r := (asA (rst r x) (wot F x), ⟨[], [], [M]⟩)) (lv := (300 = 300)) okL116 rfl ?_
  rw [bd116]
  refine SemC.seq (K1 := fun y A h => y = .normal ∧ A = A11670 r F x ∧ h = ⟨[[I r, u64A F, .map 0], [I 0, .int .u64 0, .nilM]], [], [M]⟩) ((SemC.read hR smp116a (s116a70 r F x M)).mono fun x A' h' ⟨_, hk⟩ => hk) (fun _ _ _ hk => hk.1) (fun A1 h1 hk => ?_)
  obtain ⟨_, rfl, rfl⟩ := hk
  refine SemC.seq (SemC.draw1 hR reg116 sim116 (s116b70 r F x M hp) (fun i o y args ts ho hop hv _ => ?_) (fun i o ho h1 h2 _ => (no_free fre116 i o ho h1 h2).elim)) (fun _ _ _ hk => hk.1) (fun A1 h1 hk => ?_)
  · obtain rfl := val116 i o ho hv y args ts hop
    exact ⟨70, rfl, rfl⟩
  obtain ⟨_, rfl, rfl⟩ := hk
  exact SemC.read hR smp116c (s116c70 r F x M)
/-- 'after': the link, or what is left -/
abbrev hf (b : Bool) (F : W) (x : Nat) : W := if b then lnk F x else wot F x
abbrev fnA (b : Bool) : AV := if b then .fn (.func 69) [] [] else .fn (.func 70) [] []
theorem call116 (b : Bool) (r : Nat) (F : W) (x : Nat) (M : List (AV × AV)) (hp : r < 64 ∧ x < 6) : CallOk Tryd.prog 116 [asA r F, fnA b, I x] ⟨[], [], [M]⟩ (asA (rst r x) (hf b F x)) ⟨[], [], [M]⟩ := by
  cases b
  · exact call11670 r F x M hp
  · exact call11669 r F x M hp
noncomputable def c116 : Ctr Tryd.prog where
  f := 116
  X := Bool × Nat × W × Nat
  args y := [asA y.2.1 y.2.2.1, fnA y.1, I y.2.2.2]
  pre y h := (y.2.1 < 64 ∧ y.2.2.2 < 6) ∧ h.maps ≠ []
  res y h := (asA (rst y.2.1 y.2.2.2) (hf y.1 y.2.2.1 y.2.2.2), h)
  det := by
    rintro ⟨b, r, F, x⟩ ⟨b', r', F', x'⟩ h e _ _
    have hb : b = b' := by cases b <;> cases b' <;> simp [fnA] at e ⊢
    subst hb
    simp at e
    obtain ⟨⟨h1, h2⟩, h3⟩ := e
    have h1 : r = r' := by omega
    have h3 : x = x' := by omega
    subst h1; subst h2; subst h3; rfl
  ok := by
    rintro ⟨b, r, F, x⟩ ⟨bs, ts, ms⟩ ⟨hp, hm⟩
    refine ⟨okL116.call, ?_⟩
    cases ms with
    | nil => exact absurd rfl hm
    | cons M ms =>
      refine CallOk.frameMp ?_ ?_ (fun G vs h => asA_mp G vs h) (call116 b r F x M hp) bs ts ms
      · cases b <;> simp [AV.bnds, AV.bnd, fnA]
      · simp [AV.bnds, AV.bnd]
/-- each of the two alone -/
noncomputable def c116l : Ctr Tryd.prog where
  f := 116
  X := Nat × W × Nat
  args y := [asA y.1 y.2.1, .fn (.func 69) [] [], I y.2.2]
  pre y h := (y.1 < 64 ∧ y.2.2 < 6) ∧ h.maps ≠ []
  res y h := (asA (rst y.1 y.2.2) (lnk y.2.1 y.2.2), h)
  det x y h e p q := c116.det (true, x) (true, y) h e p q
  ok x h p := c116.ok (true, x) h p
noncomputable def c116w : Ctr Tryd.prog where
  f := 116
  X := Nat × W × Nat
  args y := [asA y.1 y.2.1, .fn (.func 70) [] [], I y.2.2]
  pre y h := (y.1 < 64 ∧ y.2.2 < 6) ∧ h.maps ≠ []
  res y h := (asA (rst y.1 y.2.2) (wot y.2.1 y.2.2), h)
  det x y h e p q := c116.det (false, x) (false, y) h e p q
  ok x h p := c116.ok (false, x) h p
noncomputable def c116o : Ctr Tryd.prog := Ctr.or c116l c116w rfl (by rintro x y h e _ _; exact absurd e (by simp [c116l, c116w]))
theorem c116o_rd : c116o.Reads := ⟨fun x _ _ => by cases x <;> rfl, fun x _ _ h => by cases x <;> exact ⟨h, rfl⟩⟩
end Go.Proofs.Evd

