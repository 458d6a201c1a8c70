/- Layer 3: the rectangles of a table. -/
import Derived.Test.YtheoddlhpklccaaTkA
import Derived.Test.YtheoddlhpklccaaVm6
import Derived.KernelRfl
set_option linter.unusedSimpArgs false
set_option linter.unusedVariables false
set_option linter.unnecessarySimpa false
set_option maxHeartbeats 4000000
set_option maxRecDepth 100000
namespace Go.Proofs.Tlk
open Go Go.VM
theorem ok75 : FokM Try.prog none1 75 Try.f75 := ⟨mixed, by kernel_rfl, by kernel_rfl, by kernel_rfl, by kernel_rfl⟩
theorem r75 (blk : List (List AV)) (ts : List Nat) (ms : List (List (AV × AV))) (tb to : Nat) :
    Body ⟨Try.prog, Sof (P := Try.prog) [], Pof (P := Try.prog) [], H.base ⟨blk, ts, ms⟩, 300⟩ none1 Try.f75 [.ptr tb to] ⟨blk, ts, ms⟩ (.fn (.func 87) [] [.ptr blk.length 0], ⟨blk ++ [[.ptr tb to]], ts, ms⟩) := by
  refine body_s ([]) (leave (Base.mk (H.mk blk ts ms).blk.length (H.mk blk ts ms).toks.length (H.mk blk ts ms).maps.length) (AV.fn (Fn.func (87 : Nat)) [] [AV.ptr (H.mk blk ts ms).blk.length (0 : Nat)]) (H.mk ((H.mk blk ts ms).blk ++ [[aev ([AV.ptr tb to] ++ List.replicate (Try.f75.ntmps - [AV.ptr tb to].length) AV.undef) (Operand.tmp (0 : Nat))]]) ts ms) = (AV.fn (Fn.func (87 : FuncId)) [] [AV.ptr blk.length (0 : Nat)], H.mk (blk ++ [[AV.ptr tb to]]) ts ms)) (by kernel_rfl) ?_
  simp [leave, frz, AV.bnd, AV.bnds, aev]
end Go.Proofs.Tlk

