/- Joined: RkBa, RkBb, RkBc, RkBd, RkBe, RkBf. -/
import Derived.Test.YtnnhomkkggkkfaaDoorRkT
import Derived.Test.YtnnhomkkggkkfaaDoorVm8
import Derived.KernelRfl
import Derived.Test.YtnnhomkkggkkfaaDoorVm9
import Derived.Test.YtnnhomkkggkkfaaDoorRkAr
set_option linter.unusedSimpArgs false
set_option linter.unusedVariables false
set_option linter.unnecessarySimpa false
section
set_option maxHeartbeats 4000000
set_option maxRecDepth 100000
namespace Go.Proofs.Rnk
open Go Go.VM
open Go.Proofs.Sur (andn andn_bit andn_le i_wrap i_and i_or i_andn i_shl i_shr bit_01)

structure Srt (s : List Int) (n : Nat) : Prop where
  h : ∀ k, n < k + 1 → k + 1 < s.length → s.getD k i0 ≤ s.getD (k + 1) i0
structure Sc8 (s : List Int) : Prop where
  h : ∀ k, k < s.length → 0 ≤ s.getD k i0 ∧ s.getD k i0 < 8
structure SB (s : List Int) : Prop where
  l1 : 1 ≤ s.length
  l8 : s.length ≤ 8
  c : Sc8 s
  o : Srt s 0
end Go.Proofs.Rnk
end
section
set_option maxRecDepth 100000
namespace Go.Proofs.Rnk
open Go Go.VM

def ws (s : List Int) : Nat → Int
  | 0 => 0
  | k + 1 => ws s k + s.getD k i0
end Go.Proofs.Rnk
end
section
set_option maxHeartbeats 4000000
set_option maxRecDepth 100000
namespace Go.Proofs.Rnk
open Go Go.VM
open Go.Proofs.Sur (andn andn_bit andn_le i_wrap i_and i_or i_andn i_shl i_shr bit_01)

abbrev hW (T W : List Int) (n : Nat) : H := ⟨[ints T, ints W, [.msl 1 0 n noCap 1]], [], []⟩
end Go.Proofs.Rnk
end
section
set_option maxHeartbeats 4000000
set_option maxRecDepth 100000
namespace Go.Proofs.Rnk
open Go Go.VM
open Go.Proofs.Sur (andn andn_bit andn_le i_wrap i_and i_or i_andn i_shl i_shr bit_01)
local instance wrI3 : Inhabited Globs := ⟨⟨gcell, fun t => t == 22⟩⟩

abbrev hC (T W : List Int) (n s : Nat) : H := ⟨[ints T, ints W, [.msl 1 0 n noCap 1], [I (s : Nat)]], [], []⟩
theorem CallOkB.full {P : Program} {nb : Nat} {f : FuncId} {args : List AV} {h : H} {v : AV} {h' : H} (k : CallOkB P nb f args h v h') (hn : h.blk.length ≤ nb) : CallOk P f args h v h' := fun G w vs s hg hr => k G w vs s (fun γ hγ => Nat.le_trans (s.bases γ hγ).1 hn) hg hr
end Go.Proofs.Rnk
end
section
set_option maxHeartbeats 4000000
set_option maxRecDepth 100000
namespace Go.Proofs.Rnk
open Go Go.VM
open Go.Proofs.Sur (andn andn_bit andn_le i_wrap i_and i_or i_andn i_shl i_shr bit_01)

end Go.Proofs.Rnk
end
section
set_option maxHeartbeats 4000000
set_option maxRecDepth 100000
namespace Go.Proofs.Rnk
open Go Go.VM
open Go.Proofs.Sur (andn andn_bit andn_le i_wrap i_and i_or i_andn i_shl i_shr bit_01)

section
local instance wrI4 : Inhabited Globs := ⟨⟨gcell, fun t => t == 22⟩⟩
def appTV (P : Program) (t : TypeId) : Bool :=
  match elemT P t with
  | some e => match P.info? e, zeroCs P e with
    | some i, some z => i.size == 1 && decide (i.bytes ≤ 24) && z.length == 1 && appW t
    | _, _ => false
  | none => false
end
end Go.Proofs.Rnk
end
