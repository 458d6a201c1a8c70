/- Layer 5: the reference: graphs, how many words, near. -/
import Derived.Test.YtlomlnkafakloaaDoorSuG
import Derived.KernelRfl
set_option linter.unusedSimpArgs false
set_option linter.unusedVariables false
set_option linter.unnecessarySimpa false
set_option maxHeartbeats 4000000
set_option maxRecDepth 100000
namespace Go.Proofs.Sur
open Go Go.VM

abbrev q4 (g : List Int) (k : Nat) : Prop := q1 g k ∧ bi (at_ g k) k = false
abbrev q5 (g : List Int) (k : Nat) : Prop := ∀ j, j < k → bi (at_ g k) j = bi (at_ g j) k
abbrev q6 (g : List Int) (k : Nat) : Prop := q4 g k ∧ q5 g k
theorem i_bitv {x : Int} {n : Nat} (h0 : 0 ≤ x) (h : x < 64) (hn : n ≤ 64) (b : Bool) (hb : bi x n = b) :
    x.fdiv (2 ^ min ((n : Int)).toNat IntKind.i64.bits) = ((x.toNat >>> n : Nat) : Int) ∧ IntKind.i64.wrap ((BitVec.ofInt IntKind.i64.bits ((x.toNat >>> n : Nat) : Int) &&& BitVec.ofInt IntKind.i64.bits 1).toNat : Int) = ((b.toNat : Nat) : Int) := by
  obtain ⟨a, rfl⟩ : ∃ a : Nat, x = a := ⟨x.toNat, by omega⟩
  simp only [bi, Int.toNat_natCast] at *
  refine ⟨i_shr hn, ?_⟩
  rw [i_bit (by omega), hb]
end Go.Proofs.Sur

