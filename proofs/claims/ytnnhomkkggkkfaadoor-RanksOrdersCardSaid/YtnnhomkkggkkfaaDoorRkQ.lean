/- Layer 2: the most players without a cycle, by the program. -/
import Derived.Test.YtnnhomkkggkkfaaDoorRkL
import Derived.Test.YtnnhomkkggkkfaaDoorRkI
import Derived.Test.YtnnhomkkggkkfaaDoorVm8
import Derived.KernelRfl
set_option linter.unusedSimpArgs false
set_option linter.unusedVariables false
set_option linter.unnecessarySimpa false
set_option maxHeartbeats 4000000
set_option maxRecDepth 100000
namespace Go.Proofs.Rnk
open Go Go.VM
open Go.Proofs.Sur (andn andn_bit andn_le i_wrap i_and i_or i_andn i_shl i_shr bit_01)

abbrev d8 (x : Int) : Prop := 0 ≤ x ∧ x < 8
abbrev tr8 (x : Tri) : Prop := d8 x.1 ∧ d8 x.2.1 ∧ d8 x.2.2
theorem pw_lt {x : Int} (h : d8 x) : 2 ^ x.toNat < 2 ^ 8 := Nat.pow_lt_pow_right (by decide) (by omega)
/-- the players of a cycle -/
abbrev memN (x : Tri) : Nat := 2 ^ x.1.toNat ||| 2 ^ x.2.1.toNat ||| 2 ^ x.2.2.toNat
theorem memN_lt {x : Tri} (h : tr8 x) : memN x < 256 := Nat.or_lt_two_pow (n := 8) (Nat.or_lt_two_pow (n := 8) (pw_lt h.1) (pw_lt h.2.1)) (pw_lt h.2.2)
/-- all players of a cycle are in a set -/
def ins (x : Tri) (s : Int) : Bool := decide (andn (memN x) s.toNat = 0)
abbrev hS (s : Int) : H := ⟨[[I s]], [], []⟩
abbrev ts (l : List Tri) (r : Room) : AV := .sl (trisA l) l.length r
/-- the first cycle within a set -/
def ixV (l : List Tri) (s : Int) : Int :=
  match (List.range l.length).find? (fun i => ins (l.getD i tri0) s) with
  | some i => i
  | none => -1
theorem ixV_none {l : List Tri} {s : Int} (hn : ∀ k, k < l.length → ins (l.getD k tri0) s = false) : ixV l s = -1 := by
  have : (List.range l.length).find? (fun i => ins (l.getD i tri0) s) = none := by
    rw [List.find?_eq_none]
    intro x hx
    rw [hn x (List.mem_range.1 hx)]; simp
  simp only [ixV, this]
/-- some cycle is within a set -/
def anyV (l : List Tri) (s : Int) : Bool := decide (0 ≤ ixV l s)
end Go.Proofs.Rnk

