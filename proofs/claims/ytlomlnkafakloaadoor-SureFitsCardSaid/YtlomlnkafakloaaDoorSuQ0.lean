/- Layer 5: division. -/
import Derived.Test.YtlomlnkafakloaaDoorSuM
set_option linter.unusedSimpArgs false
set_option linter.unusedVariables false
set_option linter.unnecessarySimpa false
namespace Go.Proofs.Sur
open Go Go.VM
theorem i_mod {a n : Nat} : Int.tmod (a : Int) (n : Int) = ((a % n : Nat) : Int) := rfl
theorem i_div {a n : Nat} (h : a < 9223372036854775808) : IntKind.i64.wrap (Int.tdiv (a : Int) (n : Int)) = ((a / n : Nat) : Int) := by
  have : Int.tdiv (a : Int) (n : Int) = ((a / n : Nat) : Int) := rfl
  rw [this]; exact i_wrap (Nat.lt_of_le_of_lt (Nat.div_le_self a n) h)
theorem i_modw {a n : Nat} (h : a < 9223372036854775808) : IntKind.i64.wrap (Int.tmod (a : Int) (n : Int)) = ((a % n : Nat) : Int) := by
  rw [i_mod]; exact i_wrap (Nat.lt_of_le_of_lt (Nat.mod_le a n) h)
end Go.Proofs.Sur
