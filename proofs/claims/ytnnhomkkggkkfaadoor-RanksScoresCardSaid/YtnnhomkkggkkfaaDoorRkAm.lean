/- Layer 2: the orders that go against the fewest pairs, their mathematics. -/
import Derived.Test.YtnnhomkkggkkfaaDoorRkV
set_option linter.unusedSimpArgs false
set_option linter.unusedVariables false
set_option linter.unnecessarySimpa false
set_option maxRecDepth 100000
namespace Go.Proofs.Rnk
open Go Go.VM
open Go.Proofs.Sur (andn andn_bit andn_le)

/-- a set without one -/
def rem (S p : Nat) : Nat := andn S (2 ^ p)
/-- how many others of a set a player does not beat -/
abbrev co (A : Nat → Nat) (S p : Nat) : Nat := pc (andn (rem S p) (A p))
/-- the best first player of a set, after some: who, and how many pairs it goes against -/
def fb (g : Nat → Nat) (A : Nat → Nat) (S : Nat) : Nat → Nat × Nat
  | 0 => (0, 29)
  | k + 1 => if co A S (el S k) + g (rem S (el S k)) < (fb g A S k).2 then (el S k, co A S (el S k) + g (rem S (el S k))) else fb g A S k
/-- the table after some sets -/
def tb (A : Nat → Nat) : Nat → Nat → Nat × Nat
  | 0, _ => (0, 0)
  | s + 1, x => if x = s + 1 then fb (fun y => (tb A s y).2) A (s + 1) (pc (s + 1)) else tb A s x
/-- how the first best order of a set begins, and how many pairs it goes against -/
def bs (A : Nat → Nat) (S : Nat) : Nat × Nat := tb A S S
abbrev fp (A : Nat → Nat) (S : Nat) : Nat := (bs A S).1
/-! ### orders -/
/-- who is left after the first k of an order -/
def rs (S : Nat) (o : Nat → Nat) : Nat → Nat
  | 0 => S
  | k + 1 => rem (rs S o k) (o k)
/-- how many pairs the first k of an order go against -/
def gs (A : Nat → Nat) (S : Nat) (o : Nat → Nat) : Nat → Nat
  | 0 => 0
  | k + 1 => gs A S o k + co A (rs S o k) (o k)
/-- each next one is left -/
abbrev way (S : Nat) (o : Nat → Nat) (m : Nat) : Prop := ∀ k, k < m → (rs S o k).testBit (o k) = true
/-- the best order: who is left, and who is next -/
def ro (A : Nat → Nat) (S : Nat) : Nat → Nat
  | 0 => S
  | k + 1 => rem (ro A S k) (fp A (ro A S k))
abbrev oo (A : Nat → Nat) (S k : Nat) : Nat := fp A (ro A S k)
end Go.Proofs.Rnk

