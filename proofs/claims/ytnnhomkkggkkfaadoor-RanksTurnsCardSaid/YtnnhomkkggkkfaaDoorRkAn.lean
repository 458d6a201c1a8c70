/- Layer 2: tournaments with some results turned, their mathematics. -/
import Derived.Test.YtnnhomkkggkkfaaDoorRkAm
import Derived.Test.YtnnhomkkggkkfaaDoorRkZ
import Derived.Test.YtnnhomkkggkkfaaDoorRkAi
set_option linter.unusedSimpArgs false
set_option linter.unusedVariables false
set_option linter.unnecessarySimpa false
set_option maxRecDepth 100000
namespace Go.Proofs.Rnk
open Go Go.VM
open Go.Proofs.Sur (andn andn_bit andn_le)

/-- the result of a pair turned -/
def T1 (A : Nat → Nat) (a b : Nat) : Nat → Nat := fun e => if e = b then A e ^^^ 2 ^ a else if e = a then A e ^^^ 2 ^ b else A e
def mt (a b e f : Nat) : Bool := (decide (e = a) && decide (f = b)) || (decide (e = b) && decide (f = a))
theorem T1_bit {A : Nat → Nat} {a b e f : Nat} (hne : a ≠ b) : (T1 A a b e).testBit f = ((A e).testBit f ^^ mt a b e f) := by
  simp only [T1, mt]
  by_cases c1 : e = b
  · subst c1
    rw [if_pos rfl, Nat.testBit_xor, Nat.testBit_two_pow]
    have : e ≠ a := fun h => hne h.symm
    simp [this, eq_comm]
  · rw [if_neg c1]
    by_cases c2 : e = a
    · subst c2
      rw [if_pos rfl, Nat.testBit_xor, Nat.testBit_two_pow]
      simp [hne, eq_comm]
    · rw [if_neg c2]; simp [c1, c2]
abbrev p1 (l : List Pr) (k : Nat) : Nat := (l.getD k pair0).1.toNat
abbrev p2 (l : List Pr) (k : Nat) : Nat := (l.getD k pair0).2.toNat
/-- after the first pairs -/
def tv (A : Nat → Nat) (l : List Pr) : Nat → Nat → Nat
  | 0 => A
  | k + 1 => T1 (tv A l k) (p1 l k) (p2 l k)
theorem PK.ne {n : Nat} {l : List Pr} {k : Nat} (h : PK n l k) : p1 l k ≠ p2 l k ∧ p1 l k < n ∧ p2 l k < n := by
  have h1 := h.a; have h2 := h.b; have h3 := h.c
  simp only [p1, p2]; omega
def pr (l : List Pr) (e f : Nat) : Nat → Bool
  | 0 => false
  | k + 1 => pr l e f k ^^ mt (p1 l k) (p2 l k) e f
theorem tv_bit {A : Nat → Nat} {n : Nat} {l : List Pr} {e f : Nat} : ∀ k, (∀ j, j < k → PK n l j) → (tv A l k e).testBit f = ((A e).testBit f ^^ pr l e f k)
  | 0, _ => by simp [tv, pr]
  | k + 1, h => by
    rw [tv, T1_bit (h k (by omega)).ne.1, tv_bit k (fun j hj => h j (by omega)), pr, Bool.xor_assoc]
theorem pr_out {n : Nat} {l : List Pr} {e f : Nat} (hf : n ≤ f) : ∀ k, (∀ j, j < k → PK n l j) → pr l e f k = false
  | 0, _ => rfl
  | k + 1, h => by
    obtain ⟨_, h2, h3⟩ := (h k (by omega)).ne
    have c1 : f ≠ p1 l k := by omega
    have c2 : f ≠ p2 l k := by omega
    rw [pr, pr_out hf k (fun j hj => h j (by omega)), mt]
    simp [c1, c2]
/-- the players' sets with some results turned -/
abbrev tn (t : List Int) (l : List Pr) : Nat → Nat := tv (sn t) l l.length
abbrev prs (n : Nat) (l : List Pr) : Prop := ∀ j, j < l.length → PK n l j
abbrev tnl (t : List Int) (l : List Pr) : List Int := wl t.length (tn t l)
theorem tv_lt {t : List Int} (h : Tn t) {l : List Pr} {k : Nat} (hk : ∀ j, j < k → PK t.length l j) (e : Nat) : tv (sn t) l k e < 2 ^ t.length := by
  apply lt_of_bits
  intro i hi
  rw [tv_bit k hk] at hi
  apply Classical.byContradiction
  intro hn
  rw [pr_out (n := t.length) (by omega) k hk] at hi
  have : (sn t e).testBit i = false := by
    cases c : (sn t e).testBit i
    · rfl
    · have := (h.lt (i := e) (j := i) c).2; omega
  rw [this] at hi; simp at hi
end Go.Proofs.Rnk

