/- Layer 7: orders as sets of bits: what follows, and what is closed. -/
import Derived.Test.YtnnhomkkggkkfaaDoorSuM
set_option linter.unusedSimpArgs false
set_option linter.unusedVariables false
set_option linter.unnecessarySimpa false
namespace Go.Proofs.Ord
open Go Go.VM

abbrev Rel := Nat → Nat
/-- what is above what -/
abbrev ab (A : Rel) (i j : Nat) : Prop := (A i).testBit j = true
def Tr (A : Rel) : Prop := ∀ i j k, ab A i j → ab A j k → ab A i k
def Irr (A : Rel) : Prop := ∀ i, ¬ ab A i i
/-- n elements -/
def Rg (n : Nat) (A : Rel) : Prop := (∀ i, A i < 2 ^ n) ∧ ∀ i, n ≤ i → A i = 0
theorem Rg.bit {n : Nat} {A : Rel} (h : Rg n A) {i j : Nat} (k : ab A i j) : i < n ∧ j < n := by
  constructor
  · rcases Nat.lt_or_ge i n with q | q
    · exact q
    · rw [ab, h.2 i q] at k; simp at k
  · rcases Nat.lt_or_ge j n with q | q
    · exact q
    · have := Nat.testBit_lt_two_pow (Nat.lt_of_lt_of_le (h.1 i) (Nat.pow_le_pow_right (by decide) q))
      rw [ab, this] at k; cases k
/-- what is above v is above all that v is above of -/
def W1 (A : Rel) (v : Nat) : Rel := fun e => if (A e).testBit v then A e ||| A v else A e
theorem W1_ab {A : Rel} {v e t : Nat} : ab (W1 A v) e t ↔ ab A e t ∨ ab A e v ∧ ab A v t := by
  simp only [ab, W1]
  split <;> rename_i h
  · simp [h]
  · simp [h]
/-- the same, for the first elements alone -/
def W1j (A : Rel) (v j : Nat) : Rel := fun e => if e < j then W1 A v e else A e
theorem W1j_0 (A : Rel) (v : Nat) : W1j A v 0 = A := by funext e; simp [W1j]
theorem W1_self (A : Rel) (v : Nat) : W1 A v v = A v := by simp [W1]
theorem W1j_v (A : Rel) (v j : Nat) : W1j A v j v = A v := by
  simp only [W1j]; split
  · exact W1_self A v
  · rfl
def Wn (A : Rel) : Nat → Rel
  | 0 => A
  | k + 1 => W1 (Wn A k) k
theorem Wn_mono {A : Rel} {k e t : Nat} (h : ab A e t) : ab (Wn A k) e t := by
  induction k with
  | zero => exact h
  | succ k ih => exact W1_ab.2 (.inl ih)
theorem Wn_via {A : Rel} : ∀ (k : Nat) {v a b : Nat}, v < k → ab (Wn A k) a v → ab (Wn A k) v b → ab (Wn A k) a b
  | 0, v, _, _, h, _, _ => by omega
  | k + 1, v, a, b, h, p, q => by
    rw [Wn] at p q ⊢
    rw [W1_ab] at p q ⊢
    have ih := @Wn_via A k
    rcases Nat.lt_or_ge v k with hv | hv
    · rcases p with p | ⟨p1, p2⟩
      · rcases q with q | ⟨q1, q2⟩
        · exact .inl (ih hv p q)
        · exact .inr ⟨ih hv p q1, q2⟩
      · rcases q with q | ⟨q1, q2⟩
        · exact .inr ⟨p1, ih hv p2 q⟩
        · exact .inr ⟨p1, q2⟩
    · have : v = k := by omega
      subst this
      have p' : ab (Wn A v) a v := by rcases p with p | ⟨p, _⟩ <;> exact p
      have q' : ab (Wn A v) v b := by rcases q with q | ⟨_, q⟩ <;> exact q
      exact .inr ⟨p', q'⟩
theorem W1_rg {n : Nat} {A : Rel} (h : Rg n A) (v : Nat) : Rg n (W1 A v) := by
  refine ⟨fun i => ?_, fun i hi => ?_⟩
  · simp only [W1]; split
    · exact Nat.or_lt_two_pow (h.1 i) (h.1 v)
    · exact h.1 i
  · simp [W1, h.2 i hi]
theorem Wn_rg {n : Nat} {A : Rel} (h : Rg n A) : ∀ k, Rg n (Wn A k)
  | 0 => h
  | k + 1 => W1_rg (Wn_rg h k) k
theorem Wn_tr {n : Nat} {A : Rel} (h : Rg n A) : Tr (Wn A n) := fun _ _ _ p q => Wn_via n ((Wn_rg h n).bit p).2 p q
theorem Wn_least {A B : Rel} (hB : Tr B) (h : ∀ i j, ab A i j → ab B i j) : ∀ k i j, ab (Wn A k) i j → ab B i j
  | 0, i, j, p => h i j p
  | k + 1, i, j, p => by
    rcases W1_ab.1 p with p | ⟨p, q⟩
    · exact Wn_least hB h k i j p
    · exact hB _ _ _ (Wn_least hB h k _ _ p) (Wn_least hB h k _ _ q)
/-- an order -/
structure Od (n : Nat) (A : Rel) : Prop where
  rg : Rg n A
  tr : Tr A
  irr : Irr A
end Go.Proofs.Ord

