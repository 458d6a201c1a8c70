/- Layer 7: rounds that close a relation, and pairs. -/
import Derived.Test.YtmgbglnljnlapaaOrM
set_option linter.unusedSimpArgs false
set_option linter.unusedVariables false
set_option linter.unnecessarySimpa false
namespace Go.Proofs.Ord
open Go Go.VM

/-- row i gets row j, if j is above i -/
def S1 (A : Rel) (i j : Nat) : Rel := fun e => if e = i ∧ (A i).testBit j = true then A i ||| A j else A e
theorem S1_ab {A : Rel} {i j e t : Nat} : ab (S1 A i j) e t ↔ ab A e t ∨ e = i ∧ ab A i j ∧ ab A j t := by
  simp only [ab, S1]
  split <;> rename_i h
  · obtain ⟨rfl, h⟩ := h
    simp [h]
  · constructor
    · exact .inl
    · rintro (h1 | ⟨h1, h2, _⟩)
      · exact h1
      · exact absurd ⟨h1, h2⟩ h
def Rj (A : Rel) (i : Nat) : Nat → Rel
  | 0 => A
  | k + 1 => S1 (Rj A i k) i k
def Ri (A : Rel) (n : Nat) : Nat → Rel
  | 0 => A
  | m + 1 => Rj (Ri A n m) m n
def Rc (A : Rel) (n : Nat) : Nat → Rel
  | 0 => A
  | r + 1 => Ri (Rc A n r) n n
theorem Rj_mono {A : Rel} {i k l e t : Nat} (hk : k ≤ l) (h : ab (Rj A i k) e t) : ab (Rj A i l) e t := by
  induction hk with
  | refl => exact h
  | step _ ih => exact S1_ab.2 (.inl ih)
theorem Ri_mono {A : Rel} {n k l e t : Nat} (hk : k ≤ l) (h : ab (Ri A n k) e t) : ab (Ri A n l) e t := by
  induction hk with
  | refl => exact h
  | step _ ih => exact Rj_mono (Nat.zero_le n) ih
theorem Rc_wn {n : Nat} {A : Rel} (h : Rg n A) : ∀ r, r ≤ n → ∀ e t, ab (Wn A r) e t → ab (Rc A n r) e t
  | 0, _, e, t, p => p
  | r + 1, hr, e, t, p => by
    have ih := Rc_wn h r (by omega)
    rcases W1_ab.1 p with p | ⟨p, q⟩
    · exact Ri_mono (k := 0) (l := n) (Nat.zero_le n) (ih e t p)
    · have he := ((Wn_rg h r).bit p).1
      have p' := ih _ _ p
      have q' := ih _ _ q
      have h1 : ab (Ri (Rc A n r) n (e + 1)) e t := by
        have a1 : ab (Rj (Ri (Rc A n r) n e) e (r + 1)) e t := by
          refine S1_ab.2 (.inr ⟨rfl, ?_, ?_⟩)
          · exact Rj_mono (k := 0) (Nat.zero_le r) (Ri_mono (k := 0) (Nat.zero_le e) p')
          · exact Rj_mono (k := 0) (Nat.zero_le r) (Ri_mono (k := 0) (Nat.zero_le e) q')
        exact Rj_mono (by omega) a1
      exact Ri_mono (by omega) h1
theorem S1_least {A B : Rel} (hB : Tr B) (h : ∀ i j, ab A i j → ab B i j) (i j : Nat) : ∀ e t, ab (S1 A i j) e t → ab B e t := fun e t p => by
  rcases S1_ab.1 p with p | ⟨rfl, p, q⟩
  · exact h _ _ p
  · exact hB _ _ _ (h _ _ p) (h _ _ q)
theorem Rj_least {A B : Rel} (hB : Tr B) (h : ∀ i j, ab A i j → ab B i j) (i : Nat) : ∀ k e t, ab (Rj A i k) e t → ab B e t
  | 0 => h
  | k + 1 => S1_least hB (Rj_least hB h i k) i k
theorem Ri_least {A B : Rel} (hB : Tr B) (h : ∀ i j, ab A i j → ab B i j) (n : Nat) : ∀ k e t, ab (Ri A n k) e t → ab B e t
  | 0 => h
  | k + 1 => Rj_least hB (Ri_least hB h n k) k n
theorem Rc_least {A B : Rel} (hB : Tr B) (h : ∀ i j, ab A i j → ab B i j) (n : Nat) : ∀ k e t, ab (Rc A n k) e t → ab B e t
  | 0 => h
  | k + 1 => Ri_least hB (Rc_least hB h n k) n n
theorem Rc_eq {n : Nat} {A : Rel} (h : Rg n A) : Rc A n n = Wn A n :=
  rel_ext fun i j => ⟨Rc_least (Wn_tr h) (fun _ _ => Wn_mono) n n i j, Rc_wn h n (Nat.le_refl n) i j⟩
theorem S1_rg {n : Nat} {A : Rel} (h : Rg n A) (i j : Nat) : Rg n (S1 A i j) := by
  refine ⟨fun e => ?_, fun e he => ?_⟩
  · simp only [S1]; split
    · exact Nat.or_lt_two_pow (h.1 i) (h.1 j)
    · exact h.1 e
  · simp only [S1]
    rw [if_neg, h.2 e he]
    rintro ⟨rfl, h1⟩
    rw [h.2 e he] at h1; simp at h1
theorem Rj_rg {n : Nat} {A : Rel} (h : Rg n A) (i : Nat) : ∀ k, Rg n (Rj A i k)
  | 0 => h
  | k + 1 => S1_rg (Rj_rg h i k) i k
theorem Ri_rg {n : Nat} {A : Rel} (h : Rg n A) (m : Nat) : ∀ k, Rg n (Ri A m k)
  | 0 => h
  | k + 1 => Rj_rg (Ri_rg h m k) k m
theorem Rc_rg {n : Nat} {A : Rel} (h : Rg n A) (m : Nat) : ∀ k, Rg n (Rc A m k)
  | 0 => h
  | k + 1 => Ri_rg (Rc_rg h m k) m m
/-- with a pair -/
def P1 (A : Rel) (a b : Nat) : Rel := fun e => if e = a then A e ||| 2 ^ b else A e
theorem P1_rg {n : Nat} {A : Rel} (h : Rg n A) {a b : Nat} (ha : a < n) (hb : b < n) : Rg n (P1 A a b) := by
  refine ⟨fun e => ?_, fun e he => ?_⟩
  · simp only [P1]; split
    · exact Nat.or_lt_two_pow (h.1 e) (Nat.pow_lt_pow_right (by decide) hb)
    · exact h.1 e
  · simp only [P1]
    rw [if_neg (by omega), h.2 e he]
def zeroR : Rel := fun _ => 0
theorem zero_rg (n : Nat) : Rg n zeroR := ⟨fun _ => Nat.two_pow_pos n, fun _ _ => rfl⟩
/-- of pairs -/
def Pn (l : List (Int × Int)) : Nat → Rel
  | 0 => zeroR
  | k + 1 => P1 (Pn l k) (l.getD k (0, 0)).1.toNat (l.getD k (0, 0)).2.toNat
def PrOk (n : Nat) (l : List (Int × Int)) : Prop := ∀ k, k < l.length → (0 ≤ (l.getD k (0, 0)).1 ∧ (l.getD k (0, 0)).1 < n) ∧ 0 ≤ (l.getD k (0, 0)).2 ∧ (l.getD k (0, 0)).2 < n
theorem Pn_rg {n : Nat} {l : List (Int × Int)} (h : PrOk n l) : ∀ k, k ≤ l.length → Rg n (Pn l k)
  | 0, _ => zero_rg n
  | k + 1, hk => by
    have := h k (by omega)
    exact P1_rg (Pn_rg h k (by omega)) (by omega) (by omega)
end Go.Proofs.Ord

