/- Layer 2: rising lists by insertion, their mathematics. -/
import Derived.Test.YtnnhomkkggkkfaaDoorRkBb
import Derived.Test.YtnnhomkkggkkfaaDoorRkU
set_option linter.unusedSimpArgs false
set_option linter.unusedVariables false
set_option linter.unnecessarySimpa false
set_option maxRecDepth 100000
namespace Go.Proofs.Rnk
open Go Go.VM

/-- where a number is put -/
def atI (x : Int) : List Int → Nat
  | [] => 0
  | y :: l => if y ≤ x then atI x l + 1 else 0
def insI (x : Int) : List Int → List Int
  | [] => [x]
  | y :: l => if y ≤ x then y :: insI x l else x :: y :: l
theorem atI_le (x : Int) : ∀ l : List Int, atI x l ≤ l.length
  | [] => Nat.le_refl _
  | y :: l => by simp only [atI]; split <;> simp [atI_le x l]
theorem insI_eq (x : Int) : ∀ l : List Int, insI x l = l.take (atI x l) ++ (x :: l.drop (atI x l))
  | [] => rfl
  | y :: l => by
    simp only [insI, atI]; split
    · simp [insI_eq x l]
    · simp
theorem insI_len (x : Int) : ∀ l : List Int, (insI x l).length = l.length + 1
  | [] => rfl
  | y :: l => by simp only [insI]; split <;> simp [insI_len x l]
theorem atI_lt {x : Int} : ∀ {l : List Int} {j : Nat}, j < atI x l → l.getD j i0 ≤ x
  | [], j, h => by simp [atI] at h
  | y :: l, j, h => by
    simp only [atI] at h
    split at h
    · rename_i hy
      cases j with
      | zero => simpa using hy
      | succ j => have := atI_lt (x := x) (l := l) (j := j) (by omega); simpa [List.getD_eq_getElem?_getD] using this
    · omega
theorem atI_at {x : Int} : ∀ {l : List Int}, atI x l < l.length → x < l.getD (atI x l) i0
  | [], h => by simp at h
  | y :: l, h => by
    simp only [atI] at h ⊢
    split
    · rename_i hy
      rw [if_pos hy] at h
      have := atI_at (l := l) (by simpa using h)
      simpa [List.getD_eq_getElem?_getD] using this
    · rename_i hy
      have : x < y := by omega
      simpa using this
/-- the first ones, rising -/
def ris (l : List Int) : Nat → List Int
  | 0 => []
  | k + 1 => insI (l.getD k i0) (ris l k)
@[simp] theorem ris_len (l : List Int) : ∀ k, (ris l k).length = k
  | 0 => rfl
  | k + 1 => by rw [ris, insI_len, ris_len l k]
theorem insI_app {x y : Int} (h : x < y) : ∀ l : List Int, insI x (l ++ [y]) = insI x l ++ [y]
  | [] => by simp only [List.nil_append, insI]; rw [if_neg (by omega)]; rfl
  | z :: l => by
    simp only [List.cons_append, insI]
    split
    · rw [insI_app h l]; rfl
    · rfl
theorem insI_all {x : Int} : ∀ {l : List Int}, (∀ y ∈ l, y ≤ x) → insI x l = l ++ [x]
  | [], _ => rfl
  | y :: l, h => by
    simp only [insI]
    rw [if_pos (h y (by simp)), insI_all (fun z hz => h z (by simp [hz]))]; rfl
theorem mem_insI {x z : Int} : ∀ {l : List Int}, z ∈ insI x l ↔ z = x ∨ z ∈ l
  | [] => by simp [insI]
  | y :: l => by
    simp only [insI]; split
    · simp only [List.mem_cons, mem_insI (l := l)]
      constructor
      · rintro (h | h | h)
        · exact .inr (.inl h)
        · exact .inl h
        · exact .inr (.inr h)
      · rintro (h | h | h)
        · exact .inr (.inl h)
        · exact .inl h
        · exact .inr (.inr h)
    · simp
theorem insI_srt {x : Int} : ∀ {l : List Int}, l.Pairwise (· ≤ ·) → (insI x l).Pairwise (· ≤ ·)
  | [], _ => by simp [insI]
  | y :: l, h => by
    rw [List.pairwise_cons] at h
    simp only [insI]; split
    · rename_i hy
      rw [List.pairwise_cons]
      exact ⟨fun z hz => by
        rcases mem_insI.1 hz with e | e
        · omega
        · exact h.1 z e, insI_srt h.2⟩
    · rename_i hy
      rw [List.pairwise_cons, List.pairwise_cons]
      exact ⟨fun z hz => by
        rcases List.mem_cons.1 hz with e | e
        · omega
        · have := h.1 z e; omega, h.1, h.2⟩
theorem ris_srt (l : List Int) : ∀ k, (ris l k).Pairwise (· ≤ ·)
  | 0 => by simp [ris]
  | k + 1 => insI_srt (ris_srt l k)
theorem getD_app_len {A R : List Int} {x : Int} : (A ++ x :: R).getD A.length i0 = x := by simp [List.getD_eq_getElem?_getD]
theorem getD_app_len1 {A R : List Int} {x y : Int} : (A ++ y :: x :: R).getD (A.length + 1) i0 = x := by
  have : A ++ y :: x :: R = (A ++ [y]) ++ x :: R := by simp
  rw [this]
  have e : A.length + 1 = (A ++ [y]).length := by simp
  rw [e]; exact getD_app_len
theorem set_app {A R : List Int} {x z : Int} : (A ++ x :: R).set A.length z = A ++ z :: R := by
  induction A with
  | nil => rfl
  | cons a A ih => simp only [List.cons_append, List.length_cons, List.set_cons_succ, ih]
theorem set_app1 {A R : List Int} {x y z : Int} : (A ++ y :: x :: R).set (A.length + 1) z = A ++ y :: z :: R := by
  have : A ++ y :: x :: R = (A ++ [y]) ++ x :: R := by simp
  rw [this, show A.length + 1 = (A ++ [y]).length by simp, set_app]; simp
/-- sinking puts a number into a rising list -/
theorem sk_ins (x : Int) : ∀ (n : Nat) (P R : List Int), P.length = n → P.Pairwise (· ≤ ·) → sk (P ++ x :: R) n = insI x P ++ R
  | 0, P, R, h, _ => by
    have : P = [] := List.length_eq_zero_iff.1 h
    subst this; rfl
  | n + 1, P, R, h, hp => by
    obtain ⟨A, y, rfl⟩ : ∃ A y, P = A ++ [y] := ⟨P.dropLast, P.getLast (by intro e; rw [e] at h; simp at h), (List.dropLast_concat_getLast _).symm⟩
    have hA : A.length = n := by simp at h; exact h
    rw [List.pairwise_append] at hp
    have e0 : A ++ [y] ++ x :: R = A ++ y :: x :: R := by simp
    rw [e0]
    simp only [sk]
    have g1 : (A ++ y :: x :: R).getD (n + 1) i0 = x := by rw [← hA]; exact getD_app_len1
    have g2 : (A ++ y :: x :: R).getD n i0 = y := by rw [← hA]; exact getD_app_len
    rw [g1, g2]
    by_cases c : x < y
    · rw [if_pos c]
      have e1 : sw (A ++ y :: x :: R) n = A ++ x :: y :: R := by
        simp only [sw]
        rw [g1, g2, ← hA, set_app1, set_app]
      rw [e1, sk_ins x n A (y :: R) hA hp.1, insI_app c]; simp
    · rw [if_neg c]
      have hall : ∀ z ∈ A ++ [y], z ≤ x := fun z hz => by
        rcases List.mem_append.1 hz with q | q
        · have := hp.2.2 z q y (by simp); omega
        · simp only [List.mem_singleton] at q; omega
      rw [insI_all hall]; simp
theorem isr_ris (l : List Int) : ∀ m, m < l.length → isr l m = ris l (m + 1) ++ l.drop (m + 1)
  | 0, h => by
    cases l with
    | nil => simp at h
    | cons x l => simp [isr, ris, insI]
  | m + 1, h => by
    rw [isr, isr_ris l m (by omega)]
    have e : l.drop (m + 1) = l.getD (m + 1) i0 :: l.drop (m + 2) := by
      rw [List.drop_eq_getElem_cons h, List.getD_eq_getElem?_getD, List.getElem?_eq_getElem h]; rfl
    rw [e, sk_ins _ (m + 1) _ _ (ris_len _ _) (ris_srt _ _)]
    rfl
theorem isrt_ris {l : List Int} (h : 1 ≤ l.length) : isrt l = ris l l.length := by
  show isr l (l.length - 1) = _
  rw [isr_ris l _ (by omega), show l.length - 1 + 1 = l.length by omega]; simp
end Go.Proofs.Rnk

