/- Layer 2: cycles, by the reference: mathematics. -/
import Derived.Test.YtnnhomkkggkkfaaDoorRkL
import Derived.Test.YtnnhomkkggkkfaaDoorRkJ
set_option linter.unusedSimpArgs false
set_option linter.unusedVariables false
set_option linter.unnecessarySimpa false
set_option maxHeartbeats 4000000
set_option maxRecDepth 100000
namespace Go.Proofs.Rnk
open Go Go.VM

abbrev q33 (t : List Int) (a b c : Nat) : Prop := (a < b ∧ a < c) ∧ bt t a b = true ∧ bt t b c = true ∧ bt t c a = true
def rc3 (t : List Int) (a b : Nat) (acc : List Tri) : Nat → List Tri
  | 0 => acc
  | c + 1 => if q33 t a b c then rc3 t a b acc c ++ [tri a b c] else rc3 t a b acc c
def rc2 (t : List Int) (a : Nat) (acc : List Tri) : Nat → List Tri
  | 0 => acc
  | b + 1 => rc3 t a b (rc2 t a acc b) t.length
def rc1 (t : List Int) : Nat → List Tri
  | 0 => []
  | a + 1 => rc2 t a (rc1 t a) t.length
theorem el_some {s k : Nat} (h : k < pc s) : (els s)[k]? = some (el s k) := by
  have h : k < (els s).length := h
  simp [el, List.getD_eq_getElem?_getD, h]
theorem els_take (s : Nat) : (els s).take (pc s) = els s := List.take_of_length_le (Nat.le_refl _)
theorem cc3_eq (t : List Int) (a b : Nat) (acc : List Tri) : ∀ k, k ≤ pc (s1 t a b) → cc3 t a b acc k = acc ++ (((els (s1 t a b)).take k).filter (fun c => bt t c a)).map (tri a b)
  | 0, _ => by simp [cc3]
  | k + 1, h => by
    have ih := cc3_eq t a b acc k (by omega)
    simp only [cc3]
    rw [List.take_add_one, el_some (by omega), ih]
    generalize el (s1 t a b) k = e
    split
    · rename_i c
      simp [c]
    · rename_i c
      have c : bt t e a = false := by simpa using c
      simp [c]
theorem rc3_eq (t : List Int) (a b : Nat) (acc : List Tri) : ∀ k, rc3 t a b acc k = acc ++ ((List.range k).filter (fun c => decide (q33 t a b c))).map (tri a b)
  | 0 => by simp [rc3]
  | k + 1 => by
    have ih := rc3_eq t a b acc k
    simp only [rc3]
    rw [List.range_succ, List.filter_append, List.map_append, ih]
    split
    · rename_i c
      rw [List.filter_cons, if_pos (decide_eq_true c)]; simp
    · rename_i c
      rw [List.filter_cons, if_neg (by simp only [decide_eq_true_eq]; exact c)]; simp
theorem filter_range {p : Nat → Bool} {n : Nat} (hp : ∀ c, p c = true → c < n) : ∀ m, n ≤ m → (List.range m).filter p = (List.range n).filter p
  | 0, h => by have : n = 0 := by omega
               subst this; rfl
  | m + 1, h => by
    rcases Nat.lt_or_ge n (m + 1) with q | q
    · rw [List.range_succ, List.filter_append, filter_range hp m (by omega)]
      have : p m = false := by
        cases c : p m
        · rfl
        · have := hp m c; omega
      simp [this]
    · have : n = m + 1 := by omega
      subst this; rfl
theorem els_eq {t : List Int} (h : Tn t) (a b : Nat) : els (s1 t a b) = (List.range t.length).filter (fun c => decide (bt t b c = true ∧ a < c)) := by
  have h8 := h.s.2
  rw [els, List.filter_congr (q := fun c => decide (bt t b c = true ∧ a < c)) (fun c _ => by
    have := @s1_bit t h a b c
    cases d : (s1 t a b).testBit c
    · simp only [d] at this; exact (decide_eq_false (fun q => by have := this.2 q; cases this)).symm
    · exact (decide_eq_true (this.1 d)).symm)]
  exact filter_range (fun c q => (h.lt (of_decide_eq_true q).1).2) 8 h8
theorem rc3_cc {t : List Int} (h : Tn t) (a b : Nat) (acc : List Tri) : rc3 t a b acc t.length = if decide (bt t a b = true ∧ a < b) = true then cc3 t a b acc (pc (s1 t a b)) else acc := by
  rw [rc3_eq]
  split
  · rename_i c
    have c := of_decide_eq_true c
    rw [cc3_eq t a b acc _ (Nat.le_refl _), els_take, els_eq h, List.filter_filter]
    congr 2
    apply List.filter_congr
    intro x _
    simp only [q33]
    cases d1 : bt t x a <;> cases d2 : bt t b x <;> simp [c.1, c.2]
  · rename_i c
    have c : ¬ (bt t a b = true ∧ a < b) := fun q => c (decide_eq_true q)
    have : (List.range t.length).filter (fun x => decide (q33 t a b x)) = [] := by
      rw [List.filter_eq_nil_iff]
      intro x _ q
      have q := of_decide_eq_true q
      exact c ⟨q.2.1, q.1.1⟩
    rw [this]; simp
theorem cc2_fold (t : List Int) (a : Nat) (acc : List Tri) : ∀ k, k ≤ pc (s1 t a a) → cc2 t a acc k = ((els (s1 t a a)).take k).foldl (fun x b => cc3 t a b x (pc (s1 t a b))) acc
  | 0, _ => by simp [cc2]
  | k + 1, h => by
    rw [cc2, cc2_fold t a acc k (by omega), List.take_add_one, el_some (by omega)]
    simp
theorem rc2_fold (t : List Int) (a : Nat) (acc : List Tri) : ∀ k, rc2 t a acc k = (List.range k).foldl (fun x b => rc3 t a b x t.length) acc
  | 0 => by simp [rc2]
  | k + 1 => by rw [rc2, rc2_fold t a acc k, List.range_succ]; simp
theorem rc2_cc {t : List Int} (h : Tn t) (a : Nat) (acc : List Tri) : rc2 t a acc t.length = cc2 t a acc (pc (s1 t a a)) := by
  rw [rc2_fold, cc2_fold t a acc _ (Nat.le_refl _), els_take, els_eq h, List.foldl_filter]
  congr 1
  funext x b
  exact rc3_cc h a b x
theorem rc1_cc {t : List Int} (h : Tn t) : ∀ a, rc1 t a = cc1 t a
  | 0 => rfl
  | a + 1 => by rw [rc1, cc1, rc1_cc h a, rc2_cc h]
end Go.Proofs.Rnk

