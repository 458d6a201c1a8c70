/- Layer 2: kings, their mathematics. -/
import Derived.Test.YtnnhomkkggkkfaaDoorRkT
set_option linter.unusedSimpArgs false
set_option linter.unusedVariables false
set_option linter.unnecessarySimpa false
set_option maxRecDepth 100000
namespace Go.Proofs.Rnk
open Go Go.VM

/-! ### how many -/
theorem filter_lt {α : Type} {f g : α → Bool} : ∀ (l : List α), (∀ a ∈ l, f a = true → g a = true) → (∃ a ∈ l, f a = false ∧ g a = true) → (l.filter f).length < (l.filter g).length
  | [], _, h => by obtain ⟨_, h, _⟩ := h; cases h
  | x :: l, h1, h2 => by
    have hle : (l.filter f).length ≤ (l.filter g).length := by
      have : ∀ (l : List α), (∀ a ∈ l, f a = true → g a = true) → (l.filter f).length ≤ (l.filter g).length := by
        intro l
        induction l with
        | nil => intro _; exact Nat.le_refl _
        | cons y l ih =>
          intro h
          have i := ih (fun a ha => h a (List.mem_cons_of_mem _ ha))
          have hy := h y (List.mem_cons_self ..)
          cases hf : f y
          · rw [List.filter_cons_of_neg (by simp [hf])]
            cases hg : g y
            · rw [List.filter_cons_of_neg (by simp [hg])]; exact i
            · rw [List.filter_cons_of_pos hg]; simp only [List.length_cons]; omega
          · rw [List.filter_cons_of_pos hf, List.filter_cons_of_pos (hy hf)]; simp only [List.length_cons]; omega
      exact this l (fun a ha => h1 a (List.mem_cons_of_mem _ ha))
    have hx := h1 x (List.mem_cons_self ..)
    cases hf : f x
    · rw [List.filter_cons_of_neg (by simp [hf])]
      cases hg : g x
      · rw [List.filter_cons_of_neg (by simp [hg])]
        refine filter_lt l (fun a ha => h1 a (List.mem_cons_of_mem _ ha)) ?_
        obtain ⟨a, ha, q1, q2⟩ := h2
        rcases List.mem_cons.1 ha with rfl | ha
        · rw [hg] at q2; cases q2
        · exact ⟨a, ha, q1, q2⟩
      · rw [List.filter_cons_of_pos hg]; simp only [List.length_cons]; omega
    · rw [List.filter_cons_of_pos hf, List.filter_cons_of_pos (hx hf)]
      simp only [List.length_cons]
      have := filter_lt l (fun a ha => h1 a (List.mem_cons_of_mem _ ha)) (by
        obtain ⟨a, ha, q1, q2⟩ := h2
        rcases List.mem_cons.1 ha with rfl | ha
        · rw [hf] at q1; cases q1
        · exact ⟨a, ha, q1, q2⟩)
      omega
theorem pc_lt {a b : Nat} (h : ∀ i, i < 8 → a.testBit i = true → b.testBit i = true) (h2 : ∃ i, i < 8 ∧ a.testBit i = false ∧ b.testBit i = true) : pc a < pc b := by
  obtain ⟨i, hi, q⟩ := h2
  exact filter_lt _ (fun j hj => h j (List.mem_range.1 hj)) ⟨i, List.mem_range.2 hi, q⟩
theorem pc_mono {a b : Nat} (h : ∀ i, i < 8 → a.testBit i = true → b.testBit i = true) : pc a ≤ pc b := by
  by_cases c : ∃ i, i < 8 ∧ a.testBit i = false ∧ b.testBit i = true
  · exact Nat.le_of_lt (pc_lt h c)
  · refine Nat.le_of_eq ?_
    unfold pc
    congr 1
    refine List.filter_congr fun i hi => ?_
    have hi := List.mem_range.1 hi
    cases ha : a.testBit i
    · cases hb : b.testBit i
      · rfl
      · exact absurd ⟨i, hi, ha, hb⟩ c
    · exact (h i hi ha).symm
theorem bit_lt8 {a i : Nat} (h : a < 256) (hb : a.testBit i = true) : i < 8 := by
  rcases Nat.lt_or_ge i 8 with q | q
  · exact q
  · rw [Nat.testBit_lt_two_pow (Nat.lt_of_lt_of_le h (Nat.pow_le_pow_right (by decide) q : 2 ^ 8 ≤ 2 ^ i))] at hb; cases hb
/-! ### who is reached by two -/
theorem mem_els {s e : Nat} : e ∈ els s ↔ e < 8 ∧ s.testBit e = true := by
  simp only [els, List.mem_filter, List.mem_range]
theorem el_of {s e : Nat} (h : e < 8) (hb : s.testBit e = true) : ∃ k, k < pc s ∧ el s k = e := by
  obtain ⟨k, hk, hv⟩ := List.getElem_of_mem (mem_els.2 ⟨h, hb⟩)
  exact ⟨k, hk, by rw [el, List.getD_eq_getElem?_getD, List.getElem?_eq_getElem hk]; exact hv⟩
/-! ### the greatest score within a set -/
theorem ex_max (f : Nat → Nat) (S : Nat → Prop) : ∀ n, (∃ i, i < n ∧ S i) → ∃ i, (i < n ∧ S i) ∧ ∀ j, j < n → S j → f j ≤ f i
  | 0, h => by obtain ⟨i, h, _⟩ := h; omega
  | n + 1, h => by
    by_cases c : ∃ i, i < n ∧ S i
    · obtain ⟨i, ⟨h1, h2⟩, h3⟩ := ex_max f S n c
      by_cases d : S n ∧ f i < f n
      · refine ⟨n, ⟨by omega, d.1⟩, fun j hj hS => ?_⟩
        rcases Nat.lt_or_ge j n with q | q
        · have := h3 j q hS; omega
        · have : j = n := by omega
          subst this; exact Nat.le_refl _
      · refine ⟨i, ⟨by omega, h2⟩, fun j hj hS => ?_⟩
        rcases Nat.lt_or_ge j n with q | q
        · exact h3 j q hS
        · have : j = n := by omega
          subst this
          have : ¬ f i < f j := fun e => d ⟨hS, e⟩
          omega
    · obtain ⟨i, h1, h2⟩ := h
      have : i = n := by
        rcases Nat.lt_or_ge i n with q | q
        · exact absurd ⟨i, q, h2⟩ c
        · omega
      subst this
      refine ⟨i, ⟨h1, h2⟩, fun j hj hS => ?_⟩
      rcases Nat.lt_or_ge j i with q | q
      · exact absurd ⟨j, q, hS⟩ c
      · have : j = i := by omega
        subst this; exact Nat.le_refl _
theorem max_nk {t : List Int} (h : Tn t) {S u : Nat} (hu : S.testBit u = true) (hun : u < t.length) (hS : ∀ j, S.testBit j = true → j < t.length)
    (hmax : ∀ j, j < t.length → S.testBit j = true → pc (sn t j &&& S) ≤ pc (sn t u &&& S)) {w : Nat} (hw : S.testBit w = true) : w = u ∨ bt t u w = true ∨ ∃ e, S.testBit e = true ∧ bt t u e = true ∧ bt t e w = true := by
  apply Classical.byContradiction
  intro hn
  have hne : w ≠ u := fun e => hn (.inl e)
  have h1 : bt t u w = false := by
    cases c : bt t u w
    · rfl
    · exact absurd (.inr (.inl c)) hn
  have hwn := hS w hw
  have hwu : bt t w u = true := by rw [h.tot hwn hun hne, h1]; rfl
  have h2 : ∀ e, S.testBit e = true → bt t u e = true → bt t w e = true := fun e he hb => by
    have hen := hS e he
    have c1 : e ≠ w := by rintro rfl; rw [h1] at hb; cases hb
    have c2 : bt t e w = false := by
      cases c : bt t e w
      · rfl
      · exact absurd (.inr (.inr ⟨e, he, hb, c⟩)) hn
    rw [h.tot hwn hen (Ne.symm c1), c2]; rfl
  have hlt : pc (sn t u &&& S) < pc (sn t w &&& S) := by
    refine pc_lt (fun i _ q => ?_) ⟨u, by have := h.s.2; omega, ?_, ?_⟩
    · rw [Nat.testBit_and, Bool.and_eq_true] at q ⊢
      exact ⟨h2 i q.2 q.1, q.2⟩
    · rw [Nat.testBit_and, show (sn t u).testBit u = false from h.irr u]; rfl
    · rw [Nat.testBit_and, show (sn t w).testBit u = true from hwu, hu]; rfl
  have := hmax w hwn hw
  omega
def over (t : List Int) (v : Nat) : Nat → Nat
  | 0 => 0
  | j + 1 => if bt t j v then over t v j ||| 2 ^ j else over t v j
end Go.Proofs.Rnk

