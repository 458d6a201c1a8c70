/- Layer 1: how the search for a plan ends. -/
import Derived.Test.YtbadfaiepgfpdaaWgX
import Derived.Test.YtbadfaiepgfpdaaWgY
import Derived.KernelRfl
set_option linter.unusedSimpArgs false
set_option linter.unusedVariables false
set_option linter.unnecessarySimpa false
set_option maxHeartbeats 4000000
set_option maxRecDepth 100000
namespace Go.Proofs.Weg
open Go Go.VM

/-- the same search, cut where it can't end well -/
def fp : List Row → Nat → Int → Int → Int → Option (List Row)
  | _, 0, x, y, z => if x = 0 ∧ y = 0 ∧ z = 0 then some [] else none
  | [], _ + 1, _, _, _ => none
  | d :: t, n + 1, x, y, z =>
    if x < -((n + 1 : Nat) : Int) ∨ ((n + 1 : Nat) : Int) < x ∨ y < -((n + 1 : Nat) : Int) ∨ ((n + 1 : Nat) : Int) < y ∨ z < -((n + 1 : Nat) : Int) ∨ ((n + 1 : Nat) : Int) < z ∨ t.length < n then none else
    match fp t n (px x (tms 1 d.1)) (py y (tms 1 d.1)) (pz z (tms 1 d.1)) with
    | some p => some (p ++ [(tms 1 d.1, RK.l)])
    | none =>
      match fp t n (px x (tms (-1) d.1)) (py y (tms (-1) d.1)) (pz z (tms (-1) d.1)) with
      | some p => some (p ++ [(tms (-1) d.1, RK.l)])
      | none => fp t (n + 1) x y z
theorem fl_bound : ∀ (t : List Row) (n : Nat) (x y z : Int) (p : List Row), (∀ d ∈ t, sg d.1) → fl t n x y z = some p → -(n : Int) ≤ x ∧ x ≤ n ∧ -(n : Int) ≤ y ∧ y ≤ n ∧ -(n : Int) ≤ z ∧ z ≤ n ∧ n ≤ t.length
  | t, 0, x, y, z, p, hs, h => by
    cases t <;> simp only [fl] at h <;> split at h <;> simp at h <;> rename_i h0 <;> simp [h0]
  | [], n + 1, x, y, z, p, hs, h => by simp [fl] at h
  | d :: t, n + 1, x, y, z, p, hs, h => by
    have ht : ∀ d ∈ t, sg d.1 := fun e he => hs e (by simp [he])
    have hd : sg d.1 := hs d (by simp)
    have key : ∀ s : Int, s = 1 ∨ s = -1 → ∀ q, fl t n (px x (tms s d.1)) (py y (tms s d.1)) (pz z (tms s d.1)) = some q → -((n + 1 : Nat) : Int) ≤ x ∧ x ≤ (n + 1 : Nat) ∧ -((n + 1 : Nat) : Int) ≤ y ∧ y ≤ (n + 1 : Nat) ∧ -((n + 1 : Nat) : Int) ≤ z ∧ z ≤ (n + 1 : Nat) ∧ n + 1 ≤ (d :: t).length := by
      intro s hs' q hq
      have := fl_bound t n _ _ _ q ht hq
      have g0 := sg_getD (tms_sg hd hs') 0
      have g1 := sg_getD (tms_sg hd hs') 1
      have g2 := sg_getD (tms_sg hd hs') 2
      simp only [px, py, pz, List.length_cons] at *
      omega
    simp only [fl] at h
    split at h
    · rename_i q hq; exact key 1 (.inl rfl) q hq
    · split at h
      · rename_i q hq; exact key (-1) (.inr rfl) q hq
      · have := fl_bound t (n + 1) x y z p ht h
        simp only [List.length_cons]; omega
theorem fp_eq : ∀ (t : List Row) (n : Nat) (x y z : Int), (∀ d ∈ t, sg d.1) → fp t n x y z = fl t n x y z
  | t, 0, x, y, z, hs => by cases t <;> rfl
  | [], n + 1, x, y, z, hs => rfl
  | d :: t, n + 1, x, y, z, hs => by
    have ht : ∀ d ∈ t, sg d.1 := fun e he => hs e (by simp [he])
    have e : fl (d :: t) (n + 1) x y z = match fl t n (px x (tms 1 d.1)) (py y (tms 1 d.1)) (pz z (tms 1 d.1)) with
      | some p => some (p ++ [(tms 1 d.1, RK.l)])
      | none =>
        match fl t n (px x (tms (-1) d.1)) (py y (tms (-1) d.1)) (pz z (tms (-1) d.1)) with
        | some p => some (p ++ [(tms (-1) d.1, RK.l)])
        | none => fl t (n + 1) x y z := rfl
    simp only [fp]
    split
    · rename_i hb
      cases hq : fl (d :: t) (n + 1) x y z with
      | none => rfl
      | some p =>
        have := fl_bound _ _ _ _ _ _ hs hq
        simp only [List.length_cons] at this
        omega
    · rw [e, fp_eq t n _ _ _ ht, fp_eq t n _ _ _ ht, fp_eq t (n + 1) _ _ _ ht]

def okp (n : Nat) (p : List Row) : Bool := decide (p.length = n) && decide (tb p ∧ lv p ∧ ap p) && p.all (fun x => x.2 == .l)
def chk (t : List Row) (most : Nat) : Bool := (List.range 13).all fun i => match fp t (i + 1) 0 0 0 with
  | some p => decide (3 ≤ i + 1 ∧ i + 1 ≤ most) && okp (i + 1) p
  | none => !decide (3 ≤ i + 1 ∧ i + 1 ≤ most)
theorem chk1 : chk H1 0 = true := by kernel_rfl
theorem chk2 : chk H2 3 = true := by kernel_rfl
theorem chk3 : chk H3 12 = true := by kernel_rfl
def hvb (t : List Row) : Bool := decide (hv t)
theorem hvk1 : hvb H1 = true := by kernel_rfl
theorem hvk2 : hvb H2 = true := by kernel_rfl
theorem hvk3 : hvb H3 = true := by kernel_rfl
theorem hvb_of {t : List Row} (h : hvb t = true) : hv t := by unfold hvb at h; exact of_decide_eq_true h
theorem HL1 : HL 1 = H1 := by unfold HL; rw [if_pos rfl]
theorem HL2 : HL 2 = H2 := by unfold HL; rw [if_neg (by decide), if_pos rfl]
theorem HL3 : HL 3 = H3 := by unfold HL; rw [if_neg (by decide), if_neg (by decide)]
def mst (k : Int) : Nat := if k = 1 then 0 else if k = 2 then 3 else 12
theorem mst1 : mst 1 = 0 := rfl
theorem mst2 : mst 2 = 3 := rfl
theorem mst3 : mst 3 = 12 := rfl
theorem hvL {k : Int} (hk : k = 1 ∨ k = 2 ∨ k = 3) : hv (HL k) := by
  rcases hk with rfl | rfl | rfl
  · rw [HL1]; exact hvb_of hvk1
  · rw [HL2]; exact hvb_of hvk2
  · rw [HL3]; exact hvb_of hvk3
theorem chkL {k : Int} (hk : k = 1 ∨ k = 2 ∨ k = 3) : chk (HL k) (mst k) = true := by
  rcases hk with rfl | rfl | rfl
  · rw [HL1, mst1]; exact chk1
  · rw [HL2, mst2]; exact chk2
  · rw [HL3, mst3]; exact chk3
theorem sgL {t : List Row} (h : hv t) : ∀ d ∈ t, sg d.1 := by
  intro d hd
  obtain ⟨i, hi, rfl⟩ := List.mem_iff_getElem.1 hd
  have := (h.2 i hi).2.2
  simpa [List.getD_eq_getElem?_getD, List.getElem?_eq_getElem hi] using this
theorem plan_cases {k : Int} (hk : k = 1 ∨ k = 2 ∨ k = 3) {n : Nat} (h1 : 1 ≤ n) (h2 : n ≤ 13) :
    (∃ p, fl (HL k) n 0 0 0 = some p ∧ 3 ≤ n ∧ n ≤ mst k ∧ p.length = n ∧ tb p ∧ lv p ∧ ap p ∧ gr p) ∨ (fl (HL k) n 0 0 0 = none ∧ ¬ (3 ≤ n ∧ n ≤ mst k)) := by
  have hc := List.all_eq_true.1 (chkL hk) (n - 1) (by simp; omega)
  rw [show n - 1 + 1 = n by omega, fp_eq _ _ _ _ _ (sgL (hvL hk))] at hc
  split at hc
  · rename_i p hp
    left
    simp only [Bool.and_eq_true, decide_eq_true_eq, okp] at hc
    refine ⟨p, hp, hc.1.1, hc.1.2, hc.2.1.1, hc.2.1.2.1, hc.2.1.2.2.1, hc.2.1.2.2.2, fun i hi => ?_⟩
    have ht := hc.2.1.2.1
    have hl := List.all_eq_true.1 hc.2.2 (List.getD p i row0) (by simp [List.getD_eq_getElem?_getD, List.getElem?_eq_getElem hi])
    simp only [beq_iff_eq] at hl
    have h5 := (ht.2.2.2.2 i hi).1
    have h6 := ht.2.2.2.1
    exact ⟨by simp only [lim]; omega, fun hb => by rw [hl] at hb; cases hb⟩
  · rename_i hp
    right
    simp only [Bool.not_eq_true', decide_eq_false_iff_not] at hc
    exact ⟨hp, hc⟩

end Go.Proofs.Weg
