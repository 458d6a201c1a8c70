/- Vectors exchanged one by one: Cramer's rule, and the rule of three. -/
import Derived.Test.YtlomlnkafakloaaDoorSxB
set_option linter.unusedSimpArgs false
set_option linter.unusedVariables false
set_option linter.unnecessarySimpa false
namespace Go.Proofs.Sur
set_option maxHeartbeats 1000000
variable {d : Nat}
/-- Cramer's rule for these vectors -/
def crm (d : Nat) (V : Nat → Vec) : Prop := ∀ (u : Vec) (c : Nat), c < d → om d V * u c = sm d (fun p => om d (up V p u) * V p c)
theorem crm_st : crm d st := by
  intro u c hc
  rw [om_st, Int.one_mul, sm_one d (k := c) hc (fun i hi hne => by simp only [st]; rw [if_neg (fun q => hne q.symm), Int.mul_zero])]
  rw [om_st_up hc]; simp [st]
theorem sm_two : ∀ (d : Nat) {f : Nat → Int} {k l : Nat}, k < d → l < d → k ≠ l → (∀ i, i < d → i ≠ k → i ≠ l → f i = 0) → sm d f = f k + f l := by
  intro d f k l hk hl hne h
  have e : sm d f = sm d (fun i => (if i = k then f k else 0) + (if i = l then f l else 0)) := sm_congr d fun i hi => by
    by_cases h1 : i = k
    · subst h1; rw [if_pos rfl, if_neg hne]; omega
    · by_cases h2 : i = l
      · subst h2; rw [if_pos rfl, if_neg h1]; omega
      · rw [if_neg h1, if_neg h2, h i hi h1 h2]; rfl
  rw [e, sm_add, sm_one d (k := k) hk (fun i _ hi => if_neg hi), sm_one d (k := l) hl (fun i _ hi => if_neg hi), if_pos rfl, if_pos rfl]
/-- the rule of three -/
theorem three {V : Nat → Vec} (hV : crm d V) {p q : Nat} (hp : p < d) (hq : q < d) (hne : p ≠ q) (b r : Vec) :
    om d V * om d (up (up V q b) p r) = om d (up V q b) * om d (up V p r) - om d (up V q r) * om d (up V p b) := by
  have h1 : om d V * om d (up (up V q b) p r) = om d (up (up V q b) p (fun c => sm d (fun k => om d (up V k r) * V k c))) := by
    rw [← om_mul _ hp]
    refine om_congr fun k _ c hc => ?_
    by_cases e : k = p
    · subst e; rw [up_same, up_same]; exact hV r c hc
    · rw [up_ne _ _ e, up_ne _ _ e]
  rw [h1, om_sum _ hp, sm_two d (k := p) (l := q) hp hq hne (fun k hk h2 h3 => ?_)]
  · have e1 : up (up V q b) p (V p) = up V q b := by
      have := up_self (up V q b) p
      rw [up_ne _ _ hne] at this; exact this
    have e2 : om d (up (up V q b) p (V q)) = -om d (up V p b) := by
      rw [om_swap V hq hp (Ne.symm hne), up_self]
    rw [e1, e2, Int.mul_comm (om d (up V q b))]
    generalize om d (up V p r) * om d (up V q b) = x
    generalize om d (up V q r) = y
    generalize om d (up V p b) = z
    rw [Int.mul_neg]; omega
  · rw [om_two (up (up V q b) p (V k)) hk hp h2 (fun c _ => by rw [up_ne _ _ h2, up_same, up_ne _ _ h3]), Int.mul_zero]
theorem mul_cancel {a x y : Int} (ha : a ≠ 0) (h : a * x = a * y) : x = y := Int.eq_of_mul_eq_mul_left ha h
/-- one vector exchanged -/
theorem crm_up {V : Nat → Vec} (hV : crm d V) (h0 : om d V ≠ 0) {j : Nat} (hj : j < d) (f : Vec) : crm d (up V j f) := by
  intro u c hc
  refine mul_cancel h0 ?_
  rw [← sm_mul]
  have hf := hV f c hc
  have hu := hV u c hc
  have e1 : sm d (fun p => om d V * (om d (up (up V j f) p u) * up V j f p c)) = sm d (fun p => om d (up V j f) * (om d (up V p u) * V p c) + (-om d (up V j u) * (om d (up V p f) * V p c) + (if p = j then om d V * om d (up V j u) * f c else 0))) := sm_congr d fun p hp => by
    by_cases e : p = j
    · subst e
      rw [up_up, up_same, if_pos rfl, Int.mul_assoc]
      generalize om d (up V p f) = x
      generalize om d (up V p u) = y
      have : x * (y * V p c) = y * (x * V p c) := Int.mul_left_comm _ _ _
      rw [this, Int.neg_mul]; omega
    · rw [up_ne _ _ e, if_neg e, ← Int.mul_assoc, three hV hp hj e, Int.sub_mul]
      simp only [Int.mul_assoc, Int.neg_mul]
      omega
  have e2 : sm d (fun i => if i = j then om d V * om d (up V j u) * f c else 0) = om d V * om d (up V j u) * f c := by
    rw [sm_one d (f := fun i => if i = j then om d V * om d (up V j u) * f c else 0) (k := j) hj (fun i _ hi => if_neg hi), if_pos rfl]
  rw [e1, sm_add, sm_add, sm_mul, sm_mul, ← hf, ← hu, e2]
  generalize om d V = a
  generalize om d (up V j f) = x
  generalize om d (up V j u) = y
  have h1 : a * (x * u c) = x * (a * u c) := Int.mul_left_comm _ _ _
  have h2 : -y * (a * f c) = -(a * y * f c) := by rw [Int.neg_mul, Int.mul_left_comm, Int.mul_assoc]
  rw [h1, h2]; omega
/-- what stands at one place is linear -/
theorem om_lc (V : Nat → Vec) {j : Nat} (hj : j < d) (f : Vec) : om d (up V j f) = sm d (fun c => f c * om d (up V j (st c))) := by
  rw [← om_sum _ hj]
  refine om_congr fun p _ c hc => ?_
  by_cases e : p = j
  · subst e
    rw [up_same, up_same, sm_one d (k := c) hc (fun i hi hne => by simp only [st]; rw [if_neg (fun q => hne q.symm), Int.mul_zero])]
    simp [st]
  · rw [up_ne _ _ e, up_ne _ _ e]
end Go.Proofs.Sur

