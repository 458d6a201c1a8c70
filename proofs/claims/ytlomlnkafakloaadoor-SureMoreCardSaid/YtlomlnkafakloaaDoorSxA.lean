/- Alternating forms of integer vectors, put together vector by vector. -/

set_option linter.unusedSimpArgs false
set_option linter.unusedVariables false
set_option linter.unnecessarySimpa false
namespace Go.Proofs.Sur
set_option maxHeartbeats 1000000

/-- sums -/
def sm : Nat → (Nat → Int) → Int
  | 0, _ => 0
  | d + 1, f => sm d f + f d
theorem sm_congr : ∀ (d : Nat) {f g : Nat → Int}, (∀ i, i < d → f i = g i) → sm d f = sm d g
  | 0, _, _, _ => rfl
  | d + 1, f, g, h => by simp only [sm]; rw [sm_congr d (fun i hi => h i (by omega)), h d (by omega)]
theorem sm_zero : ∀ (d : Nat) {f : Nat → Int}, (∀ i, i < d → f i = 0) → sm d f = 0
  | 0, _, _ => rfl
  | d + 1, f, h => by simp only [sm]; rw [sm_zero d (fun i hi => h i (by omega)), h d (by omega)]; rfl
theorem sm_add : ∀ (d : Nat) (f g : Nat → Int), sm d (fun i => f i + g i) = sm d f + sm d g
  | 0, _, _ => rfl
  | d + 1, f, g => by simp only [sm]; rw [sm_add d f g]; omega
theorem sm_mul (c : Int) : ∀ (d : Nat) (f : Nat → Int), sm d (fun i => c * f i) = c * sm d f
  | 0, _ => by simp [sm]
  | d + 1, f => by simp only [sm]; rw [sm_mul c d f, Int.mul_add]
theorem sm_neg (d : Nat) (f : Nat → Int) : sm d (fun i => -f i) = -sm d f := by
  have := sm_mul (-1) d f
  simpa using this
theorem sm_swap : ∀ (d e : Nat) (f : Nat → Nat → Int), sm d (fun i => sm e (f i)) = sm e (fun j => sm d (fun i => f i j))
  | 0, e, f => by simp only [sm]; exact (sm_zero e (fun _ _ => rfl)).symm
  | d + 1, e, f => by
    simp only [sm]
    rw [sm_swap d e f, ← sm_add]
theorem sm_one : ∀ (d : Nat) {f : Nat → Int} {k : Nat}, k < d → (∀ i, i < d → i ≠ k → f i = 0) → sm d f = f k
  | d + 1, f, k, hk, h => by
    simp only [sm]
    by_cases e : k = d
    · rw [sm_zero d (fun i hi => h i (by omega) (by omega)), e]; omega
    · rw [sm_one d (k := k) (by omega) (fun i hi hne => h i (by omega) hne), h d (by omega) (fun q => e q.symm)]; omega
theorem sm_le : ∀ (d : Nat) {f g : Nat → Int}, (∀ i, i < d → f i ≤ g i) → sm d f ≤ sm d g
  | 0, _, _, _ => Int.le_refl _
  | d + 1, f, g, h => by
    simp only [sm]
    have := sm_le d (fun i hi => h i (by omega))
    have := h d (by omega)
    omega
abbrev Vec := Nat → Int
abbrev Sb := Nat → Bool
def del (S : Sb) (i : Nat) : Sb := fun e => S e && !decide (e = i)
/-- the sign of an element of a set -/
def sg : Nat → Nat → Sb → Int
  | 0, _, _ => 1
  | d + 1, i, S => sg d i S * (if i < d ∧ S d = true then -1 else 1)
theorem sg_congr : ∀ (d : Nat) {i : Nat} {S T : Sb}, (∀ e, i < e → e < d → S e = T e) → sg d i S = sg d i T
  | 0, _, _, _, _ => rfl
  | d + 1, i, S, T, h => by
    simp only [sg]
    rw [sg_congr d (fun e h1 h2 => h e h1 (by omega))]
    by_cases hi : i < d
    · rw [h d hi (by omega)]
    · rw [if_neg (fun q => hi q.1), if_neg (fun q => hi q.1)]
theorem sg_low {d i j : Nat} {S : Sb} (h : j ≤ i) : sg d i (del S j) = sg d i S := sg_congr d (fun e h1 _ => by
  have : ¬ e = j := by omega
  simp [del, this])
theorem sg_high : ∀ (d : Nat) {i j : Nat} {S : Sb}, i < j → j < d → S j = true → sg d i (del S j) = -sg d i S
  | d + 1, i, j, S, h1, h2, h3 => by
    simp only [sg]
    by_cases e : j = d
    · subst e
      have : sg j i (del S j) = sg j i S := sg_congr j (fun e _ he => by
        have : ¬ e = j := by omega
        simp [del, this])
      rw [this, if_neg (fun q => by have := q.2; simp [del] at this), if_pos ⟨h1, h3⟩]
      omega
    · rw [sg_high d h1 (by omega) h3]
      have : del S j d = S d := by
        have : ¬ d = j := fun q => e q.symm
        simp [del, this]
      rw [this, Int.neg_mul]
theorem del_comm (S : Sb) (i j : Nat) : del (del S i) j = del (del S j) i := by
  funext e; simp only [del]; cases S e <;> cases decide (e = i) <;> cases decide (e = j) <;> rfl
/-- one vector more -/
def wg (d : Nat) (w : Sb → Int) (v : Vec) : Sb → Int := fun S => sm d fun i => if S i = true then sg d i S * v i * w (del S i) else 0
theorem wg_lin (d : Nat) (w w' : Sb → Int) (a b : Int) (v : Vec) : wg d (fun S => a * w S + b * w' S) v = fun S => a * wg d w v S + b * wg d w' v S := by
  funext S
  simp only [wg]
  rw [← sm_mul, ← sm_mul, ← sm_add]
  refine sm_congr d fun i _ => ?_
  split
  · rw [Int.mul_add, ← Int.mul_assoc, ← Int.mul_assoc, ← Int.mul_assoc, ← Int.mul_assoc]
    congr 1
    · rw [Int.mul_comm _ a, ← Int.mul_assoc]
    · rw [Int.mul_comm _ b, ← Int.mul_assoc]
      simp only [Int.mul_assoc]
  · simp
theorem wg_vec (d : Nat) (w : Sb → Int) (a b : Int) (v u : Vec) : wg d w (fun c => a * v c + b * u c) = fun S => a * wg d w v S + b * wg d w u S := by
  funext S
  simp only [wg]
  rw [← sm_mul, ← sm_mul, ← sm_add]
  refine sm_congr d fun i _ => ?_
  split
  · rw [Int.mul_add, Int.add_mul]
    congr 1
    · rw [← Int.mul_assoc, Int.mul_comm _ a, Int.mul_assoc, Int.mul_assoc, Int.mul_assoc]
    · rw [← Int.mul_assoc, Int.mul_comm _ b, Int.mul_assoc, Int.mul_assoc, Int.mul_assoc]
  · simp
theorem wg_congr {d : Nat} {w : Sb → Int} {v u : Vec} (h : ∀ c, c < d → v c = u c) : wg d w v = wg d w u := by
  funext S; simp only [wg]
  exact sm_congr d fun i hi => by rw [h i hi]
theorem wg_zero (d : Nat) (v : Vec) : wg d (fun _ => 0) v = fun _ => 0 := by
  funext S; simp only [wg]
  exact sm_zero d fun i _ => by split <;> simp
/-- the same vector twice -/
theorem wg_twice (d : Nat) (w : Sb → Int) (v : Vec) : wg d (wg d w v) v = fun _ => 0 := by
  funext S
  let F : Nat → Nat → Int := fun i j => if S i = true ∧ S j = true ∧ i ≠ j then sg d i S * sg d j (del S i) * (v i * v j) * w (del (del S i) j) else 0
  have e1 : wg d (wg d w v) v S = sm d (fun i => sm d (F i)) := by
    simp only [wg]
    refine sm_congr d fun i hi => ?_
    by_cases hS : S i = true
    · rw [if_pos hS, ← sm_mul]
      refine sm_congr d fun j hj => ?_
      by_cases hT : del S i j = true
      · have hT2 : S j = true ∧ i ≠ j := by
          simp only [del, Bool.and_eq_true, Bool.not_eq_true', decide_eq_false_iff_not] at hT
          exact ⟨hT.1, fun q => hT.2 q.symm⟩
        rw [if_pos hT]
        simp only [F]
        rw [if_pos ⟨hS, hT2.1, hT2.2⟩]
        simp only [Int.mul_assoc, Int.mul_left_comm, Int.mul_comm]
      · have : ¬ (S i = true ∧ S j = true ∧ i ≠ j) := fun q => hT (by
          have : ¬ j = i := fun r => q.2.2 r.symm
          simp [del, q.2.1, this])
        rw [if_neg hT]
        simp only [F]
        rw [if_neg this, Int.mul_zero]
    · rw [if_neg hS]
      refine (sm_zero d fun j _ => ?_).symm
      simp only [F]
      rw [if_neg (fun q => hS q.1)]
  have e2 : ∀ i j, i < d → j < d → F j i = -F i j := by
    intro i j hi hj
    simp only [F]
    by_cases h : S i = true ∧ S j = true ∧ i ≠ j
    · rw [if_pos h, if_pos ⟨h.2.1, h.1, fun q => h.2.2 q.symm⟩, del_comm S j i, Int.mul_comm (v j) (v i)]
      have : sg d j S * sg d i (del S j) = -(sg d i S * sg d j (del S i)) := by
        rcases Nat.lt_or_ge i j with hl | hl
        · rw [sg_high d hl hj h.2.1, sg_low (Nat.le_of_lt hl), Int.mul_neg, Int.mul_comm]
        · have hl : j < i := by have := h.2.2; omega
          rw [sg_high d hl hi h.1, sg_low (Nat.le_of_lt hl), Int.mul_neg, Int.neg_neg, Int.mul_comm]
      rw [this, Int.neg_mul, Int.neg_mul]
    · rw [if_neg h, if_neg (fun q => h ⟨q.2.1, q.1, fun r => q.2.2 r.symm⟩)]; rfl
  have e3 : sm d (fun i => sm d (F i)) = -sm d (fun i => sm d (F i)) := by
    have h2 : sm d (fun j => sm d (fun i => F i j)) = sm d (fun j => - sm d (F j)) := sm_congr d fun j hj => by
      rw [← sm_neg]; exact sm_congr d fun i hi => e2 j i hj hi
    rw [sm_neg] at h2
    rw [← h2]; exact sm_swap d d F
  rw [e1]; omega
end Go.Proofs.Sur

