/- Layer 5: determinants of rows of one sign are small. -/
import Derived.Test.YtlomlnkafakloaaDoorSxE
set_option linter.unusedSimpArgs false
set_option linter.unusedVariables false
set_option linter.unnecessarySimpa false
set_option maxHeartbeats 1000000
namespace Go.Proofs.Sur

/-- pairs of a set below a number -/
def cp : Nat → Sb → Nat
  | 0, _ => 0
  | d + 1, S => cp d S + if S d = true then cd' d S else 0
theorem cp_eq : ∀ (d : Nat) (S : Sb), 2 * cp d S + cd' d S = cd' d S * cd' d S
  | 0, _ => rfl
  | d + 1, S => by
    have ih := cp_eq d S
    simp only [cp, cd']
    by_cases h : S d = true
    · rw [if_pos h, if_pos h]; simp only [Nat.add_mul, Nat.mul_add, Nat.mul_one, Nat.one_mul]; omega
    · rw [if_neg h, if_neg h]; exact ih
theorem sm_pair (K : Nat) (S : Sb) (F : Nat → Nat → Int) (hd : ∀ i, F i i = 0) (h0 : ∀ i j, S i = false ∨ S j = false → F i j = 0) : ∀ d, (∀ i j, i < d → j < d → (F i j + F j i).natAbs ≤ K) → (sm d (fun i => sm d (F i))).natAbs ≤ cp d S * K
  | 0, _ => by simp [sm]
  | d + 1, hK => by
    have ih := sm_pair K S F hd h0 d (fun i j hi hj => hK i j (by omega) (by omega))
    have e : sm (d + 1) (fun i => sm (d + 1) (F i)) = sm d (fun i => sm d (F i)) + sm d (fun i => F i d + F d i) := by
      simp only [sm]
      rw [sm_add, sm_add, hd d]
      have : sm d (fun i => F d i) = sm d (F d) := rfl
      rw [this]; omega
    rw [e]
    have h2 : (sm d (fun i => F i d + F d i)).natAbs ≤ (if S d = true then cd' d S else 0) * K := by
      by_cases h : S d = true
      · rw [if_pos h]
        exact sm_abs d (fun i _ hi => by rw [h0 i d (.inl hi), h0 d i (.inr hi)]; rfl) (fun i hi _ => hK i d (by omega) (by omega))
      · have h' : S d = false := by simpa using h
        rw [if_neg h, sm_zero d (fun i _ => by rw [h0 i d (.inr h'), h0 d i (.inl h')]; rfl)]; simp
    have h3 := Int.natAbs_add_le (sm d (fun i => sm d (F i))) (sm d (fun i => F i d + F d i))
    simp only [cp]
    rw [Nat.add_mul]; omega
/-- two rows of one sign -/
def sgn1 (d : Nat) (v : Vec) : Prop := (∀ c, 1 ≤ c → c < d → v c = 0 ∨ v c = 1) ∨ ∀ c, 1 ≤ c → c < d → v c = 0 ∨ v c = -1
theorem two_abs {d : Nat} {u v : Vec} (hu : sgn1 d u) (hv : sgn1 d v) {i j : Nat} (hi : 1 ≤ i ∧ i < d) (hj : 1 ≤ j ∧ j < d) : (u i * v j - u j * v i).natAbs ≤ 1 := by
  rcases hu with hu | hu <;> rcases hv with hv | hv <;>
  rcases hu i hi.1 hi.2 with a | a <;> rcases hu j hj.1 hj.2 with b | b <;> rcases hv i hi.1 hi.2 with c | c <;> rcases hv j hj.1 hj.2 with e | e <;> rw [a, b, c, e] <;> decide
/-- both at once: w is small, and nothing where no set is -/
theorem wg_two {d : Nat} {w : Sb → Int} {u v : Vec} {k K : Nat} (hd : 0 < d) (hu : sgn1 d u) (hv : sgn1 d v) (w0 : ∀ S, S 0 = false → w S = 0) (wK : ∀ S, S 0 = true → cd' d S = k → (w S).natAbs ≤ K)
    {S : Sb} (hS : S 0 = true) (hk : cd' d S = k + 2) : (wg d (wg d w v) u S).natAbs ≤ cp d (del S 0) * K := by
  let F : Nat → Nat → Int := fun i j => if S i = true ∧ S j = true ∧ i ≠ j then sg d i S * sg d j (del S i) * (u i * v j) * w (del (del S i) j) else 0
  have e1 : wg d (wg d w v) u S = sm d (fun i => sm d (F i)) := by
    simp only [wg]
    refine sm_congr d fun i hi => ?_
    by_cases hS : S i = true
    · rw [if_pos hS, ← sm_mul]
      refine sm_congr d fun j hj => ?_
      by_cases hT : del S i j = true
      · have hT2 : S j = true ∧ i ≠ j := by
          simp only [del, Bool.and_eq_true, Bool.not_eq_true', decide_eq_false_iff_not] at hT
          exact ⟨hT.1, fun q => hT.2 q.symm⟩
        rw [if_pos hT]
        simp only [F]
        rw [if_pos ⟨hS, hT2.1, hT2.2⟩]
        simp only [Int.mul_assoc, Int.mul_left_comm, Int.mul_comm]
      · have : ¬ (S i = true ∧ S j = true ∧ i ≠ j) := fun q => hT (by
          have : ¬ j = i := fun r => q.2.2 r.symm
          simp [del, q.2.1, this])
        rw [if_neg hT]
        simp only [F]
        rw [if_neg this, Int.mul_zero]
    · rw [if_neg hS]
      refine (sm_zero d fun j _ => ?_).symm
      simp only [F]
      rw [if_neg (fun q => hS q.1)]
  rw [e1]
  refine sm_pair K (del S 0) F (fun i => by simp only [F]; rw [if_neg (fun q => q.2.2 rfl)]) (fun i j h => ?_) d (fun i j hi hj => ?_)
  · simp only [F]
    by_cases q : S i = true ∧ S j = true ∧ i ≠ j
    · rw [if_pos q, w0 _ (by
        rcases h with h | h
        · have : i = 0 := by simpa [del, q.1] using h
          subst this; simp [del]
        · have : j = 0 := by simpa [del, q.2.1] using h
          subst this; simp [del]), Int.mul_zero]
    · rw [if_neg q]
  · by_cases q : S i = true ∧ S j = true ∧ i ≠ j
    · have es : sg d j S * sg d i (del S j) = -(sg d i S * sg d j (del S i)) := by
        rcases Nat.lt_or_ge i j with hl | hl
        · rw [sg_high d hl hj q.2.1, sg_low (Nat.le_of_lt hl), Int.mul_neg, Int.mul_comm]
        · have hl : j < i := by have := q.2.2; omega
          rw [sg_high d hl hi q.1, sg_low (Nat.le_of_lt hl), Int.mul_neg, Int.neg_neg, Int.mul_comm]
      have e2 : F i j + F j i = sg d i S * sg d j (del S i) * (u i * v j - u j * v i) * w (del (del S i) j) := by
        simp only [F]
        rw [if_pos q, if_pos ⟨q.2.1, q.1, fun r => q.2.2 r.symm⟩, del_comm S j i, es, ← Int.add_mul, Int.neg_mul, Int.mul_sub]
        rfl
      rw [e2]
      by_cases z : i = 0 ∨ j = 0
      · rw [w0 _ (by rcases z with rfl | rfl <;> simp [del]), Int.mul_zero]; simp
      · have hi1 : 1 ≤ i := by omega
        have hj1 : 1 ≤ j := by omega
        have c1 := cd_del d hi q.1
        have c2 := cd_del d (S := del S i) hj (by
          have : ¬ j = i := fun r => q.2.2 r.symm
          simp [del, q.2.1, this])
        have c3 := wK (del (del S i) j) (by
          have a : ¬ 0 = i := by omega
          have b : ¬ 0 = j := by omega
          simp [del, hS, a, b]) (by omega)
        have c4 := two_abs hu hv ⟨hi1, hi⟩ ⟨hj1, hj⟩
        simp only [Int.natAbs_mul, sg_abs, Nat.one_mul]
        have := Nat.mul_le_mul c4 c3
        omega
    · have e2 : F i j + F j i = 0 := by
        simp only [F]
        rw [if_neg q, if_neg (fun r => q ⟨r.2.1, r.1, fun s => r.2.2 s.symm⟩)]; rfl
      rw [e2]; simp
theorem w_none {d : Nat} {V : Nat → Vec} (h0 : ∀ c, c < d → V 0 c = st 0 c) (hd : 0 < d) : ∀ q, sml d V (q + 1) → ∀ S, S 0 = false → ww d V (q + 1) S = 0 := fun q h S => (ww_abs0 h0 hd q h S).1
/-- six rows -/
theorem om_six {V : Nat → Vec} (h0 : ∀ c, c < 7 → V 0 c = st 0 c) (h : sml 7 V 7) (hs : ∀ p, 1 ≤ p → p < 7 → sgn1 7 (V p)) : (om 7 V).natAbs ≤ 90 := by
  have cpd : ∀ (S : Sb) (k : Nat), S 0 = true → cd' 7 S = k + 1 → 2 * cp 7 (del S 0) + k = k * k := fun S k h1 h2 => by
    have a := cd_del 7 (by omega) h1
    have b := cp_eq 7 (del S 0)
    have c : cd' 7 (del S 0) = k := by omega
    rw [c] at b; exact b
  have a1 : ∀ S, S 0 = true → cd' 7 S = 1 → (ww 7 V 1 S).natAbs ≤ 1 := fun S h1 h2 => by
    have := (ww_abs0 h0 (by omega) 0 (fun p hp => h p (by omega)) S).2 h1
    rw [h2] at this; exact this
  have a3 : ∀ S, S 0 = true → cd' 7 S = 3 → (ww 7 V 3 S).natAbs ≤ 1 := fun S h1 h2 => by
    have := wg_two (w := ww 7 V 1) (k := 1) (K := 1) (by omega) (hs 2 (by omega) (by omega)) (hs 1 (by omega) (by omega)) (w_none h0 (by omega) 0 (fun p hp => h p (by omega))) a1 h1 h2
    have c := cpd S 2 h1 h2
    have : (ww 7 V 3 S).natAbs ≤ cp 7 (del S 0) * 1 := this
    omega
  have a5 : ∀ S, S 0 = true → cd' 7 S = 5 → (ww 7 V 5 S).natAbs ≤ 6 := fun S h1 h2 => by
    have := wg_two (w := ww 7 V 3) (k := 3) (K := 1) (by omega) (hs 4 (by omega) (by omega)) (hs 3 (by omega) (by omega)) (w_none h0 (by omega) 2 (fun p hp => h p (by omega))) a3 h1 h2
    have c := cpd S 4 h1 h2
    have : (ww 7 V 5 S).natAbs ≤ cp 7 (del S 0) * 1 := this
    omega
  have h1 : ful' 7 0 = true := by simp [ful']
  have h2 : cd' 7 (ful' 7) = 7 := cd_ful 7 7 (Nat.le_refl _)
  have := wg_two (w := ww 7 V 5) (k := 5) (K := 6) (by omega) (hs 6 (by omega) (by omega)) (hs 5 (by omega) (by omega)) (w_none h0 (by omega) 4 (fun p hp => h p (by omega))) a5 h1 h2
  have c := cpd (ful' 7) 6 h1 h2
  have : (om 7 V).natAbs ≤ cp 7 (del (ful' 7) 0) * 6 := this
  omega
theorem fac_le5 {n : Nat} (h : n ≤ 5) : fac n ≤ 120 := by
  have : n = 0 ∨ n = 1 ∨ n = 2 ∨ n = 3 ∨ n = 4 ∨ n = 5 := by omega
  rcases this with rfl | rfl | rfl | rfl | rfl | rfl <;> decide
theorem Lp.s_120 {n m : Nat} {b : Nat → Nat → Bool} {N : Nat → Nat} {σ : Int} {R B : List Int} {s : Int} (h : Lp n m b N σ R B s) (hn : n ≤ 6) : s ≤ 120 := by
  have h0 : ∀ c, c < n + 1 → vv n b N 0 c = st 0 c := fun c _ => by simp only [vv, if_true]
  have h2 := sg_mul h.sg (om (n + 1) (vv n b N))
  rw [← h.eqs] at h2
  have hp := h.pos
  by_cases h6 : n = 6
  · subst h6
    have h1 := om_six h0 (fun p _ c _ => vv_abs N p c) (fun p hp1 _ => by
      have e : vv 6 b N p = vc 6 b (N p) := by simp only [vv]; rw [if_neg (by omega)]
      rw [e]
      by_cases hu : N p < 6
      · left; intro c _ _
        simp only [vc, if_pos hu, st]
        split <;> simp
      · right; intro c hc1 _
        simp only [vc, if_neg hu]
        rw [if_neg (by omega)]
        split <;> simp)
    have h1 : (om (6 + 1) (vv 6 b N)).natAbs ≤ 90 := h1
    omega
  · have h1 := om_abs0 h0 (fun p _ c _ => vv_abs N p c)
    have := fac_le5 (n := n) (by omega)
    omega
end Go.Proofs.Sur

