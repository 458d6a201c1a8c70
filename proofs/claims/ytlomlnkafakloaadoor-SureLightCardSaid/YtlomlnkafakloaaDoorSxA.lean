/- Joined: SxA, SxB. -/

set_option linter.unusedSimpArgs false
set_option linter.unusedVariables false
set_option linter.unnecessarySimpa false
section
namespace Go.Proofs.Sur
set_option maxHeartbeats 1000000

def sm : Nat → (Nat → Int) → Int
  | 0, _ => 0
  | d + 1, f => sm d f + f d
theorem sm_congr : ∀ (d : Nat) {f g : Nat → Int}, (∀ i, i < d → f i = g i) → sm d f = sm d g
  | 0, _, _, _ => rfl
  | d + 1, f, g, h => by simp only [sm]; rw [sm_congr d (fun i hi => h i (by omega)), h d (by omega)]
theorem sm_zero : ∀ (d : Nat) {f : Nat → Int}, (∀ i, i < d → f i = 0) → sm d f = 0
  | 0, _, _ => rfl
  | d + 1, f, h => by simp only [sm]; rw [sm_zero d (fun i hi => h i (by omega)), h d (by omega)]; rfl
theorem sm_add : ∀ (d : Nat) (f g : Nat → Int), sm d (fun i => f i + g i) = sm d f + sm d g
  | 0, _, _ => rfl
  | d + 1, f, g => by simp only [sm]; rw [sm_add d f g]; omega
theorem sm_mul (c : Int) : ∀ (d : Nat) (f : Nat → Int), sm d (fun i => c * f i) = c * sm d f
  | 0, _ => by simp [sm]
  | d + 1, f => by simp only [sm]; rw [sm_mul c d f, Int.mul_add]
theorem sm_neg (d : Nat) (f : Nat → Int) : sm d (fun i => -f i) = -sm d f := by
  have := sm_mul (-1) d f
  simpa using this
theorem sm_swap : ∀ (d e : Nat) (f : Nat → Nat → Int), sm d (fun i => sm e (f i)) = sm e (fun j => sm d (fun i => f i j))
  | 0, e, f => by simp only [sm]; exact (sm_zero e (fun _ _ => rfl)).symm
  | d + 1, e, f => by
    simp only [sm]
    rw [sm_swap d e f, ← sm_add]
theorem sm_one : ∀ (d : Nat) {f : Nat → Int} {k : Nat}, k < d → (∀ i, i < d → i ≠ k → f i = 0) → sm d f = f k
  | d + 1, f, k, hk, h => by
    simp only [sm]
    by_cases e : k = d
    · rw [sm_zero d (fun i hi => h i (by omega) (by omega)), e]; omega
    · rw [sm_one d (k := k) (by omega) (fun i hi hne => h i (by omega) hne), h d (by omega) (fun q => e q.symm)]; omega
theorem sm_le : ∀ (d : Nat) {f g : Nat → Int}, (∀ i, i < d → f i ≤ g i) → sm d f ≤ sm d g
  | 0, _, _, _ => Int.le_refl _
  | d + 1, f, g, h => by
    simp only [sm]
    have := sm_le d (fun i hi => h i (by omega))
    have := h d (by omega)
    omega
abbrev Vec := Nat → Int
abbrev Sb := Nat → Bool
def del (S : Sb) (i : Nat) : Sb := fun e => S e && !decide (e = i)
def sg : Nat → Nat → Sb → Int
  | 0, _, _ => 1
  | d + 1, i, S => sg d i S * (if i < d ∧ S d = true then -1 else 1)
theorem sg_congr : ∀ (d : Nat) {i : Nat} {S T : Sb}, (∀ e, i < e → e < d → S e = T e) → sg d i S = sg d i T
  | 0, _, _, _, _ => rfl
  | d + 1, i, S, T, h => by
    simp only [sg]
    rw [sg_congr d (fun e h1 h2 => h e h1 (by omega))]
    by_cases hi : i < d
    · rw [h d hi (by omega)]
    · rw [if_neg (fun q => hi q.1), if_neg (fun q => hi q.1)]
theorem sg_low {d i j : Nat} {S : Sb} (h : j ≤ i) : sg d i (del S j) = sg d i S := sg_congr d (fun e h1 _ => by
  have : ¬ e = j := by omega
  simp [del, this])
theorem sg_high : ∀ (d : Nat) {i j : Nat} {S : Sb}, i < j → j < d → S j = true → sg d i (del S j) = -sg d i S
  | d + 1, i, j, S, h1, h2, h3 => by
    simp only [sg]
    by_cases e : j = d
    · subst e
      have : sg j i (del S j) = sg j i S := sg_congr j (fun e _ he => by
        have : ¬ e = j := by omega
        simp [del, this])
      rw [this, if_neg (fun q => by have := q.2; simp [del] at this), if_pos ⟨h1, h3⟩]
      omega
    · rw [sg_high d h1 (by omega) h3]
      have : del S j d = S d := by
        have : ¬ d = j := fun q => e q.symm
        simp [del, this]
      rw [this, Int.neg_mul]
theorem del_comm (S : Sb) (i j : Nat) : del (del S i) j = del (del S j) i := by
  funext e; simp only [del]; cases S e <;> cases decide (e = i) <;> cases decide (e = j) <;> rfl
def wg (d : Nat) (w : Sb → Int) (v : Vec) : Sb → Int := fun S => sm d fun i => if S i = true then sg d i S * v i * w (del S i) else 0
theorem wg_lin (d : Nat) (w w' : Sb → Int) (a b : Int) (v : Vec) : wg d (fun S => a * w S + b * w' S) v = fun S => a * wg d w v S + b * wg d w' v S := by
  funext S
  simp only [wg]
  rw [← sm_mul, ← sm_mul, ← sm_add]
  refine sm_congr d fun i _ => ?_
  split
  · rw [Int.mul_add, ← Int.mul_assoc, ← Int.mul_assoc, ← Int.mul_assoc, ← Int.mul_assoc]
    congr 1
    · rw [Int.mul_comm _ a, ← Int.mul_assoc]
    · rw [Int.mul_comm _ b, ← Int.mul_assoc]
      simp only [Int.mul_assoc]
  · simp
theorem wg_vec (d : Nat) (w : Sb → Int) (a b : Int) (v u : Vec) : wg d w (fun c => a * v c + b * u c) = fun S => a * wg d w v S + b * wg d w u S := by
  funext S
  simp only [wg]
  rw [← sm_mul, ← sm_mul, ← sm_add]
  refine sm_congr d fun i _ => ?_
  split
  · rw [Int.mul_add, Int.add_mul]
    congr 1
    · rw [← Int.mul_assoc, Int.mul_comm _ a, Int.mul_assoc, Int.mul_assoc, Int.mul_assoc]
    · rw [← Int.mul_assoc, Int.mul_comm _ b, Int.mul_assoc, Int.mul_assoc, Int.mul_assoc]
  · simp
theorem wg_congr {d : Nat} {w : Sb → Int} {v u : Vec} (h : ∀ c, c < d → v c = u c) : wg d w v = wg d w u := by
  funext S; simp only [wg]
  exact sm_congr d fun i hi => by rw [h i hi]
theorem wg_zero (d : Nat) (v : Vec) : wg d (fun _ => 0) v = fun _ => 0 := by
  funext S; simp only [wg]
  exact sm_zero d fun i _ => by split <;> simp
theorem wg_twice (d : Nat) (w : Sb → Int) (v : Vec) : wg d (wg d w v) v = fun _ => 0 := by
  funext S
  let F : Nat → Nat → Int := fun i j => if S i = true ∧ S j = true ∧ i ≠ j then sg d i S * sg d j (del S i) * (v i * v j) * w (del (del S i) j) else 0
  have e1 : wg d (wg d w v) v S = sm d (fun i => sm d (F i)) := by
    simp only [wg]
    refine sm_congr d fun i hi => ?_
    by_cases hS : S i = true
    · rw [if_pos hS, ← sm_mul]
      refine sm_congr d fun j hj => ?_
      by_cases hT : del S i j = true
      · have hT2 : S j = true ∧ i ≠ j := by
          simp only [del, Bool.and_eq_true, Bool.not_eq_true', decide_eq_false_iff_not] at hT
          exact ⟨hT.1, fun q => hT.2 q.symm⟩
        rw [if_pos hT]
        simp only [F]
        rw [if_pos ⟨hS, hT2.1, hT2.2⟩]
        simp only [Int.mul_assoc, Int.mul_left_comm, Int.mul_comm]
      · have : ¬ (S i = true ∧ S j = true ∧ i ≠ j) := fun q => hT (by
          have : ¬ j = i := fun r => q.2.2 r.symm
          simp [del, q.2.1, this])
        rw [if_neg hT]
        simp only [F]
        rw [if_neg this, Int.mul_zero]
    · rw [if_neg hS]
      refine (sm_zero d fun j _ => ?_).symm
      simp only [F]
      rw [if_neg (fun q => hS q.1)]
  have e2 : ∀ i j, i < d → j < d → F j i = -F i j := by
    intro i j hi hj
    simp only [F]
    by_cases h : S i = true ∧ S j = true ∧ i ≠ j
    · rw [if_pos h, if_pos ⟨h.2.1, h.1, fun q => h.2.2 q.symm⟩, del_comm S j i, Int.mul_comm (v j) (v i)]
      have : sg d j S * sg d i (del S j) = -(sg d i S * sg d j (del S i)) := by
        rcases Nat.lt_or_ge i j with hl | hl
        · rw [sg_high d hl hj h.2.1, sg_low (Nat.le_of_lt hl), Int.mul_neg, Int.mul_comm]
        · have hl : j < i := by have := h.2.2; omega
          rw [sg_high d hl hi h.1, sg_low (Nat.le_of_lt hl), Int.mul_neg, Int.neg_neg, Int.mul_comm]
      rw [this, Int.neg_mul, Int.neg_mul]
    · rw [if_neg h, if_neg (fun q => h ⟨q.2.1, q.1, fun r => q.2.2 r.symm⟩)]; rfl
  have e3 : sm d (fun i => sm d (F i)) = -sm d (fun i => sm d (F i)) := by
    have h2 : sm d (fun j => sm d (fun i => F i j)) = sm d (fun j => - sm d (F j)) := sm_congr d fun j hj => by
      rw [← sm_neg]; exact sm_congr d fun i hi => e2 j i hj hi
    rw [sm_neg] at h2
    rw [← h2]; exact sm_swap d d F
  rw [e1]; omega
end Go.Proofs.Sur
end
section
namespace Go.Proofs.Sur
set_option maxHeartbeats 1000000

def w00 (d : Nat) : Sb → Int := fun S => if (List.range d).all (fun i => !S i) = true then 1 else 0
def ww (d : Nat) (V : Nat → Vec) : Nat → Sb → Int
  | 0 => w00 d
  | p + 1 => wg d (ww d V p) (V p)
def ful' (d : Nat) : Sb := fun i => decide (i < d)
def om (d : Nat) (V : Nat → Vec) : Int := ww d V d (ful' d)
def up (V : Nat → Vec) (j : Nat) (f : Vec) : Nat → Vec := fun p => if p = j then f else V p
theorem up_same (V : Nat → Vec) (j : Nat) (f : Vec) : up V j f j = f := if_pos rfl
theorem up_ne (V : Nat → Vec) {j p : Nat} (f : Vec) (h : p ≠ j) : up V j f p = V p := if_neg h
theorem up_up (V : Nat → Vec) (j : Nat) (f g : Vec) : up (up V j f) j g = up V j g := by
  funext p; simp only [up]; split <;> rfl
theorem up_comm (V : Nat → Vec) {i j : Nat} (h : i ≠ j) (f g : Vec) : up (up V i f) j g = up (up V j g) i f := by
  funext p; simp only [up]
  by_cases h1 : p = j
  · subst h1; rw [if_pos rfl, if_neg (fun q => h q.symm), if_pos rfl]
  · rw [if_neg h1]
    by_cases h2 : p = i
    · rw [if_pos h2, if_pos h2]
    · rw [if_neg h2, if_neg h2, if_neg h1]
theorem up_self (V : Nat → Vec) (j : Nat) : up V j (V j) = V := by
  funext p; simp only [up]; split
  · rename_i h; rw [h]
  · rfl
variable {d : Nat}
theorem ww_congr {V U : Nat → Vec} : ∀ q, (∀ p, p < q → ∀ c, c < d → V p c = U p c) → ww d V q = ww d U q
  | 0, _ => rfl
  | q + 1, h => by
    simp only [ww]
    rw [ww_congr q (fun p hp => h p (by omega)), wg_congr (h q (by omega))]
theorem om_congr {V U : Nat → Vec} (h : ∀ p, p < d → ∀ c, c < d → V p c = U p c) : om d V = om d U := by
  rw [om, om, ww_congr d h]
theorem ww_lin (V : Nat → Vec) {j : Nat} (a b : Int) (f g : Vec) : ∀ q, j < q → ww d (up V j (fun c => a * f c + b * g c)) q = fun S => a * ww d (up V j f) q S + b * ww d (up V j g) q S
  | q + 1, h => by
    simp only [ww]
    by_cases e : q = j
    · subst e
      have h1 : ∀ u, ww d (up V q u) q = ww d V q := fun u => ww_congr q fun p hp c _ => by rw [up_ne _ _ (by omega)]
      rw [h1, h1, h1, up_same, up_same, up_same, wg_vec]
    · rw [up_ne _ _ e, up_ne _ _ e, up_ne _ _ e, ww_lin V a b f g q (by omega), wg_lin]
theorem om_lin (V : Nat → Vec) {j : Nat} (hj : j < d) (a b : Int) (f g : Vec) : om d (up V j (fun c => a * f c + b * g c)) = a * om d (up V j f) + b * om d (up V j g) := by
  simp only [om]; rw [ww_lin V a b f g d hj]
theorem om_zero (V : Nat → Vec) {j : Nat} (hj : j < d) : om d (up V j (fun _ => 0)) = 0 := by
  have := om_lin V hj 0 0 (V j) (V j)
  simpa using this
theorem om_add (V : Nat → Vec) {j : Nat} (hj : j < d) (f g : Vec) : om d (up V j (fun c => f c + g c)) = om d (up V j f) + om d (up V j g) := by
  have := om_lin V hj 1 1 f g
  simpa using this
theorem om_mul (V : Nat → Vec) {j : Nat} (hj : j < d) (a : Int) (f : Vec) : om d (up V j (fun c => a * f c)) = a * om d (up V j f) := by
  have := om_lin V hj a 0 f f
  simpa using this
theorem om_sum (V : Nat → Vec) {j : Nat} (hj : j < d) (F : Nat → Vec) (a : Nat → Int) : ∀ k, om d (up V j (fun c => sm k (fun i => a i * F i c))) = sm k (fun i => a i * om d (up V j (F i)))
  | 0 => by simp only [sm]; exact om_zero V hj
  | k + 1 => by
    simp only [sm]
    have := om_lin V hj 1 (a k) (fun c => sm k (fun i => a i * F i c)) (F k)
    simp only [Int.one_mul] at this
    rw [this, om_sum V hj F a k]
theorem ww_dead (V : Nat → Vec) {p : Nat} (h : ∀ c, c < d → V p c = V (p + 1) c) : ∀ q, p + 2 ≤ q → ww d V q = fun _ => 0
  | 0, hq => absurd hq (by omega)
  | q + 1, hq => by
    by_cases e : q = p + 1
    · subst e
      simp only [ww]
      rw [wg_congr (v := V p) (u := V (p + 1)) h, wg_twice]
    · simp only [ww]
      rw [ww_dead V h q (by omega), wg_zero]
theorem om_adj (V : Nat → Vec) {p : Nat} (hp : p + 1 < d) (h : ∀ c, c < d → V p c = V (p + 1) c) : om d V = 0 := by
  rw [om, ww_dead V h d (by omega)]
theorem om_swap' (V : Nat → Vec) {i j : Nat} (hi : i < d) (hj : j < d) (hne : i ≠ j) (h0 : ∀ u : Vec, om d (up (up V i u) j u) = 0) (f g : Vec) : om d (up (up V i f) j g) = -om d (up (up V i g) j f) := by
  have h1 := h0 (fun c => f c + g c)
  rw [om_add _ hj, up_comm V hne, up_comm V hne, om_add _ hi, om_add _ hi, ← up_comm V hne, ← up_comm V hne, ← up_comm V hne, ← up_comm V hne, h0 f, h0 g] at h1
  omega
theorem om_eq (V : Nat → Vec) : ∀ (k : Nat) {i j : Nat}, j = i + k + 1 → j < d → (∀ c, c < d → V i c = V j c) → om d V = 0
  | 0, i, j, hj, hd, h => om_adj V (p := i) (by omega) (by rw [hj] at h; exact h)
  | k + 1, i, j, hj, hd, h => by
    have hV : V = up (up V (i + k + 1) (V (i + k + 1))) j (V j) := by rw [up_self, up_self]
    rw [hV, om_swap' V (by omega) hd (by omega) (fun u => ?_), om_eq (up (up V (i + k + 1) (V j)) j (V (i + k + 1))) k (i := i) (j := i + k + 1) rfl (by omega) (fun c hc => ?_)]
    · rfl
    · rw [up_ne _ _ (by omega), up_ne _ _ (by omega), up_ne _ _ (by omega), up_same]; exact h c hc
    · refine om_adj _ (p := i + k + 1) (by omega) (fun c _ => ?_)
      rw [up_ne _ _ (by omega), up_same, show i + k + 1 + 1 = j from by omega, up_same]
theorem om_two (V : Nat → Vec) {i j : Nat} (hi : i < d) (hj : j < d) (hne : i ≠ j) (h : ∀ c, c < d → V i c = V j c) : om d V = 0 := by
  rcases Nat.lt_or_ge i j with hl | hl
  · exact om_eq V (j - i - 1) (by omega) hj h
  · exact om_eq V (i - j - 1) (i := j) (j := i) (by omega) hi (fun c hc => (h c hc).symm)
theorem om_dup (V : Nat → Vec) {i j : Nat} (hi : i < d) (hj : j < d) (hne : i ≠ j) (u : Vec) : om d (up (up V i u) j u) = 0 :=
  om_two _ hi hj hne fun c _ => by rw [up_ne _ _ hne, up_same, up_same]
theorem om_swap (V : Nat → Vec) {i j : Nat} (hi : i < d) (hj : j < d) (hne : i ≠ j) (f g : Vec) : om d (up (up V i f) j g) = -om d (up (up V i g) j f) :=
  om_swap' V hi hj hne (om_dup V hi hj hne) f g
theorem om_at (V : Nat → Vec) {i j : Nat} (hi : i < d) (hj : j < d) (hne : i ≠ j) : om d (up V j (V i)) = 0 :=
  om_two _ hi hj hne fun c _ => by rw [up_ne _ _ hne, up_same]
def st (p : Nat) : Vec := fun c => if c = p then 1 else 0
theorem sg_one : ∀ (d : Nat) {i : Nat} {S : Sb}, (∀ e, i < e → e < d → S e = false) → sg d i S = 1
  | 0, _, _, _ => rfl
  | d + 1, i, S, h => by
    simp only [sg]
    rw [sg_one d (fun e h1 h2 => h e h1 (by omega)), if_neg (fun q => by rw [h d q.1 (by omega)] at q; cases q.2)]; rfl
theorem ww_st : ∀ q, q ≤ d → ∀ S, ww d st q S = if (List.range d).all (fun e => S e == decide (e < q)) = true then 1 else 0
  | 0, _, S => by
    simp only [ww, w00]
    congr 2
    simp
  | q + 1, hq, S => by
    simp only [ww, wg]
    have h1 : sm d (fun i => if S i = true then sg d i S * st q i * ww d st q (del S i) else 0) = (if S q = true then sg d q S * st q q * ww d st q (del S q) else 0) := by
      refine sm_one d (by omega) (fun i hi hne => ?_)
      split
      · simp [st, hne]
      · rfl
    rw [h1, ww_st q (by omega)]
    by_cases hS : ∀ e, e < d → S e = decide (e < q + 1)
    · have e1 : S q = true := by rw [hS q (by omega)]; simp
      have e2 : (List.range d).all (fun e => del S q e == decide (e < q)) = true := by
        rw [List.all_eq_true]
        intro e he
        have he := List.mem_range.1 he
        simp only [del, hS e he, beq_iff_eq]
        by_cases h2 : e = q
        · subst h2; simp
        · simp [h2]; omega
      have e3 : (List.range d).all (fun e => S e == decide (e < q + 1)) = true := by
        rw [List.all_eq_true]
        intro e he
        rw [hS e (List.mem_range.1 he)]; simp
      rw [if_pos e1, if_pos e2, if_pos e3, sg_one d (fun e h3 h4 => by rw [hS e h4]; simp; omega)]
      simp [st]
    · have e3 : ¬ (List.range d).all (fun e => S e == decide (e < q + 1)) = true := fun h => hS fun e he => by
        have := List.all_eq_true.1 h e (List.mem_range.2 he)
        simpa using this
      rw [if_neg e3]
      split
      · rename_i e1
        have e2 : ¬ (List.range d).all (fun e => del S q e == decide (e < q)) = true := fun h => hS fun e he => by
          have := List.all_eq_true.1 h e (List.mem_range.2 he)
          simp only [del, beq_iff_eq] at this
          by_cases h2 : e = q
          · subst h2; rw [e1]; simp
          · simp only [h2, decide_false, Bool.not_false, Bool.and_true] at this
            rw [this]; simp; omega
        rw [if_neg e2]; simp
      · rfl
theorem om_st : om d st = 1 := by
  rw [om, ww_st d (Nat.le_refl d), if_pos]
  rw [List.all_eq_true]
  intro e _
  simp [ful']
theorem om_st_up {j : Nat} (hj : j < d) (f : Vec) : om d (up st j f) = f j := by
  have h1 : om d (up st j f) = om d (up st j (fun c => sm d (fun i => f i * st i c))) := om_congr fun p _ c hc => by
    by_cases e : p = j
    · subst e
      rw [up_same, up_same, sm_one d (k := c) hc (fun i _ hne => by simp only [st]; rw [if_neg (fun q => hne q.symm), Int.mul_zero])]
      simp [st]
    · rw [up_ne _ _ e, up_ne _ _ e]
  rw [h1, om_sum _ hj, sm_one d (k := j) hj (fun i hi hne => by rw [om_at st hi hj hne, Int.mul_zero]), up_self, om_st, Int.mul_one]
/-! how great they are -/
def fac : Nat → Nat
  | 0 => 1
  | k + 1 => (k + 1) * fac k
def cd' : Nat → Sb → Nat
  | 0, _ => 0
  | d + 1, S => cd' d S + if S d = true then 1 else 0
theorem cd_congr : ∀ (d : Nat) {S T : Sb}, (∀ e, e < d → S e = T e) → cd' d S = cd' d T
  | 0, _, _, _ => rfl
  | d + 1, S, T, h => by simp only [cd']; rw [cd_congr d (fun e he => h e (by omega)), h d (by omega)]
theorem cd_del : ∀ (d : Nat) {S : Sb} {i : Nat}, i < d → S i = true → cd' d S = cd' d (del S i) + 1
  | d + 1, S, i, hi, hS => by
    simp only [cd']
    by_cases e : i = d
    · subst e
      have h1 : cd' i (del S i) = cd' i S := cd_congr i fun e he => by
        have : ¬ e = i := by omega
        simp [del, this]
      have h2 : del S i i = false := by simp [del]
      rw [h1, h2, if_pos hS]; simp
    · rw [cd_del d (by omega) hS]
      have : del S i d = S d := by
        have : ¬ d = i := fun q => e q.symm
        simp [del, this]
      rw [this]; omega
theorem sm_abs {K : Nat} : ∀ (d : Nat) {f : Nat → Int} {S : Sb}, (∀ i, i < d → S i = false → f i = 0) → (∀ i, i < d → S i = true → (f i).natAbs ≤ K) → (sm d f).natAbs ≤ cd' d S * K
  | 0, _, _, _, _ => by simp [sm]
  | d + 1, f, S, h0, h1 => by
    simp only [sm, cd']
    have ih := sm_abs d (fun i hi => h0 i (by omega)) (fun i hi => h1 i (by omega))
    have h2 := Int.natAbs_add_le (sm d f) (f d)
    cases hS : S d
    · rw [h0 d (by omega) hS] at h2 ⊢
      simp only [Bool.false_eq_true, if_false, Nat.add_zero, Int.add_zero]; exact ih
    · have := h1 d (by omega) hS
      rw [if_pos rfl, Nat.add_mul]; omega
theorem sg_abs : ∀ (d i : Nat) (S : Sb), (sg d i S).natAbs = 1
  | 0, _, _ => rfl
  | d + 1, i, S => by
    simp only [sg, Int.natAbs_mul]
    rw [sg_abs d i S]; split <;> rfl
abbrev sml (d : Nat) (V : Nat → Vec) (q : Nat) : Prop := ∀ p, p < q → ∀ c, c < d → (V p c).natAbs ≤ 1
theorem ww_abs {V : Nat → Vec} : ∀ q, sml d V q → ∀ S, (ww d V q S).natAbs ≤ fac (cd' d S)
  | 0, _, S => by
    simp only [ww, w00]
    have : 1 ≤ fac (cd' d S) := by
      generalize cd' d S = k
      induction k with
      | zero => exact Nat.le_refl _
      | succ k ih => simp only [fac]; exact Nat.le_trans ih (Nat.le_mul_of_pos_left _ (by omega))
    split
    · exact this
    · simp
  | q + 1, h, S => by
    simp only [ww, wg]
    cases hk : cd' d S with
    | zero =>
      have := sm_abs (K := 0) d (f := fun i => if S i = true then sg d i S * V q i * ww d V q (del S i) else 0) (S := S) (fun i _ h => by simp [h]) (fun i hi hS => by
        have := cd_del d hi hS; omega)
      rw [hk] at this; simp at this; rw [this]; simp
    | succ k =>
      have := sm_abs (K := fac k) d (f := fun i => if S i = true then sg d i S * V q i * ww d V q (del S i) else 0) (S := S) (fun i _ h => by simp [h]) (fun i hi hS => by
        simp only [hS, if_true, Int.natAbs_mul, sg_abs, Nat.one_mul]
        have h1 := ww_abs q (fun p hp => h p (by omega)) (del S i)
        have h2 := cd_del d hi hS
        have h3 : cd' d (del S i) = k := by omega
        rw [h3] at h1
        have h4 := h q (by omega) i hi
        calc (V q i).natAbs * (ww d V q (del S i)).natAbs ≤ 1 * fac k := Nat.mul_le_mul h4 h1
          _ = fac k := Nat.one_mul _)
      rw [hk] at this; exact this
theorem cd_ful : ∀ d e, d ≤ e → cd' d (ful' e) = d
  | 0, _, _ => rfl
  | d + 1, e, h => by
    simp only [cd']
    rw [cd_ful d e (by omega), if_pos]
    simp [ful']; omega
theorem om_abs {V : Nat → Vec} (h : sml d V d) : (om d V).natAbs ≤ fac d := by
  have := ww_abs d h (ful' d)
  rw [cd_ful d d (Nat.le_refl d)] at this; exact this
theorem ww_abs0 {V : Nat → Vec} (h0 : ∀ c, c < d → V 0 c = st 0 c) (hd : 0 < d) : ∀ q, sml d V (q + 1) → ∀ S, (S 0 = false → ww d V (q + 1) S = 0) ∧ (S 0 = true → (ww d V (q + 1) S).natAbs ≤ fac (cd' d S - 1))
  | 0, h, S => by
    have h1 : ww d V 1 S = (if S 0 = true then sg d 0 S * V 0 0 * w00 d (del S 0) else 0) := by
      simp only [ww, wg]
      refine sm_one d (f := fun i => if S i = true then sg d i S * V 0 i * w00 d (del S i) else 0) hd (fun i hi hne => ?_)
      show (if S i = true then _ else _) = _
      rw [h0 i hi]
      simp [st, hne]
    have hf : 1 ≤ fac (cd' d S - 1) := by
      generalize cd' d S - 1 = k
      induction k with
      | zero => exact Nat.le_refl _
      | succ k ih => simp only [fac]; exact Nat.le_trans ih (Nat.le_mul_of_pos_left _ (by omega))
    constructor
    · intro hS; rw [h1, hS]; rfl
    · intro hS
      rw [h1, if_pos hS, Int.natAbs_mul, Int.natAbs_mul, sg_abs, Nat.one_mul]
      have h2 := h 0 (by omega) 0 hd
      have h3 : (w00 d (del S 0)).natAbs ≤ 1 := by simp only [w00]; split <;> simp
      have := Nat.mul_le_mul h2 h3
      omega
  | q + 1, h, S => by
    have ih := fun T => ww_abs0 h0 hd q (fun p hp => h p (by omega)) T
    have e : ww d V (q + 1 + 1) S = sm d (fun i => if S i = true then sg d i S * V (q + 1) i * ww d V (q + 1) (del S i) else 0) := rfl
    constructor
    · intro hS
      rw [e]
      refine sm_zero d fun i _ => ?_
      split
      · rw [(ih (del S i)).1 (by simp [del, hS]), Int.mul_zero]
      · rfl
    · intro hS
      rw [e]
      have hc := cd_del d hd hS
      cases hk : cd' d (del S 0) with
      | zero =>
        have := sm_abs (K := 0) d (f := fun i => if S i = true then sg d i S * V (q + 1) i * ww d V (q + 1) (del S i) else 0) (S := S) (fun i _ h => by simp [h]) (fun i hi hi' => by
          by_cases e0 : i = 0
          · subst e0
            rw [if_pos hS, (ih (del S 0)).1 (by simp [del]), Int.mul_zero]; simp
          · have h1 : del S 0 i = true := by simp [del, hi', e0]
            have := cd_del d hi h1; omega)
        simp at this; rw [this]; simp
      | succ k =>
        have := sm_abs (K := fac k) d (f := fun i => if S i = true then sg d i S * V (q + 1) i * ww d V (q + 1) (del S i) else 0) (S := del S 0) (fun i _ h => by
          by_cases e0 : i = 0
          · subst e0
            rw [if_pos hS, (ih (del S 0)).1 (by simp [del]), Int.mul_zero]
          · have : S i = false := by simpa [del, e0] using h
            simp [this]) (fun i hi hi' => by
          have hSi : S i = true := by simp only [del, Bool.and_eq_true] at hi'; exact hi'.1
          have hne : ¬ i = 0 := by intro q; subst q; simp [del] at hi'
          simp only [hSi, if_true, Int.natAbs_mul, sg_abs, Nat.one_mul]
          have h1 := (ih (del S i)).2 (by simp [del, hS]; omega)
          have h2 := cd_del d hi hSi
          have h3 : cd' d (del S i) - 1 = k := by omega
          rw [h3] at h1
          have h4 := h (q + 1) (by omega) i hi
          calc (V (q + 1) i).natAbs * (ww d V (q + 1) (del S i)).natAbs ≤ 1 * fac k := Nat.mul_le_mul h4 h1
            _ = fac k := Nat.one_mul _)
        rw [hk] at this
        have h5 : cd' d S - 1 = k + 1 := by omega
        rw [h5]; exact this
theorem om_abs0 {V : Nat → Vec} {n : Nat} (h0 : ∀ c, c < n + 1 → V 0 c = st 0 c) (h : sml (n + 1) V (n + 1)) : (om (n + 1) V).natAbs ≤ fac n := by
  have := (ww_abs0 h0 (by omega) n h (ful' (n + 1))).2 (by simp [ful'])
  rw [cd_ful _ _ (Nat.le_refl _)] at this; exact this
end Go.Proofs.Sur
end
