/- Equations of a linear program: the end, and what it tells. -/
import Derived.Test.YtlomlnkafakloaaDoorSxF
set_option linter.unusedSimpArgs false
set_option linter.unusedVariables false
set_option linter.unnecessarySimpa false
namespace Go.Proofs.Sur
set_option maxHeartbeats 1000000
variable {n m : Nat} {b : Nat → Nat → Bool}
theorem good_next (hb : ∀ j, j < n → ∃ i, i < m ∧ b i j = true) {T : Tb} (h : Good n m b T) {e : Nat} (he : ent n m T.1 = some e) : ∃ l, Stp n m T e l (trnL n m T.1 l e T.2.2, T.2.1.set l (e : Int), cel n m T.1 l e) := by
  obtain ⟨⟨N, σ, hL⟩, _⟩ := h
  obtain ⟨e1, e2, _⟩ := ent_some he
  obtain ⟨q, q1, q2, q3⟩ := hL.slot e1 (by omega)
  obtain ⟨i, i1, i2⟩ := hL.held hb q1 q2 (by rw [q3]; exact e2)
  rw [q3] at i2
  cases hl : lv n m T.1 T.2.1 e m with
  | none => have := (lv_spec m).1 hl i i1; omega
  | some l => exact ⟨l, he, hl, rfl⟩
theorem ends (hn : n ≤ 6) (hb : ∀ j, j < n → ∃ i, i < m ∧ b i j = true) {T : Tb} (h : Good n m b T) :
    ∃ (K : Nat) (F : Nat → Tb), F 0 = T ∧ (∀ k, k < K → ∃ e l, Stp n m (F k) e l (F (k + 1))) ∧ ent n m (F K).1 = none ∧ ∀ k, k ≤ K → Good n m b (F k) := by
  let nx : Tb → Tb := fun T => match ent n m T.1 with
    | none => T
    | some e => match lv n m T.1 T.2.1 e m with
      | none => T
      | some l => (trnL n m T.1 l e T.2.2, T.2.1.set l (e : Int), cel n m T.1 l e)
  let F : Nat → Tb := fun k => Nat.rec T (fun _ T => nx T) k
  have hF : ∀ k, F (k + 1) = nx (F k) := fun _ => rfl
  have st : ∀ k, Good n m b (F k) → ent n m (F k).1 ≠ none → ∃ e l, Stp n m (F k) e l (F (k + 1)) := fun k hg he => by
    cases hq : ent n m (F k).1 with
    | none => exact absurd hq he
    | some e =>
      obtain ⟨l, h1, h2, _⟩ := good_next hb hg hq
      refine ⟨e, l, hq, h2, ?_⟩
      rw [hF]
      simp only [nx, hq, h2]
  by_cases hall : ∀ k, ent n m (F k).1 ≠ none
  · have hg : ∀ k, Good n m b (F k) := fun k => by
      induction k with
      | zero => exact h
      | succ k ih =>
        obtain ⟨e, l, hs⟩ := st k ih (hall k)
        exact (good_step ih hs).1
    exact (bland hn F h (fun k => st k (hg k) (hall k))).elim
  · have hex : ∃ k, ent n m (F k).1 = none := Classical.byContradiction fun hc => hall fun k hk => hc ⟨k, hk⟩
    have least : ∀ k, ent n m (F k).1 = none → ∃ K, ent n m (F K).1 = none ∧ ∀ k, k < K → ent n m (F k).1 ≠ none := fun k => by
      induction k using Nat.strongRecOn with
      | _ k ih =>
        intro hk
        by_cases hc : ∃ j, j < k ∧ ent n m (F j).1 = none
        · obtain ⟨j, j1, j2⟩ := hc; exact ih j j1 j2
        · exact ⟨k, hk, fun j hj he => hc ⟨j, hj, he⟩⟩
    obtain ⟨k, hk⟩ := hex
    obtain ⟨K, h1, h2⟩ := least k hk
    have hg : ∀ k, k ≤ K → Good n m b (F k) := fun k => by
      induction k with
      | zero => intro _; exact h
      | succ k ih =>
        intro hk
        obtain ⟨e, l, hs⟩ := st k (ih (by omega)) (h2 k (by omega))
        exact (good_step (ih (by omega)) hs).1
    exact ⟨K, F, rfl, fun k hk => st k (hg k (by omega)) (h2 k hk), h1, hg⟩
def Cert (n m : Nat) (b : Nat → Nat → Bool) (z s : Int) : Prop := 0 < s ∧
  (∃ x : Nat → Int, (∀ j, j < n → 0 ≤ x j) ∧ (∀ i, i < m → sm n (fun j => if b i j = true then x j else 0) ≤ s) ∧ sm n x = z) ∧
  (∃ y : Nat → Int, (∀ i, i < m → 0 ≤ y i) ∧ (∀ j, j < n → s ≤ sm m (fun i => if b i j = true then y i else 0)) ∧ sm m y = z)
theorem sm_head : ∀ (d : Nat) (f : Nat → Int), sm (d + 1) f = f 0 + sm d (fun j => f (j + 1))
  | 0, f => by simp [sm]
  | d + 1, f => by
    have h : sm (d + 1 + 1) f = sm (d + 1) f + f (d + 1) := rfl
    rw [h, sm_head d f]; simp only [sm]; omega
theorem sm_nn {d : Nat} {f : Nat → Int} (h : ∀ i, i < d → 0 ≤ f i) : 0 ≤ sm d f := by
  have := sm_le d (f := fun _ => 0) h
  rw [sm_zero d (fun _ _ => rfl)] at this; exact this
theorem Good.cert {T : Tb} (h : Good n m b T) (he : ent n m T.1 = none) : Cert n m b (-cel n m T.1 m (n + m)) T.2.2 := by
  obtain ⟨R, B, s⟩ := T
  obtain ⟨⟨N, σ, hL⟩, hF⟩ := h
  simp only at hL hF he ⊢
  have hno := ent_none he
  have hrm : rv n m b B m = oo := by simp only [rv]; rw [if_neg (by omega)]
  have hV0 : vv n b N 0 = st 0 := by simp only [vv, if_true]
  refine ⟨hL.pos, ?_, ?_⟩
  · have hf : ∀ f : Vec, σ * om (n + 1) (up (vv n b N) 0 f) = sm (n + 1) (fun c => f c * (σ * om (n + 1) (up (vv n b N) 0 (st c)))) := fun f => by
      rw [om_lc _ (by omega), ← sm_mul]
      exact sm_congr _ fun c _ => Int.mul_left_comm _ _ _
    have hu : ∀ u, u < n + m → 0 ≤ σ * om (n + 1) (up (vv n b N) 0 (vc n b u)) := fun u hu => by
      rcases hL.cov u hu with ⟨p, p1, p2, p3⟩ | ⟨i, i1, i2⟩
      · have hv : vc n b u = vv n b N p := by simp only [vv]; rw [if_neg (by omega), p3]
        rw [hv, om_at _ (by omega) (by omega) (by omega), Int.mul_zero]; exact Int.le_refl _
      · have h1 := hL.c0 i (by omega)
        simp only [rv, if_pos i1, i2] at h1
        rw [← h1]; exact hF i i1
    have w0 : σ * om (n + 1) (up (vv n b N) 0 (st 0)) = s := by rw [← hV0, up_self]; exact hL.eqs.symm
    refine ⟨fun j => σ * om (n + 1) (up (vv n b N) 0 (st (j + 1))), fun j hj => ?_, fun i hi => ?_, ?_⟩
    · have := hu j (by omega)
      have hv : vc n b j = st (j + 1) := by funext c; simp only [vc, if_pos hj]
      rw [hv] at this; exact this
    · have h1 := hu (n + i) (by omega)
      rw [hf, sm_head, w0, vc_sl, if_pos rfl, Int.one_mul] at h1
      have e : sm n (fun j => vc n b (n + i) (j + 1) * (σ * om (n + 1) (up (vv n b N) 0 (st (j + 1))))) = -sm n (fun j => if b i j = true then σ * om (n + 1) (up (vv n b N) 0 (st (j + 1))) else 0) := by
        rw [← sm_neg]
        refine sm_congr _ fun j _ => ?_
        rw [vc_sl, if_neg (by omega), show j + 1 - 1 = j from rfl]
        split
        · rw [Int.neg_mul, Int.one_mul]
        · rw [Int.zero_mul]; rfl
      rw [e] at h1
      show sm n (fun j => if b i j = true then σ * om (n + 1) (up (vv n b N) 0 (st (j + 1))) else 0) ≤ s
      omega
    · have h1 := hL.c0 m (Nat.le_refl m)
      rw [hrm, hf, sm_head] at h1
      have e0 : oo 0 = 0 := rfl
      rw [e0, Int.zero_mul, Int.zero_add] at h1
      have e : sm n (fun j => oo (j + 1) * (σ * om (n + 1) (up (vv n b N) 0 (st (j + 1))))) = -sm n (fun j => σ * om (n + 1) (up (vv n b N) 0 (st (j + 1)))) := by
        rw [← sm_neg]
        refine sm_congr _ fun j _ => ?_
        have : oo (j + 1) = -1 := by simp [oo]
        rw [this, Int.neg_mul, Int.one_mul]
      rw [e] at h1
      show sm n (fun j => σ * om (n + 1) (up (vv n b N) 0 (st (j + 1)))) = _
      omega
  · -- the rates at the slots
    have id : ∀ c, c < n + 1 → s * oo c = sm (n + 1) (fun p => (if p = 0 then cel n m R m (n + m) else -cel n m R m (N p)) * vv n b N p c) := fun c hc => by
      have h1 := hL.cr oo c hc
      rw [hL.eqs, Int.mul_assoc, h1, ← sm_mul]
      refine sm_congr _ fun p hp => ?_
      rw [← Int.mul_assoc]
      congr 1
      by_cases e : p = 0
      · subst e; rw [if_pos rfl, hL.c0 m (Nat.le_refl m), hrm]
      · rw [if_neg e, hL.cN m p (Nat.le_refl m) (by omega) (by omega), hrm, Int.neg_mul, Int.neg_neg]
    have hr : ∀ p, p < n → 0 ≤ -cel n m R m (N (p + 1)) := fun p hp => by
      have := hno (N (p + 1)) (hL.Nlt (p + 1) (by omega) (by omega)); omega
    have id2 : ∀ c, c < n + 1 → s * oo c = cel n m R m (n + m) * st 0 c + sm n (fun p => -cel n m R m (N (p + 1)) * vc n b (N (p + 1)) c) := fun c hc => by
      rw [id c hc, sm_head, if_pos rfl, hV0]
      rfl
    -- what the equations with bounds have
    have sw : ∀ g : Nat → Int, sm m (fun i => sm n (fun p => if N (p + 1) = n + i then -cel n m R m (N (p + 1)) else 0) * g i) = sm n (fun p => if N (p + 1) < n then 0 else -cel n m R m (N (p + 1)) * g (N (p + 1) - n)) := fun g => by
      have e : sm m (fun i => sm n (fun p => if N (p + 1) = n + i then -cel n m R m (N (p + 1)) else 0) * g i) = sm m (fun i => sm n (fun p => if N (p + 1) = n + i then -cel n m R m (N (p + 1)) * g (N (p + 1) - n) else 0)) := sm_congr _ fun i _ => by
        rw [Int.mul_comm, ← sm_mul]
        refine sm_congr _ fun p _ => ?_
        split
        · rename_i h; rw [h, show n + i - n = i from by omega, Int.mul_comm]
        · rw [Int.mul_zero]
      rw [e, sm_swap]
      refine sm_congr _ fun p hp => ?_
      have hlt := hL.Nlt (p + 1) (by omega) (by omega)
      by_cases hc : N (p + 1) < n
      · rw [if_pos hc]
        exact sm_zero _ fun i _ => if_neg (by omega)
      · rw [if_neg hc, sm_one m (f := fun i => if N (p + 1) = n + i then -cel n m R m (N (p + 1)) * g (N (p + 1) - n) else 0) (k := N (p + 1) - n) (by omega) (fun i _ hne => if_neg (by omega)), if_pos (by omega)]
    refine ⟨fun i => sm n (fun p => if N (p + 1) = n + i then -cel n m R m (N (p + 1)) else 0), fun i hi => sm_nn fun p hp => ?_, fun j hj => ?_, ?_⟩
    · show (0 : Int) ≤ if N (p + 1) = n + i then -cel n m R m (N (p + 1)) else 0
      split
      · exact hr p hp
      · exact Int.le_refl _
    · have h1 := id2 (j + 1) (by omega)
      have e1 : oo (j + 1) = -1 := by simp [oo]
      have e2 : st 0 (j + 1) = 0 := by simp [st]
      rw [e1, e2, Int.mul_zero, Int.zero_add] at h1
      have h2 := sw (fun i => if b i j = true then 1 else 0)
      have e3 : sm m (fun i => if b i j = true then sm n (fun p => if N (p + 1) = n + i then -cel n m R m (N (p + 1)) else 0) else 0) = sm m (fun i => sm n (fun p => if N (p + 1) = n + i then -cel n m R m (N (p + 1)) else 0) * (if b i j = true then 1 else 0)) := sm_congr _ fun i _ => by
        split
        · rw [Int.mul_one]
        · rw [Int.mul_zero]
      show s ≤ sm m (fun i => if b i j = true then sm n (fun p => if N (p + 1) = n + i then -cel n m R m (N (p + 1)) else 0) else 0)
      rw [e3, h2]
      have h3 : sm n (fun p => -(-cel n m R m (N (p + 1)) * vc n b (N (p + 1)) (j + 1))) ≤ sm n (fun p => if N (p + 1) < n then 0 else -cel n m R m (N (p + 1)) * (if b (N (p + 1) - n) j = true then 1 else 0)) := sm_le _ fun p hp => by
        have := hr p hp
        by_cases hc : N (p + 1) < n
        · rw [if_pos hc]
          simp only [vc, if_pos hc, st]
          split
          · omega
          · omega
        · rw [if_neg hc]
          simp only [vc, if_neg hc]
          rw [if_neg (by omega), show j + 1 - 1 = j from rfl]
          split <;> omega
      rw [sm_neg] at h3
      omega
    · have h1 := id2 0 (by omega)
      have e1 : oo 0 = 0 := rfl
      have e2 : st 0 0 = 1 := rfl
      rw [e1, e2, Int.mul_zero, Int.mul_one] at h1
      have h2 := sw (fun _ => 1)
      simp only [Int.mul_one] at h2
      rw [h2]
      have h3 : sm n (fun p => -cel n m R m (N (p + 1)) * vc n b (N (p + 1)) 0) = sm n (fun p => if N (p + 1) < n then 0 else -cel n m R m (N (p + 1))) := sm_congr _ fun p hp => by
        by_cases hc : N (p + 1) < n
        · rw [if_pos hc]
          simp only [vc, if_pos hc, st]
          rw [if_neg (by omega), Int.mul_zero]
        · rw [if_neg hc]
          simp only [vc, if_neg hc, if_true, Int.mul_one]
      rw [← h3]; omega
theorem sm_mul_le {d : Nat} {f g : Nat → Int} {s : Int} (hf : ∀ i, i < d → 0 ≤ f i) (hg : ∀ i, i < d → s ≤ g i) : sm d f * s ≤ sm d (fun i => f i * g i) := by
  rw [Int.mul_comm, ← sm_mul]
  refine sm_le d fun i hi => ?_
  rw [Int.mul_comm]; exact Int.mul_le_mul_of_nonneg_left (hg i hi) (hf i hi)
theorem Cert.top {z s : Int} (h : Cert n m b z s) {x : Nat → Int} {D : Int} (hx : ∀ j, j < n → 0 ≤ x j) (hl : ∀ i, i < m → sm n (fun j => if b i j = true then x j else 0) ≤ D) : sm n x * s ≤ z * D := by
  obtain ⟨_, _, y, y1, y2, y3⟩ := h
  have h1 := sm_mul_le hx y2
  have e : sm n (fun j => x j * sm m (fun i => if b i j = true then y i else 0)) = sm m (fun i => y i * sm n (fun j => if b i j = true then x j else 0)) := by
    have e1 : sm n (fun j => x j * sm m (fun i => if b i j = true then y i else 0)) = sm n (fun j => sm m (fun i => if b i j = true then x j * y i else 0)) := sm_congr _ fun j _ => by
      rw [← sm_mul]; exact sm_congr _ fun i _ => by split <;> simp
    have e2 : sm m (fun i => y i * sm n (fun j => if b i j = true then x j else 0)) = sm m (fun i => sm n (fun j => if b i j = true then x j * y i else 0)) := sm_congr _ fun i _ => by
      rw [← sm_mul]; exact sm_congr _ fun j _ => by
        split
        · exact Int.mul_comm _ _
        · exact Int.mul_zero _
    rw [e1, e2, sm_swap]
  have h2 : sm m (fun i => y i * sm n (fun j => if b i j = true then x j else 0)) ≤ sm m (fun i => y i * D) := sm_le _ fun i hi => Int.mul_le_mul_of_nonneg_left (hl i hi) (y1 i hi)
  have h3 : sm m (fun i => y i * D) = z * D := by
    rw [← y3, Int.mul_comm _ D, ← sm_mul]; exact sm_congr _ fun i _ => Int.mul_comm _ _
  omega
theorem Cert.same {z s z' s' : Int} (h : Cert n m b z s) (h' : Cert n m b z' s') : z * s' = z' * s := by
  obtain ⟨x, x1, x2, x3⟩ := h.2.1
  obtain ⟨x', x1', x2', x3'⟩ := h'.2.1
  have h1 := h.top x1' x2'
  have h2 := h'.top x1 x2
  rw [x3'] at h1
  rw [x3] at h2
  omega
end Go.Proofs.Sur

