/- Layer 5: weights of joined graphs. -/
import Derived.Test.YtlomlnkafakloaaDoorSxI
import Derived.Test.YtlomlnkafakloaaDoorSvA
set_option linter.unusedSimpArgs false
set_option linter.unusedVariables false
set_option linter.unnecessarySimpa false
namespace Go.Proofs.Sur
open Go Go.VM
set_option maxHeartbeats 1000000
/-- two signals are the same or neighbours -/
def nr (g : List Int) (u v : Nat) : Bool := (wt_ (nrV g) u).getLsbD v
theorem nr_eq {g : List Int} (hg : Gr g) {u v : Nat} (hu : u < g.length) (hv : v < g.length) : nr g u v = (bi (at_ g u) v || decide (v = u)) := by
  have := hg.1.2
  rw [nr, nrV_get hu, nrB_bit hg.1 hu (by omega)]
def natOf (p : Nat → Bool) : Nat → Nat
  | 0 => 0
  | n + 1 => if p n = true then 2 ^ n + natOf p n else natOf p n
theorem natOf_lt (p : Nat → Bool) : ∀ n, natOf p n < 2 ^ n
  | 0 => by simp [natOf]
  | n + 1 => by
    have := natOf_lt p n
    simp only [natOf]; split <;> (rw [Nat.pow_succ]; omega)
theorem natOf_bit (p : Nat → Bool) : ∀ n j, (natOf p n).testBit j = (decide (j < n) && p j)
  | 0, j => by simp [natOf]
  | n + 1, j => by
    have hl := natOf_lt p n
    simp only [natOf]
    rcases Nat.lt_trichotomy j n with h | h | h
    · have e : decide (j < n + 1) = decide (j < n) := by simp only [decide_eq_decide]; omega
      rw [e]
      split
      · rw [Nat.testBit_two_pow_add_gt h, natOf_bit p n j]
      · exact natOf_bit p n j
    · subst h
      have e0 : (natOf p j).testBit j = false := Nat.testBit_lt_two_pow hl
      split
      · rename_i hp
        rw [Nat.testBit_two_pow_add_eq, e0, hp]; simp
      · rename_i hp
        rw [e0]; simpa using hp
    · have hz : (if p n = true then 2 ^ n + natOf p n else natOf p n) < 2 ^ j := by
        have : 2 ^ (n + 1) ≤ 2 ^ j := Nat.pow_le_pow_right (by decide) (by omega)
        rw [Nat.pow_succ] at this
        split <;> omega
      rw [Nat.testBit_lt_two_pow hz]
      have : ¬ j < n + 1 := by omega
      simp [this]
/-- a clique -/
def Clq (g : List Int) (p : Nat → Bool) : Prop := ∀ u v, u < g.length → v < g.length → p u = true → p v = true → nr g u v = true
/-- light weights, of all cliques -/
def Lgt (g : List Int) (x : Nat → Int) (D : Int) : Prop := ∀ p, Clq g p → sm g.length (fun j => if p j = true then x j else 0) ≤ D
theorem lgt_ix {g : List Int} (hg : Gr g) {x : Nat → Int} {D : Int} (h : Lgt g x D) : ∀ i, i < (clV g).length → sm g.length (fun j => if bS (clV g) i j = true then x j else 0) ≤ D :=
  fun i hi => h (bS (clV g) i) fun u v hu hv h1 h2 => clq_near hg hi hu hv h1 h2
theorem ix_lgt {g : List Int} (hg : Gr g) {x : Nat → Int} {D : Int} (hx : ∀ j, j < g.length → 0 ≤ x j) (h : ∀ i, i < (clV g).length → sm g.length (fun j => if bS (clV g) i j = true then x j else 0) ≤ D) : Lgt g x D := by
  intro p hp
  by_cases hz : natOf p g.length = 0
  · have h0 : sm g.length (fun j => if p j = true then x j else 0) = 0 := sm_zero _ fun j hj => by
      have := natOf_bit p g.length j
      rw [hz] at this
      simp [hj] at this
      show (if p j = true then x j else 0) = 0
      rw [if_neg (by rw [this]; simp)]
    rw [h0]
    have h1 := h 0 (by have := clq_pos hg; omega)
    have h2 : 0 ≤ sm g.length (fun j => if bS (clV g) 0 j = true then x j else 0) := sm_nn fun j hj => by
      show 0 ≤ if bS (clV g) 0 j = true then x j else 0
      split
      · exact hx j hj
      · exact Int.le_refl _
    omega
  · have hlt := natOf_lt p g.length
    have hb : ∀ j, j < g.length → (natOf p g.length).testBit j = p j := fun j hj => by rw [natOf_bit]; simp [hj]
    have hm : ((natOf p g.length : Nat) : Int) ∈ clV g := mem_clL hz ((okF_iff _).2 fun i hi => (qc_iff hg hlt hi).2 fun h1 j hj h2 hne => by
      rw [hb i hi] at h1
      rw [hb j hj] at h2
      have := hp i j hi hj h1 h2
      rw [nr_eq hg hi hj, decide_eq_false hne, Bool.or_false] at this
      exact this) _ hlt
    obtain ⟨i, i1, i2⟩ := at_ix hm
    have := h i i1
    have e : sm g.length (fun j => if bS (clV g) i j = true then x j else 0) = sm g.length (fun j => if p j = true then x j else 0) := sm_congr _ fun j hj => by
      have : bS (clV g) i j = p j := by
        show bi (at_ (clV g) i) j = _
        rw [i2]
        show ((natOf p g.length : Nat) : Int).toNat.testBit j = _
        rw [Int.toNat_natCast, hb j hj]
      rw [this]
    rw [e] at this; exact this
/-- light weights sum to no more -/
theorem lgt_top {g : List Int} (hg : Gr g) {x : Nat → Int} {D : Int} (hx : ∀ j, j < g.length → 0 ≤ x j) (h : Lgt g x D) : sm g.length x * wgD g ≤ wgN g * D := by
  obtain ⟨_, ⟨z, s, hc⟩, e1, e2, _⟩ := wg_ok hg
  rw [e1, e2]; exact hc.lptop hx (lgt_ix hg h)
/-- the greatest ones -/
theorem lgt_ex {g : List Int} (hg : Gr g) : ∃ x s, 0 < s ∧ (∀ j, j < g.length → 0 ≤ x j) ∧ Lgt g x s ∧ wgN g * s = sm g.length x * wgD g := by
  obtain ⟨_, ⟨z, s, hc⟩, e1, e2, _⟩ := wg_ok hg
  obtain ⟨x, x1, x2, x3⟩ := hc.2.1
  refine ⟨x, s, hc.1, x1, ix_lgt hg x1 x2, ?_⟩
  rw [e1, e2, x3]; exact hc.lp.2.2.2.1
/-! sums over pairs, and over both parts -/
theorem sm_parts (a : Nat) (f : Nat → Int) : ∀ b, sm (a + b) f = sm a f + sm b (fun j => f (a + j))
  | 0 => by simp [sm]
  | b + 1 => by
    show sm (a + b) f + f (a + b) = _
    rw [sm_parts a f b]; simp only [sm]; omega
theorem sm_prod (n : Nat) (f : Nat → Int) : ∀ a, sm (a * n) f = sm a (fun u => sm n (fun v => f (u * n + v)))
  | 0 => by simp [sm]
  | a + 1 => by
    rw [Nat.add_mul, Nat.one_mul, sm_parts, sm_prod n f a]; rfl
theorem sm_times {a b : Nat} {f g : Nat → Int} : sm a (fun u => sm b (fun v => f u * g v)) = sm a f * sm b g := by
  rw [Int.mul_comm, ← sm_mul]
  refine sm_congr a fun u _ => ?_
  rw [sm_mul, Int.mul_comm]
/-- the joined graph -/
structure Joined (g h J : List Int) : Prop where
  gJ : Gr J
  len : J.length = g.length * h.length
  near : ∀ u v u' v', u < g.length → v < h.length → u' < g.length → v' < h.length → nr J (u * h.length + v) (u' * h.length + v') = (nr g u u' && nr h v v')
theorem ix_pair {a n u v : Nat} (hu : u < a) (hv : v < n) : u * n + v < a * n := by
  have : (u + 1) * n ≤ a * n := Nat.mul_le_mul_right _ (by omega)
  rw [Nat.add_mul, Nat.one_mul] at this; omega
theorem joined_le {g h J : List Int} (hg : Gr g) (hh : Gr h) (hJ : Joined g h J) : wgN J * (wgD g * wgD h) ≤ wgN g * wgN h * wgD J := by
  obtain ⟨w, S, hS, w1, w2, w3⟩ := lgt_ex hJ.gJ
  obtain ⟨_, _, _, _, dg, _⟩ := wg_ok hg
  obtain ⟨_, _, _, _, dh, _⟩ := wg_ok hh
  have hw : ∀ u v, u < g.length → v < h.length → 0 ≤ w (u * h.length + v) := fun u v hu hv => w1 _ (by rw [hJ.len]; exact ix_pair hu hv)
  have hlg : ∀ p2, Clq h p2 → Lgt g (fun u => sm h.length (fun v => if p2 v = true then w (u * h.length + v) else 0)) S := fun p2 hp2 p1 hp1 => by
    have key := w2 (fun t => p1 (t / h.length) && p2 (t % h.length)) (fun t t' ht ht' h1 h2 => by
      rw [hJ.len] at ht ht'
      have d := divlt hh.1.1 ht
      have d' := divlt hh.1.1 ht'
      simp only [Bool.and_eq_true] at h1 h2
      have := hJ.near _ _ _ _ d.1 d.2 d'.1 d'.2
      rw [Nat.div_add_mod', Nat.div_add_mod'] at this
      rw [this, hp1 _ _ d.1 d'.1 h1.1 h2.1, hp2 _ _ d.2 d'.2 h1.2 h2.2]; rfl)
    rw [hJ.len, sm_prod] at key
    refine Int.le_trans (Int.le_of_eq (sm_congr _ fun u hu => ?_)) key
    show (if p1 u = true then sm h.length (fun v => if p2 v = true then w (u * h.length + v) else 0) else 0) = _
    by_cases hp : p1 u = true
    · rw [if_pos hp]
      refine sm_congr _ fun v hv => ?_
      have e1 : (u * h.length + v) / h.length = u := by rw [Nat.mul_comm, Nat.mul_add_div hh.1.1, Nat.div_eq_of_lt hv]; rfl
      have e2 : (u * h.length + v) % h.length = v := by rw [Nat.mul_comm, Nat.mul_add_mod, Nat.mod_eq_of_lt hv]
      rw [e1, e2, hp]; rfl
    · rw [if_neg hp]
      symm
      refine sm_zero _ fun v hv => ?_
      have e1 : (u * h.length + v) / h.length = u := by rw [Nat.mul_comm, Nat.mul_add_div hh.1.1, Nat.div_eq_of_lt hv]; rfl
      have hpf : p1 u = false := by simpa using hp
      rw [e1, hpf]; rfl
  have hl2 : Lgt h (fun v => wgD g * sm g.length (fun u => w (u * h.length + v))) (wgN g * S) := fun p2 hp2 => by
    have := lgt_top hg (fun u hu => by
      show 0 ≤ sm h.length (fun v => if p2 v = true then w (u * h.length + v) else 0)
      exact sm_nn fun v hv => by
        show 0 ≤ if p2 v = true then w (u * h.length + v) else 0
        split
        · exact hw u v hu hv
        · exact Int.le_refl _) (hlg p2 hp2)
    rw [sm_swap] at this
    refine Int.le_trans (Int.le_of_eq ?_) this
    rw [Int.mul_comm (sm _ _), ← sm_mul]
    refine sm_congr _ fun v _ => ?_
    show (if p2 v = true then wgD g * sm g.length (fun u => w (u * h.length + v)) else 0) = wgD g * sm g.length (fun u => if p2 v = true then w (u * h.length + v) else 0)
    cases hp : p2 v
    · simp only [Bool.false_eq_true, if_false]
      rw [sm_zero _ (fun _ _ => rfl), Int.mul_zero]
    · simp only [if_true]
  have h3 := lgt_top hh (fun v hv => Int.mul_nonneg (by omega) (sm_nn fun u hu => hw u v hu hv)) hl2
  rw [sm_mul, ← sm_swap, ← sm_prod h.length w, ← hJ.len] at h3
  -- wgN J * S = Z * wgD J
  obtain ⟨_, _, _, _, dJ, _⟩ := wg_ok hJ.gJ
  have h4 : (wgN J * (wgD g * wgD h)) * S ≤ (wgN g * wgN h * wgD J) * S := by
    have e1 : wgN J * (wgD g * wgD h) * S = (wgD g * sm J.length w * wgD h) * wgD J := by
      have : wgN J * (wgD g * wgD h) * S = (wgN J * S) * (wgD g * wgD h) := by rw [Int.mul_assoc, Int.mul_comm (wgD g * wgD h), Int.mul_assoc]
      rw [this, w3]
      simp only [Int.mul_assoc, Int.mul_comm, Int.mul_left_comm]
    have e2 : wgN g * wgN h * wgD J * S = (wgN h * (wgN g * S)) * wgD J := by
      simp only [Int.mul_assoc, Int.mul_comm, Int.mul_left_comm]
    rw [e1, e2]
    exact Int.mul_le_mul_of_nonneg_right h3 (by omega)
  exact Int.le_of_mul_le_mul_right h4 hS
theorem joined_ge {g h J : List Int} (hg : Gr g) (hh : Gr h) (hJ : Joined g h J) : wgN g * wgN h * wgD J ≤ wgN J * (wgD g * wgD h) := by
  obtain ⟨x, s, hs, x1, x2, x3⟩ := lgt_ex hg
  obtain ⟨y, t, ht, y1, y2, y3⟩ := lgt_ex hh
  have e1 : ∀ u v, v < h.length → (u * h.length + v) / h.length = u := fun u v hv => by rw [Nat.mul_comm, Nat.mul_add_div hh.1.1, Nat.div_eq_of_lt hv]; rfl
  have e2 : ∀ u v, v < h.length → (u * h.length + v) % h.length = v := fun u v hv => by rw [Nat.mul_comm, Nat.mul_add_mod, Nat.mod_eq_of_lt hv]
  have hl : Lgt J (fun k => x (k / h.length) * y (k % h.length)) (s * t) := fun p hp => by
    let P1 : Nat → Bool := fun u => (List.range h.length).any fun v => p (u * h.length + v)
    let P2 : Nat → Bool := fun v => (List.range g.length).any fun u => p (u * h.length + v)
    have c1 : Clq g P1 := fun u u' hu hu' h1 h2 => by
      obtain ⟨v, hv, q1⟩ := List.any_eq_true.1 h1
      obtain ⟨v', hv', q2⟩ := List.any_eq_true.1 h2
      have hv := List.mem_range.1 hv
      have hv' := List.mem_range.1 hv'
      have := hp _ _ (by rw [hJ.len]; exact ix_pair hu hv) (by rw [hJ.len]; exact ix_pair hu' hv') q1 q2
      rw [hJ.near u v u' v' hu hv hu' hv', Bool.and_eq_true] at this
      exact this.1
    have c2 : Clq h P2 := fun v v' hv hv' h1 h2 => by
      obtain ⟨u, hu, q1⟩ := List.any_eq_true.1 h1
      obtain ⟨u', hu', q2⟩ := List.any_eq_true.1 h2
      have hu := List.mem_range.1 hu
      have hu' := List.mem_range.1 hu'
      have := hp _ _ (by rw [hJ.len]; exact ix_pair hu hv) (by rw [hJ.len]; exact ix_pair hu' hv') q1 q2
      rw [hJ.near u v u' v' hu hv hu' hv', Bool.and_eq_true] at this
      exact this.2
    have b1 := x2 P1 c1
    have b2 := y2 P2 c2
    rw [hJ.len, sm_prod]
    have n1 : 0 ≤ sm g.length (fun j => if P1 j = true then x j else 0) := sm_nn fun j hj => by
      show 0 ≤ if P1 j = true then x j else 0
      split
      · exact x1 j hj
      · exact Int.le_refl _
    have n2 : 0 ≤ sm h.length (fun j => if P2 j = true then y j else 0) := sm_nn fun j hj => by
      show 0 ≤ if P2 j = true then y j else 0
      split
      · exact y1 j hj
      · exact Int.le_refl _
    have up : sm g.length (fun u => sm h.length (fun v => if p (u * h.length + v) = true then x ((u * h.length + v) / h.length) * y ((u * h.length + v) % h.length) else 0)) ≤ sm g.length (fun u => sm h.length (fun v => (if P1 u = true then x u else 0) * (if P2 v = true then y v else 0))) := sm_le _ fun u hu => sm_le _ fun v hv => by
      rw [e1 u v hv, e2 u v hv]
      have xu := x1 u hu
      have yv := y1 v hv
      by_cases hpuv : p (u * h.length + v) = true
      · have q1 : P1 u = true := List.any_eq_true.2 ⟨v, List.mem_range.2 hv, hpuv⟩
        have q2 : P2 v = true := List.any_eq_true.2 ⟨u, List.mem_range.2 hu, hpuv⟩
        rw [if_pos hpuv, if_pos q1, if_pos q2]; exact Int.le_refl _
      · rw [if_neg hpuv]
        refine Int.mul_nonneg ?_ ?_ <;> (split <;> omega)
    rw [sm_times] at up
    exact Int.le_trans up (Int.mul_le_mul b1 b2 n2 (by omega))
  have h3 := lgt_top hJ.gJ (fun k hk => by
    rw [hJ.len] at hk
    have d := divlt hh.1.1 hk
    exact Int.mul_nonneg (x1 _ d.1) (y1 _ d.2)) hl
  have hsum : sm J.length (fun k => x (k / h.length) * y (k % h.length)) = sm g.length x * sm h.length y := by
    rw [hJ.len, sm_prod, ← sm_times]
    exact sm_congr _ fun u _ => sm_congr _ fun v hv => by rw [e1 u v hv, e2 u v hv]
  rw [hsum] at h3
  obtain ⟨_, _, _, _, dg, _⟩ := wg_ok hg
  obtain ⟨_, _, _, _, dh, _⟩ := wg_ok hh
  have h4 : (wgN g * wgN h * wgD J) * (s * t) ≤ (wgN J * (wgD g * wgD h)) * (s * t) := by
    have a1 : wgN g * wgN h * wgD J * (s * t) = (wgN g * s) * (wgN h * t) * wgD J := by simp only [Int.mul_assoc, Int.mul_comm, Int.mul_left_comm]
    rw [a1, x3, y3]
    have a2 : sm g.length x * wgD g * (sm h.length y * wgD h) * wgD J = (sm g.length x * sm h.length y * wgD J) * (wgD g * wgD h) := by simp only [Int.mul_assoc, Int.mul_comm, Int.mul_left_comm]
    have a3 : wgN J * (wgD g * wgD h) * (s * t) = (wgN J * (s * t)) * (wgD g * wgD h) := by simp only [Int.mul_assoc, Int.mul_comm, Int.mul_left_comm]
    rw [a2, a3]
    exact Int.mul_le_mul_of_nonneg_right h3 (Int.mul_nonneg (by omega) (by omega))
  exact Int.le_of_mul_le_mul_right h4 (Int.mul_pos hs ht)
/-- both beside each other -/
structure Beside (g h J : List Int) : Prop where
  gJ : Gr J
  len : J.length = g.length + h.length
  n1 : ∀ u u', u < g.length → u' < g.length → nr J u u' = nr g u u'
  n2 : ∀ v v', v < h.length → v' < h.length → nr J (g.length + v) (g.length + v') = nr h v v'
  n3 : ∀ u v, u < g.length → v < h.length → nr J u (g.length + v) = false
theorem beside_le {g h J : List Int} (hg : Gr g) (hh : Gr h) (hJ : Beside g h J) : wgN J * (wgD g * wgD h) ≤ (wgN g * wgD h + wgN h * wgD g) * wgD J := by
  obtain ⟨w, S, hS, w1, w2, w3⟩ := lgt_ex hJ.gJ
  obtain ⟨_, _, _, _, dg, _⟩ := wg_ok hg
  obtain ⟨_, _, _, _, dh, _⟩ := wg_ok hh
  have l1 : Lgt g w S := fun p hp => by
    have key := w2 (fun t => decide (t < g.length) && p t) (fun t t' _ _ h1 h2 => by
      simp only [Bool.and_eq_true, decide_eq_true_eq] at h1 h2
      rw [hJ.n1 t t' h1.1 h2.1]; exact hp t t' h1.1 h2.1 h1.2 h2.2)
    rw [hJ.len, sm_parts] at key
    have z : sm h.length (fun j => if (decide (g.length + j < g.length) && p (g.length + j)) = true then w (g.length + j) else 0) = 0 := sm_zero _ fun j _ => by
      have : ¬ g.length + j < g.length := by omega
      simp [this]
    rw [z] at key
    have e : sm g.length (fun j => if p j = true then w j else 0) = sm g.length (fun j => if (decide (j < g.length) && p j) = true then w j else 0) := sm_congr _ fun u hu => by simp [hu]
    rw [e]; omega
  have l2 : Lgt h (fun v => w (g.length + v)) S := fun p hp => by
    have key := w2 (fun t => decide (g.length ≤ t) && p (t - g.length)) (fun t t' ht ht' h1 h2 => by
      rw [hJ.len] at ht ht'
      simp only [Bool.and_eq_true, decide_eq_true_eq] at h1 h2
      have := hJ.n2 (t - g.length) (t' - g.length) (by omega) (by omega)
      rw [show g.length + (t - g.length) = t from by omega, show g.length + (t' - g.length) = t' from by omega] at this
      rw [this]; exact hp _ _ (by omega) (by omega) h1.2 h2.2)
    rw [hJ.len, sm_parts] at key
    have z : sm g.length (fun j => if (decide (g.length ≤ j) && p (j - g.length)) = true then w j else 0) = 0 := sm_zero _ fun j hj => by
      have : ¬ g.length ≤ j := by omega
      simp [this]
    rw [z] at key
    have e : sm h.length (fun j => if p j = true then w (g.length + j) else 0) = sm h.length (fun j => if (decide (g.length ≤ g.length + j) && p (g.length + j - g.length)) = true then w (g.length + j) else 0) := sm_congr _ fun v hv => by
      have e1 : g.length ≤ g.length + v := by omega
      have e2 : g.length + v - g.length = v := by omega
      simp [e1, e2]
    show sm h.length (fun j => if p j = true then w (g.length + j) else 0) ≤ S
    rw [e]; omega
  have a1 := lgt_top hg (fun u hu => w1 u (by rw [hJ.len]; omega)) l1
  have a2 := lgt_top hh (fun v hv => w1 (g.length + v) (by rw [hJ.len]; omega)) l2
  rw [hJ.len, sm_parts] at w3
  obtain ⟨_, _, _, _, dJ, _⟩ := wg_ok hJ.gJ
  generalize sm g.length w = A at *
  generalize sm h.length (fun j => w (g.length + j)) = B at *
  have h4 : (wgN J * (wgD g * wgD h)) * S ≤ ((wgN g * wgD h + wgN h * wgD g) * wgD J) * S := by
    have e1 : wgN J * (wgD g * wgD h) * S = (wgN J * S) * (wgD g * wgD h) := by simp only [Int.mul_assoc, Int.mul_comm, Int.mul_left_comm]
    rw [e1, w3]
    have e2 : (A + B) * wgD J * (wgD g * wgD h) = ((A * wgD g) * wgD h + (B * wgD h) * wgD g) * wgD J := by
      simp only [Int.add_mul, Int.mul_add]
      congr 1 <;> simp only [Int.mul_assoc, Int.mul_comm, Int.mul_left_comm]
    have e3 : (wgN g * wgD h + wgN h * wgD g) * wgD J * S = ((wgN g * S) * wgD h + (wgN h * S) * wgD g) * wgD J := by
      simp only [Int.add_mul, Int.mul_add]
      congr 1 <;> simp only [Int.mul_assoc, Int.mul_comm, Int.mul_left_comm]
    rw [e2, e3]
    refine Int.mul_le_mul_of_nonneg_right (Int.add_le_add ?_ ?_) (by omega)
    · exact Int.mul_le_mul_of_nonneg_right a1 (by omega)
    · exact Int.mul_le_mul_of_nonneg_right a2 (by omega)
  exact Int.le_of_mul_le_mul_right h4 hS
theorem beside_ge {g h J : List Int} (hg : Gr g) (hh : Gr h) (hJ : Beside g h J) : (wgN g * wgD h + wgN h * wgD g) * wgD J ≤ wgN J * (wgD g * wgD h) := by
  obtain ⟨x, s, hs, x1, x2, x3⟩ := lgt_ex hg
  obtain ⟨y, t, ht, y1, y2, y3⟩ := lgt_ex hh
  let w : Nat → Int := fun k => if k < g.length then x k * t else y (k - g.length) * s
  have hl : Lgt J w (s * t) := fun p hp => by
    have c1 : Clq g p := fun u u' hu hu' h1 h2 => by
      rw [← hJ.n1 u u' hu hu']; exact hp u u' (by rw [hJ.len]; omega) (by rw [hJ.len]; omega) h1 h2
    have c2 : Clq h (fun v => p (g.length + v)) := fun v v' hv hv' h1 h2 => by
      rw [← hJ.n2 v v' hv hv']; exact hp _ _ (by rw [hJ.len]; omega) (by rw [hJ.len]; omega) h1 h2
    have b1 := x2 p c1
    have b2 := y2 _ c2
    rw [hJ.len, sm_parts]
    have p1 : sm g.length (fun j => if p j = true then w j else 0) = t * sm g.length (fun j => if p j = true then x j else 0) := by
      rw [← sm_mul]; refine sm_congr _ fun j hj => ?_
      simp only [w, if_pos hj]; split
      · exact Int.mul_comm _ _
      · exact (Int.mul_zero _).symm
    have p2 : sm h.length (fun j => if p (g.length + j) = true then w (g.length + j) else 0) = s * sm h.length (fun j => if p (g.length + j) = true then y j else 0) := by
      rw [← sm_mul]; refine sm_congr _ fun j hj => ?_
      have e1 : ¬ g.length + j < g.length := by omega
      have e2 : g.length + j - g.length = j := by omega
      simp only [w, if_neg e1, e2]; split
      · exact Int.mul_comm _ _
      · exact (Int.mul_zero _).symm
    rw [p1, p2]
    have m1 := Int.mul_le_mul_of_nonneg_left b1 (show 0 ≤ t by omega)
    have m2 := Int.mul_le_mul_of_nonneg_left b2 (show 0 ≤ s by omega)
    rw [Int.mul_comm t s] at m1
    -- one of the parts is empty
    by_cases hu : ∃ u, u < g.length ∧ p u = true
    · obtain ⟨u, u1, u2⟩ := hu
      have z : sm h.length (fun j => if p (g.length + j) = true then y j else 0) = 0 := sm_zero _ fun v hv => by
        refine if_neg fun hpv => ?_
        have := hp u (g.length + v) (by rw [hJ.len]; omega) (by rw [hJ.len]; omega) u2 hpv
        rw [hJ.n3 u v u1 hv] at this; cases this
      rw [z, Int.mul_zero]; omega
    · have z : sm g.length (fun j => if p j = true then x j else 0) = 0 := sm_zero _ fun u hu' => if_neg fun hpu => hu ⟨u, hu', hpu⟩
      rw [z, Int.mul_zero]; omega
  have h3 := lgt_top hJ.gJ (fun k hk => by
    show 0 ≤ if k < g.length then x k * t else y (k - g.length) * s
    rw [hJ.len] at hk
    split
    · exact Int.mul_nonneg (x1 _ (by assumption)) (by omega)
    · exact Int.mul_nonneg (y1 _ (by omega)) (by omega)) hl
  have hsum : sm J.length w = t * sm g.length x + s * sm h.length y := by
    rw [hJ.len, sm_parts, ← sm_mul, ← sm_mul]
    congr 1
    · exact sm_congr _ fun u hu => by simp only [w, if_pos hu]; exact Int.mul_comm _ _
    · refine sm_congr _ fun v hv => ?_
      have e1 : ¬ g.length + v < g.length := by omega
      have e2 : g.length + v - g.length = v := by omega
      simp only [w, if_neg e1, e2]; exact Int.mul_comm _ _
  rw [hsum] at h3
  obtain ⟨_, _, _, _, dg, _⟩ := wg_ok hg
  obtain ⟨_, _, _, _, dh, _⟩ := wg_ok hh
  generalize sm g.length x = A at *
  generalize sm h.length y = B at *
  have h4 : ((wgN g * wgD h + wgN h * wgD g) * wgD J) * (s * t) ≤ (wgN J * (wgD g * wgD h)) * (s * t) := by
    have e1 : (wgN g * wgD h + wgN h * wgD g) * wgD J * (s * t) = ((wgN g * s) * (wgD h * t) + (wgN h * t) * (wgD g * s)) * wgD J := by
      simp only [Int.add_mul, Int.mul_add]
      congr 1 <;> simp only [Int.mul_assoc, Int.mul_comm, Int.mul_left_comm]
    rw [e1, x3, y3]
    have e2 : (A * wgD g * (wgD h * t) + B * wgD h * (wgD g * s)) * wgD J = ((t * A + s * B) * wgD J) * (wgD g * wgD h) := by
      simp only [Int.add_mul, Int.mul_add]
      congr 1 <;> simp only [Int.mul_assoc, Int.mul_comm, Int.mul_left_comm]
    have e3 : wgN J * (wgD g * wgD h) * (s * t) = (wgN J * (s * t)) * (wgD g * wgD h) := by simp only [Int.mul_assoc, Int.mul_comm, Int.mul_left_comm]
    rw [e2, e3]
    exact Int.mul_le_mul_of_nonneg_right h3 (Int.mul_nonneg (by omega) (by omega))
  exact Int.le_of_mul_le_mul_right h4 (Int.mul_pos hs ht)
end Go.Proofs.Sur

