/- Equations of a linear program: steps by the first unknown come to an end. -/
import Derived.Test.YtlomlnkafakloaaDoorSxE
set_option linter.unusedSimpArgs false
set_option linter.unusedVariables false
set_option linter.unnecessarySimpa false
namespace Go.Proofs.Sur
set_option maxHeartbeats 1000000
abbrev Tb := List Int × List Int × Int
def Good (n m : Nat) (b : Nat → Nat → Bool) (T : Tb) : Prop := (∃ N σ, Lp n m b N σ T.1 T.2.1 T.2.2) ∧ ∀ i, i < m → 0 ≤ cel n m T.1 i (n + m)
def Stp (n m : Nat) (T : Tb) (e l : Nat) (T' : Tb) : Prop := ent n m T.1 = some e ∧ lv n m T.1 T.2.1 e m = some l ∧ T' = (trnL n m T.1 l e T.2.2, T.2.1.set l (e : Int), cel n m T.1 l e)
def Zr (n m : Nat) (b : Nat → Nat → Bool) (T : Tb) (u : Nat) : Prop := ∃ N σ, Lp n m b N σ T.1 T.2.1 T.2.2 ∧ σ * om (n + 1) (up (vv n b N) 0 (vc n b u)) = 0
def InB (m : Nat) (T : Tb) (u : Nat) : Prop := ∃ i, i < m ∧ (gt T.2.1 i).toNat = u
variable {n m : Nat} {b : Nat → Nat → Bool}
theorem Lp.slot {N : Nat → Nat} {σ : Int} {R B : List Int} {s : Int} (h : Lp n m b N σ R B s) {e : Nat} (he : e < n + m) (hc : cel n m R m e ≠ 0) : ∃ q, 1 ≤ q ∧ q ≤ n ∧ N q = e := by
  rcases h.cov e he with h1 | ⟨i, i1, i2⟩
  · exact h1
  · exfalso
    have := h.cB m i (Nat.le_refl m) i1
    rw [i2, if_neg (by omega)] at this
    exact hc this
theorem inB_zero {T : Tb} (h : Good n m b T) {u : Nat} (hu : InB m T u) : cel n m T.1 m u = 0 := by
  obtain ⟨⟨N, σ, hL⟩, _⟩ := h
  obtain ⟨i, i1, i2⟩ := hu
  have := hL.cB m i (Nat.le_refl m) i1
  rw [i2, if_neg (by omega)] at this
  exact this
theorem psi {N : Nat → Nat} {σ : Int} {R B : List Int} {s : Int} (h : Lp n m b N σ R B s) {q l : Nat} (hq1 : 1 ≤ q) (hq : q ≤ n) (hl : l < m) (f : Vec) :
    s * (-σ * om (n + 1) (up (up (vv n b N) q (vc n b (gt B l).toNat)) 0 f)) = cel n m R l (N q) * (σ * om (n + 1) (up (vv n b N) 0 f)) + σ * om (n + 1) (up (vv n b N) q f) * cel n m R l (n + m) := by
  have hrl0 : rv n m b B l = vc n b (gt B l).toNat := by simp only [rv]; rw [if_pos hl]
  have k0 := three h.cr (p := 0) (q := q) (by omega) (by omega) (by omega) (vc n b (gt B l).toNat) f
  rw [h.cN l q (by omega) hq1 hq, h.c0 l (by omega), hrl0, h.eqs]
  have sg := h.sg
  simp only [Int.neg_mul, Int.mul_neg]
  rw [sq1 sg, sq1 sg, sq1 sg, k0]
  omega
theorem good_step {T T' : Tb} {e l : Nat} (h : Good n m b T) (hs : Stp n m T e l T') :
    Good n m b T' ∧ cel n m T'.1 m (n + m) * T.2.2 = cel n m T.1 m (n + m) * T'.2.2 - cel n m T.1 m e * cel n m T.1 l (n + m) ∧ 0 < T.2.2 ∧ l < m ∧ 0 < cel n m T.1 m e ∧
    (cel n m T.1 l (n + m) = 0 → ∀ u, Zr n m b T u → Zr n m b T' u) := by
  obtain ⟨R, B, s⟩ := T
  obtain ⟨h1, h2, rfl⟩ := hs
  simp only at h1 h2 ⊢
  obtain ⟨e1, e2, _⟩ := ent_some h1
  obtain ⟨l1, l2, l3⟩ := (lv_spec m).2 l h2
  obtain ⟨⟨N, σ, hL⟩, hF⟩ := h
  simp only at hL hF
  have turn : ∀ N σ, Lp n m b N σ R B s → ∃ q, 1 ≤ q ∧ q ≤ n ∧ N q = e ∧ Lp n m b (fun p => if p = q then (gt B l).toNat else N p) (-σ) (trnL n m R l e s) (B.set l (e : Int)) (cel n m R l e) := fun N σ hL => by
    obtain ⟨q, q1, q2, q3⟩ := hL.slot e1 (by omega)
    subst q3
    exact ⟨q, q1, q2, rfl, hL.turn q1 q2 l1 l2 (trn_len R l (N q) s) (fun j c hj hc => trn_cel hL.lenR l (N q) s hj hc)⟩
  have vup : ∀ N q, 1 ≤ q → vv n b (fun p => if p = q then (gt B l).toNat else N p) = up (vv n b N) q (vc n b (gt B l).toNat) := fun N q hq1 => by
    funext p
    by_cases e : p = q
    · subst e; rw [up_same]; simp only [vv, if_true]; rw [if_neg (by omega)]
    · rw [up_ne _ _ e]; simp only [vv, if_neg e]
  have pos := hL.pos
  refine ⟨⟨?_, fun i hi => ?_⟩, ?_, pos, l1, e2, fun hz u hu => ?_⟩
  · obtain ⟨q, _, _, _, h4⟩ := turn N σ hL
    exact ⟨_, _, h4⟩
  · show 0 ≤ cel n m (trnL n m R l e s) i (n + m)
    rw [trn_cel hL.lenR l e s (by omega) (by omega)]
    split
    · exact hF l l1
    · refine Int.tdiv_nonneg ?_ (by omega)
      have r1 := hF i hi
      have r2 := hF l l1
      by_cases hc : 0 < cel n m R i e
      · have := l3 i hi hc
        unfold tg at this
        have h5 : ¬ (cel n m R i (n + m) * cel n m R l e < cel n m R l (n + m) * cel n m R i e) := fun q => this (.inl q)
        rw [Int.mul_comm (cel n m R i e)]
        omega
      · have h5 : 0 ≤ cel n m R i (n + m) * cel n m R l e := Int.mul_nonneg r1 (by omega)
        have h6 : 0 ≤ -cel n m R i e * cel n m R l (n + m) := Int.mul_nonneg (by omega) r2
        rw [Int.neg_mul] at h6
        omega
  · obtain ⟨q, q1, q2, q3, h4⟩ := turn N σ hL
    have c1 := h4.c0 m (Nat.le_refl m)
    have c2 := hL.c0 m (Nat.le_refl m)
    have hrm : ∀ B', rv n m b B' m = oo := fun B' => by simp only [rv]; rw [if_neg (by omega)]
    rw [hrm, vup N q q1] at c1
    rw [hrm] at c2
    have p := psi hL q1 q2 l1 oo
    have c3 := hL.cN m q (Nat.le_refl m) q1 q2
    rw [hrm] at c3
    rw [← c1, ← c2, q3] at p
    rw [q3] at c3
    show cel n m (trnL n m R l e s) m (n + m) * s = _
    rw [Int.mul_comm, p, c3, Int.neg_mul, Int.neg_mul]
    rw [Int.mul_comm (cel n m R l e)]
    omega
  · obtain ⟨N, σ, hL, hψ⟩ := hu
    obtain ⟨q, q1, q2, q3, h4⟩ := turn N σ hL
    refine ⟨_, _, h4, ?_⟩
    rw [vup N q q1]
    have p := psi hL q1 q2 l1 (vc n b u)
    have hz : cel n m R l (n + m) = 0 := hz
    have hψ : σ * om (n + 1) (up (vv n b N) 0 (vc n b u)) = 0 := hψ
    rw [hψ, hz, Int.mul_zero, Int.mul_zero, Int.zero_add] at p
    rcases Int.mul_eq_zero.1 p with h | h
    · have h1 : (0 : Int) < s := pos
      have h2 : s = 0 := h
      omega
    · exact h
theorem pigeon {α : Type} : ∀ (L : List α) (f : Nat → α), (∀ k, f k ∈ L) → ∃ i j, i < j ∧ f i = f j
  | [], f, h => absurd (h 0) (by simp)
  | a :: L, f, h => by
    by_cases h1 : ∃ i, f i = a
    · obtain ⟨i, hi⟩ := h1
      by_cases h2 : ∃ j, i < j ∧ f j = a
      · obtain ⟨j, j1, j2⟩ := h2
        exact ⟨i, j, j1, by rw [hi, j2]⟩
      · obtain ⟨x, y, h3, h4⟩ := pigeon L (fun k => f (i + 1 + k)) (fun k => by
          rcases List.mem_cons.1 (h (i + 1 + k)) with h5 | h5
          · exact absurd ⟨i + 1 + k, by omega, h5⟩ h2
          · exact h5)
        exact ⟨i + 1 + x, i + 1 + y, by omega, h4⟩
    · exact pigeon L f (fun k => by
        rcases List.mem_cons.1 (h k) with h5 | h5
        · exact absurd ⟨k, h5⟩ h1
        · exact h5)
def allI (K : Nat) : List Int := (List.range (2 * K + 1)).map fun (i : Nat) => (i : Int) - K
def allL (K : Nat) : Nat → List (List Int)
  | 0 => [[]]
  | k + 1 => (allI K).flatMap fun x => (allL K k).map (x :: ·)
theorem mem_allI {K : Nat} {x : Int} (h : -K ≤ x ∧ x ≤ K) : x ∈ allI K := by
  rw [allI, List.mem_map]
  exact ⟨(x + K).toNat, List.mem_range.2 (by omega), by omega⟩
theorem mem_allL {K : Nat} : ∀ {k : Nat} {l : List Int}, l.length = k → (∀ x ∈ l, -K ≤ x ∧ x ≤ K) → l ∈ allL K k
  | 0, l, h, _ => by
    have := List.length_eq_zero_iff.1 h
    subst this; simp [allL]
  | k + 1, [], h, _ => by simp at h
  | k + 1, x :: l, h, hx => by
    simp only [allL, List.mem_flatMap, List.mem_map]
    exact ⟨x, mem_allI (hx x (by simp)), l, mem_allL (by simpa using h) (fun y hy => hx y (by simp [hy])), rfl⟩
theorem mem_gt {l : List Int} {x : Int} (h : x ∈ l) : ∃ i, i < l.length ∧ gt l i = x := by
  obtain ⟨i, hi, e⟩ := List.mem_iff_getElem.1 h
  exact ⟨i, hi, by simp [gt, List.getD_eq_getElem?_getD, List.getElem?_eq_getElem hi, e]⟩
theorem good_fin (hn : n ≤ 6) : ∃ L : List Tb, ∀ T, Good n m b T → T ∈ L := by
  let K := 5040 + n + m
  refine ⟨(allL K ((m + 1) * (n + m + 1))).flatMap fun R => (allL K m).flatMap fun B => (allI K).map fun s => (R, B, s), fun T h => ?_⟩
  obtain ⟨R, B, s⟩ := T
  obtain ⟨⟨N, σ, hL⟩, _⟩ := h
  simp only at hL
  have hK : (K : Int) = 5040 + n + m := by simp [K]
  simp only [List.mem_flatMap, List.mem_map]
  refine ⟨R, mem_allL hL.lenR (fun x hx => ?_), B, mem_allL hL.lenB (fun x hx => ?_), s, mem_allI ?_, rfl⟩
  · obtain ⟨i, hi, rfl⟩ := mem_gt hx
    rw [hL.lenR] at hi
    have hw : 0 < n + m + 1 := by omega
    have e : i / (n + m + 1) * (n + m + 1) + i % (n + m + 1) = i := Nat.div_add_mod' i _
    have h1 : i / (n + m + 1) ≤ m := by
      have := Nat.div_lt_of_lt_mul (m := i) (n := n + m + 1) (k := m + 1) (by rw [Nat.mul_comm]; exact hi)
      omega
    have h2 : i % (n + m + 1) ≤ n + m := by have := Nat.mod_lt i hw; omega
    have := hL.cel_le hn h1 h2
    simp only [cel, e] at this
    omega
  · obtain ⟨i, hi, rfl⟩ := mem_gt hx
    rw [hL.lenB] at hi
    have := hL.Blt i hi
    omega
  · have := hL.s_le hn
    have := hL.pos
    omega
theorem maxi {Q : Nat → Prop} : ∀ (M : Nat), (∀ u, Q u → u < M) → (∃ u, Q u) → ∃ t, Q t ∧ ∀ u, Q u → u ≤ t
  | 0, h, ⟨u, hu⟩ => absurd (h u hu) (Nat.not_lt_zero _)
  | M + 1, h, hex => by
    by_cases hM : Q M
    · exact ⟨M, hM, fun u hu => by have := h u hu; omega⟩
    · exact maxi M (fun u hu => by
        have := h u hu
        have : u ≠ M := fun e => hM (e ▸ hu)
        omega) hex
theorem sm_pos {d : Nat} : ∀ {f : Nat → Int}, 0 < sm d f → ∃ i, i < d ∧ 0 < f i := by
  induction d with
  | zero => intro f h; simp [sm] at h
  | succ d ih =>
    intro f h
    simp only [sm] at h
    by_cases hf : 0 < f d
    · exact ⟨d, by omega, hf⟩
    · obtain ⟨i, hi, h2⟩ := ih (f := f) (by omega)
      exact ⟨i, by omega, h2⟩
theorem falls {Q : Nat → Prop} : ∀ (d a : Nat), Q a → ¬ Q (a + d) → ∃ k, a ≤ k ∧ k < a + d ∧ Q k ∧ ¬ Q (k + 1)
  | 0, a, h1, h2 => absurd h1 h2
  | d + 1, a, h1, h2 => by
    by_cases h : Q (a + 1)
    · obtain ⟨k, k1, k2, k3, k4⟩ := falls d (a + 1) h (by rw [show a + 1 + d = a + (d + 1) from by omega]; exact h2)
      exact ⟨k, by omega, by omega, k3, k4⟩
    · exact ⟨a, Nat.le_refl _, by omega, h1, h⟩
theorem Lp.along {N : Nat → Nat} {σ : Int} {R B : List Int} {s : Int} (h : Lp n m b N σ R B s) (y : Nat → Int) (h0 : y 0 = 0) :
    s * sm (n + 1) (fun c => oo c * y c) = sm (n + 1) (fun p => if p = 0 then 0 else -cel n m R m (N p) * sm (n + 1) (fun c => vc n b (N p) c * y c)) := by
  have hrm : rv n m b B m = oo := by simp only [rv]; rw [if_neg (by omega)]
  rw [← sm_mul]
  have e1 : sm (n + 1) (fun c => s * (oo c * y c)) = sm (n + 1) (fun c => sm (n + 1) (fun p => σ * om (n + 1) (up (vv n b N) p oo) * vv n b N p c * y c)) := sm_congr _ fun c hc => by
    have := h.cr oo c hc
    have e : s * (oo c * y c) = σ * y c * (om (n + 1) (vv n b N) * oo c) := by
      rw [h.eqs]
      generalize om (n + 1) (vv n b N) = a
      simp only [Int.mul_assoc]; congr 1
      rw [Int.mul_left_comm (y c), Int.mul_comm (y c)]
    rw [e, this, ← sm_mul]
    refine sm_congr _ fun p _ => ?_
    simp only [Int.mul_assoc]; congr 1
    simp only [Int.mul_comm, Int.mul_left_comm]
  rw [e1, sm_swap]
  refine sm_congr _ fun p hp => ?_
  by_cases e : p = 0
  · subst e
    rw [if_pos rfl]
    refine sm_zero _ fun c _ => ?_
    simp only [vv, if_true, st]
    by_cases ec : c = 0
    · subst ec; rw [h0, Int.mul_zero]
    · rw [if_neg ec, Int.mul_zero, Int.zero_mul]
  · rw [if_neg e, h.cN m p (Nat.le_refl m) (by omega) (by omega), hrm, ← sm_mul]
    refine sm_congr _ fun c _ => ?_
    have : vv n b N p = vc n b (N p) := by simp only [vv, if_neg e]
    rw [this]
    simp only [Int.neg_mul, Int.neg_neg, Int.mul_assoc]
theorem bland (hn : n ≤ 6) (F : Nat → Tb) (h0 : Good n m b (F 0)) (hs : ∀ k, ∃ e l, Stp n m (F k) e l (F (k + 1))) : False := by
  have hg : ∀ k, Good n m b (F k) := fun k => by
    induction k with
    | zero => exact h0
    | succ k ih => obtain ⟨e, l, h⟩ := hs k; exact (good_step ih h).1
  obtain ⟨L, hL⟩ := good_fin (n := n) (m := m) (b := b) hn
  obtain ⟨i, j, hij, heq⟩ := pigeon L F (fun k => hL _ (hg k))
  -- from i on it goes round
  have round0 : ∀ d, F (i + d) = F (j + d) := fun d => by
    induction d with
    | zero => exact heq
    | succ d ih =>
      obtain ⟨e, l, a1, a2, a3⟩ := hs (i + d)
      obtain ⟨e', l', b1, b2, b3⟩ := hs (j + d)
      rw [ih] at a1 a2 a3
      rw [a1] at b1; cases b1
      rw [a2] at b2; cases b2
      show F (i + d + 1) = F (j + d + 1)
      rw [a3, b3]
  obtain ⟨P, hP⟩ : ∃ P, j = i + (P + 1) := ⟨j - i - 1, by omega⟩
  have hG : ∃ G : Nat → Tb, (∀ k, Good n m b (G k)) ∧ (∀ k, ∃ e l, Stp n m (G k) e l (G (k + 1))) ∧ ∀ k, G (k + (P + 1)) = G k :=
    ⟨fun k => F (i + k), fun k => hg _, fun k => hs _, fun k => by
      show F (i + (k + (P + 1))) = F (i + k)
      rw [round0 k, hP]; congr 1; omega⟩
  clear heq hij round0 hP hs h0 hg
  obtain ⟨G, hg, hs, per⟩ := hG
  have pos : ∀ k, 0 < (G k).2.2 := fun k => by
    obtain ⟨e, l, h⟩ := hs k; exact (good_step (hg k) h).2.2.1
  let z : Nat → Int := fun k => cel n m (G k).1 m (n + m)
  have one : ∀ k, z (k + 1) * (G k).2.2 ≤ z k * (G (k + 1)).2.2 := fun k => by
    obtain ⟨e, l, h⟩ := hs k
    obtain ⟨_, h2, _, h4, h5, _⟩ := good_step (hg k) h
    have h6 := (hg k).2 l h4
    have h7 := Int.mul_nonneg (Int.le_of_lt h5) h6
    show cel n m (G (k + 1)).1 m (n + m) * (G k).2.2 ≤ cel n m (G k).1 m (n + m) * (G (k + 1)).2.2
    omega
  have many : ∀ d a, z (a + d) * (G a).2.2 ≤ z a * (G (a + d)).2.2 := fun d => by
    induction d with
    | zero => intro a; exact Int.le_refl _
    | succ d ih =>
      intro a
      have h1 := ih a
      have h2 := one (a + d)
      have p1 := pos a
      have p2 := pos (a + d)
      have p3 := pos (a + d + 1)
      show z (a + d + 1) * (G a).2.2 ≤ z a * (G (a + d + 1)).2.2
      generalize z (a + d + 1) = z3 at *
      generalize z (a + d) = z2 at *
      generalize z a = z1 at *
      generalize (G a).2.2 = s1 at *
      generalize (G (a + d)).2.2 = s2 at *
      generalize (G (a + d + 1)).2.2 = s3 at *
      have q1 : z3 * s2 * s1 ≤ z2 * s3 * s1 := Int.mul_le_mul_of_nonneg_right h2 (by omega)
      have q2 : z2 * s1 * s3 ≤ z1 * s2 * s3 := Int.mul_le_mul_of_nonneg_right h1 (by omega)
      have e1 : z3 * s2 * s1 = z3 * s1 * s2 := by rw [Int.mul_assoc, Int.mul_comm s2, Int.mul_assoc]
      have e2 : z2 * s3 * s1 = z2 * s1 * s3 := by rw [Int.mul_assoc, Int.mul_comm s3, Int.mul_assoc]
      have e3 : z1 * s2 * s3 = z1 * s3 * s2 := by rw [Int.mul_assoc, Int.mul_comm s2, Int.mul_assoc]
      exact Int.le_of_mul_le_mul_right (a := s2) (by omega) p2
  have flat : ∀ k e l, Stp n m (G k) e l (G (k + 1)) → cel n m (G k).1 l (n + m) = 0 := fun k e l h => by
    obtain ⟨_, h2, _, h4, h5, _⟩ := good_step (hg k) h
    have h6 := (hg k).2 l h4
    have h8 := many P (k + 1)
    have e8 : k + 1 + P = k + (P + 1) := by omega
    rw [e8] at h8
    have h9 : z (k + (P + 1)) = z k := by show cel n m (G (k + (P + 1))).1 m (n + m) = cel n m (G k).1 m (n + m); rw [per k]
    rw [h9, per k] at h8
    have h8 : cel n m (G k).1 m (n + m) * (G (k + 1)).2.2 ≤ cel n m (G (k + 1)).1 m (n + m) * (G k).2.2 := h8
    rcases Int.lt_or_eq_of_le h6 with h | h
    · have := Int.mul_pos h5 h; omega
    · exact h.symm
  -- the greatest unknown that ever comes in
  obtain ⟨t, ⟨ks, hks⟩, ht⟩ := maxi (Q := fun u => ∃ k, ent n m (G k).1 = some u) (n + m) (fun u ⟨k, hk⟩ => (ent_some hk).1) (by
    obtain ⟨e, l, h1, _⟩ := hs 0; exact ⟨e, 0, h1⟩)
  have comes : ∀ k u, ¬ InB m (G k) u → InB m (G (k + 1)) u → ent n m (G k).1 = some u := fun k u h1 h2 => by
    obtain ⟨e, l, g1, g2, g3⟩ := hs k
    obtain ⟨i, i1, i2⟩ := h2
    rw [g3] at i2
    obtain ⟨⟨N, σ, hL⟩, _⟩ := hg k
    have hl := ((lv_spec m).2 l g2).1
    rw [gt_set (by rw [hL.lenB]; exact hl)] at i2
    by_cases e' : i = l
    · rw [if_pos e'] at i2
      have : e = u := by omega
      rw [← this]; exact g1
    · rw [if_neg e'] at i2
      exact absurd ⟨i, i1, i2⟩ h1
  have inAfter : InB m (G (ks + 1)) t := by
    obtain ⟨e, l, g1, g2, g3⟩ := hs ks
    rw [hks] at g1; cases g1
    obtain ⟨⟨N, σ, hL⟩, _⟩ := hg ks
    have hl := ((lv_spec m).2 l g2).1
    exact ⟨l, hl, by rw [g3]; simp only; rw [gt_set (by rw [hL.lenB]; exact hl), if_pos rfl]; omega⟩
  have costT := (ent_some hks).2.1
  have notIn : ¬ InB m (G (ks + 1 + P)) t := fun h => by
    have e8 : ks + 1 + P = ks + (P + 1) := by omega
    rw [e8, per ks] at h
    have := inB_zero (hg ks) h
    omega
  obtain ⟨kd, k1, k2, k3, k4⟩ := falls (Q := fun k => InB m (G k) t) P (ks + 1) inAfter notIn
  obtain ⟨e, l, hD⟩ := hs kd
  obtain ⟨g1, g2, g3⟩ := hD
  have hflat := flat kd e l ⟨g1, g2, g3⟩
  obtain ⟨e1, e2, e3⟩ := ent_some g1
  obtain ⟨l1, l2, l3⟩ := (lv_spec m).2 l g2
  have het : e ≤ t := ht e ⟨kd, g1⟩
  have cD := inB_zero (hg kd) k3
  have hne : e ≠ t := fun h => by rw [h] at e2; omega
  obtain ⟨⟨N, σ, hL⟩, hFD⟩ := hg kd
  obtain ⟨⟨N', σ', hL'⟩, hF'⟩ := hg ks
  have hBl : (gt (G kd).2.1 l).toNat = t := by
    obtain ⟨i, i1, i2⟩ := k3
    by_cases e' : i = l
    · rw [← e']; exact i2
    · exfalso
      refine k4 ⟨i, i1, ?_⟩
      rw [g3]; simp only
      rw [gt_set (by rw [hL.lenB]; exact l1), if_neg e']; exact i2
  obtain ⟨q, q1, q2, q3⟩ := hL.slot e1 (by omega)
  obtain ⟨y, y0, _, y1, y2, y3⟩ := hL.dir q1 q2
  have hob := y3 m (Nat.le_refl m)
  have hrm : rv n m b (G kd).2.1 m = oo := by simp only [rv]; rw [if_neg (by omega)]
  rw [hrm, q3] at hob
  have al := hL'.along y y0
  rw [hob, Int.mul_neg] at al
  have sp := hL'.pos
  have hmul := Int.mul_pos sp e2
  have al2 : 0 < sm (n + 1) (fun p => -(if p = 0 then 0 else -cel n m (G ks).1 m (N' p) * sm (n + 1) (fun c => vc n b (N' p) c * y c))) := by
    rw [sm_neg, ← al]; omega
  obtain ⟨p, p1, p2⟩ := sm_pos al2
  have hp0 : p ≠ 0 := fun h => by rw [if_pos h] at p2; omega
  rw [if_neg hp0, Int.neg_mul, Int.neg_neg] at p2
  have hv := hL'.Nlt p (by omega) (by omega)
  generalize hvv : N' p = v at *
  have hcv : cel n m (G ks).1 m v ≠ 0 := fun h => by rw [h, Int.zero_mul] at p2; omega
  have hle : 0 < cel n m (G ks).1 m v → t ≤ v := fun h => by
    refine Nat.le_of_not_lt fun hlt => ?_
    have := (ent_some hks).2.2 v hlt
    omega
  have hvks : ¬ InB m (G ks) v := fun h => hcv (inB_zero (hg ks) h)
  rcases hL.cov v hv with ⟨p', r1, r2, r3⟩ | ⟨i, i1, i2⟩
  · by_cases h : p' = q
    · -- v is what comes in
      have hve : v = e := by rw [← r3, h, q3]
      rw [hve, ← q3, y2, q3] at p2
      have h5 : 0 < cel n m (G ks).1 m e := by
        have := hL.pos
        exact Int.not_le.1 fun hc => by
          have := Int.mul_nonneg (show 0 ≤ -cel n m (G ks).1 m e by omega) (Int.le_of_lt this)
          rw [Int.neg_mul] at this; omega
      have := hle (hve ▸ h5)
      omega
    · rw [← r3, y1 p' r1 r2 h, Int.mul_zero] at p2; omega
  · have hΦ := y3 i (by omega)
    have hri : rv n m b (G kd).2.1 i = vc n b v := by simp only [rv, if_pos i1, i2]
    rw [hri, q3] at hΦ
    rw [hΦ, Int.mul_neg] at p2
    have hInD : InB m (G kd) v := ⟨i, i1, i2⟩
    have hvt : v ≤ t := by
      obtain ⟨k, _, _, c3, c4⟩ := falls (Q := fun k => ¬ InB m (G k) v) (kd - ks) ks hvks (fun h => h (by rw [show ks + (kd - ks) = kd from by omega]; exact hInD))
      exact ht v ⟨k, comes k v c3 (Classical.byContradiction c4)⟩
    by_cases hpos : 0 < cel n m (G ks).1 m v
    · have hvt2 : v = t := by have := hle hpos; omega
      have hil : i = l := by
        refine Classical.byContradiction fun hil => ?_
        have a1 := hL.cB i i (by omega) i1
        have a2 := hL.cB i l (by omega) l1
        rw [if_pos rfl, i2] at a1
        rw [if_neg hil, hBl, ← hvt2] at a2
        have := hL.pos; omega
      rw [hil] at p2
      have := Int.mul_pos hpos l2
      omega
    · have hneg : cel n m (G ks).1 m v < 0 := by omega
      have hci : 0 < cel n m (G kd).1 i e := Int.not_le.1 fun hc => by
        have := Int.mul_nonneg (show 0 ≤ -cel n m (G ks).1 m v by omega) (show 0 ≤ -cel n m (G kd).1 i e by omega)
        rw [Int.neg_mul, Int.mul_neg] at this; omega
      have hvlt : v < t := by
        have : v ≠ t := fun h => by rw [h] at hneg; omega
        omega
      have hz0 : Zr n m b (G ks) v := ⟨N', σ', hL', by
        have hVp : vc n b v = vv n b N' p := by simp only [vv, if_neg hp0, hvv]
        rw [hVp, om_at _ (by omega) (by omega) (by omega), Int.mul_zero]⟩
      have hzk : ∀ d, Zr n m b (G (ks + d)) v := fun d => by
        induction d with
        | zero => exact hz0
        | succ d ih =>
          obtain ⟨e', l', h⟩ := hs (ks + d)
          exact (good_step (hg _) h).2.2.2.2.2 (flat _ _ _ h) v ih
      have hzd := hzk (kd - ks)
      rw [show ks + (kd - ks) = kd from by omega] at hzd
      obtain ⟨N2, σ2, hL2, hψ⟩ := hzd
      have hrhs := hL2.c0 i (by omega)
      rw [hri, hψ] at hrhs
      refine l3 i i1 hci ?_
      unfold tg
      rw [hrhs, hflat, Int.zero_mul, Int.zero_mul]
      have b1 := (hL.Blt i i1).1
      have b2 := (hL.Blt l l1).1
      exact .inr ⟨rfl, by omega⟩
end Go.Proofs.Sur

