/- Equations of a linear program: the start, how great they are, the step. -/
import Derived.Test.YtlomlnkafakloaaDoorSxC
set_option linter.unusedSimpArgs false
set_option linter.unusedVariables false
set_option linter.unnecessarySimpa false
namespace Go.Proofs.Sur
set_option maxHeartbeats 1000000
variable {n m : Nat} {b : Nat → Nat → Bool}
theorem st_abs (p c : Nat) : (st p c).natAbs ≤ 1 := by simp only [st]; split <;> simp
theorem vc_abs (u c : Nat) : (vc n b u c).natAbs ≤ 1 := by
  simp only [vc]; split
  · exact st_abs _ _
  · split
    · simp
    · split <;> simp
theorem rv_abs (B : List Int) (i c : Nat) : (rv n m b B i c).natAbs ≤ 1 := by
  simp only [rv]; split
  · exact vc_abs _ _
  · simp only [oo]; split <;> simp
theorem vv_abs (N : Nat → Nat) (p c : Nat) : (vv n b N p c).natAbs ≤ 1 := by
  simp only [vv]; split
  · exact st_abs _ _
  · exact vc_abs _ _
theorem up_abs (N : Nat → Nat) (B : List Int) (i j : Nat) : (om (n + 1) (up (vv n b N) j (rv n m b B i))).natAbs ≤ fac (n + 1) :=
  om_abs fun p _ c _ => by
    by_cases e : p = j
    · subst e; rw [up_same]; exact rv_abs _ _ _
    · rw [up_ne _ _ e]; exact vv_abs _ _ _
theorem sg_mul {σ : Int} (h : σ = 1 ∨ σ = -1) (x : Int) : (σ * x).natAbs = x.natAbs := by
  rcases h with rfl | rfl
  · simp
  · simp
theorem fac_le {n : Nat} (h : n ≤ 6) : fac (n + 1) ≤ 5040 := by
  have : n = 0 ∨ n = 1 ∨ n = 2 ∨ n = 3 ∨ n = 4 ∨ n = 5 ∨ n = 6 := by omega
  rcases this with rfl | rfl | rfl | rfl | rfl | rfl | rfl <;> decide
variable {N : Nat → Nat} {σ : Int} {R B : List Int} {s : Int}
theorem Lp.s_le (h : Lp n m b N σ R B s) (hn : n ≤ 6) : s ≤ 5040 := by
  have h1 := om_abs (d := n + 1) (V := vv n b N) (fun p _ c _ => vv_abs N p c)
  have h2 := sg_mul h.sg (om (n + 1) (vv n b N))
  rw [← h.eqs] at h2
  have := fac_le hn
  omega
theorem Lp.cel_le (h : Lp n m b N σ R B s) (hn : n ≤ 6) {i c : Nat} (hi : i ≤ m) (hc : c ≤ n + m) : -5040 ≤ cel n m R i c ∧ cel n m R i c ≤ 5040 := by
  have hf := fac_le hn
  have hs := h.s_le hn
  have hp := h.pos
  by_cases e : c = n + m
  · subst e
    have h1 := up_abs (n := n) (m := m) (b := b) N B i 0
    have h2 := sg_mul h.sg (om (n + 1) (up (vv n b N) 0 (rv n m b B i)))
    rw [← h.c0 i hi] at h2
    omega
  · rcases h.cov c (by omega) with ⟨p, p1, p2, p3⟩ | ⟨k, k1, k2⟩
    · have h1 := up_abs (n := n) (m := m) (b := b) N B i p
      have h2 := sg_mul (σ := -σ) (by have := h.sg; omega) (om (n + 1) (up (vv n b N) p (rv n m b B i)))
      rw [← h.cN i p hi p1 p2, p3] at h2
      omega
    · rw [← k2, h.cB i k hi k1]
      split <;> omega
theorem vc_sl (i c : Nat) : vc n b (n + i) c = if c = 0 then 1 else if b i (c - 1) = true then -1 else 0 := by
  have h : ¬ n + i < n := by omega
  simp only [vc, h, if_false, Nat.add_sub_cancel_left]
/-! the start -/
theorem crm_congr {d : Nat} {V U : Nat → Vec} (h : ∀ p, p < d → ∀ c, c < d → V p c = U p c) (hU : crm d U) : crm d V := by
  intro u c hc
  rw [om_congr h, hU u c hc]
  refine sm_congr d fun p hp => ?_
  rw [h p hp c hc, om_congr (V := up V p u) (U := up U p u) (fun q hq e he => ?_)]
  by_cases hqp : q = p
  · subst hqp; rw [up_same, up_same]
  · rw [up_ne _ _ hqp, up_ne _ _ hqp]; exact h q hq e he
theorem Lp.start {R B : List Int} (lenR : R.length = (m + 1) * (n + m + 1)) (lenB : B.length = m) (hB : ∀ i, i < m → gt B i = (n + i : Nat))
    (h1 : ∀ i j, i < m → j < n → cel n m R i j = if b i j = true then 1 else 0) (h2 : ∀ i k, i ≤ m → k < m → cel n m R i (n + k) = if i = k then 1 else 0) (h3 : ∀ i, i < m → cel n m R i (n + m) = 1)
    (h4 : ∀ j, j < n → cel n m R m j = 1) (h5 : cel n m R m (n + m) = 0) : Lp n m b (fun p => p - 1) 1 R B 1 := by
  have hv : ∀ p, p < n + 1 → ∀ c, c < n + 1 → vv n b (fun p => p - 1) p c = st p c := fun p hp c _ => by
    simp only [vv]
    by_cases e : p = 0
    · rw [if_pos e, e]
    · rw [if_neg e]; simp only [vc]; rw [if_pos (by omega), show p - 1 + 1 = p from by omega]
  have hu : ∀ j f, j < n + 1 → om (n + 1) (up (vv n b (fun p => p - 1)) j f) = f j := fun j f hj => by
    rw [← om_st_up hj f]
    refine om_congr fun p hp c hc => ?_
    by_cases e : p = j
    · subst e; rw [up_same, up_same]
    · rw [up_ne _ _ e, up_ne _ _ e]; exact hv p hp c hc
  have hrv : ∀ i, i < m → ∀ c, rv n m b B i c = if c = 0 then 1 else if b i (c - 1) = true then -1 else 0 := fun i hi c => by
    simp only [rv]; rw [if_pos hi, hB i hi, Int.toNat_natCast, vc_sl]
  have hrm : rv n m b B m = oo := by simp only [rv]; rw [if_neg (by omega)]
  refine ⟨lenR, lenB, .inl rfl, by decide, ?_, crm_congr hv crm_st, fun p _ _ => by show p - 1 < _; omega, fun i hi => by rw [hB i hi]; omega, fun u hu => ?_, fun i p hi p1 p2 => ?_, fun i k hi hk => ?_, fun i hi => ?_⟩
  · rw [om_congr hv, om_st]; rfl
  · by_cases e : u < n
    · exact .inl ⟨u + 1, by omega, by omega, by show u + 1 - 1 = u; omega⟩
    · exact .inr ⟨u - n, by omega, by rw [hB _ (by omega)]; omega⟩
  · rw [hu p _ (by omega)]
    by_cases e : i = m
    · subst e
      rw [hrm, h4 _ (by omega)]
      simp only [oo]; rw [if_neg (by omega)]; rfl
    · rw [hrv i (by omega), h1 i _ (by omega) (by omega), if_neg (show ¬ p = 0 by omega)]
      split <;> rfl
  · rw [hB k hk, Int.toNat_natCast]; exact h2 i k hi hk
  · rw [hu 0 _ (by omega)]
    by_cases e : i = m
    · subst e
      rw [hrm, h5]; rfl
    · rw [hrv i (by omega), h3 i (by omega), if_pos rfl]; rfl
/-! the step -/
def ent (n m : Nat) (R : List Int) : Option Nat := (List.range (n + m)).find? (fun c => decide (0 < cel n m R m c))
def tg (n m : Nat) (R B : List Int) (e i j : Nat) : Prop := cel n m R i (n + m) * cel n m R j e < cel n m R j (n + m) * cel n m R i e ∨ cel n m R i (n + m) * cel n m R j e = cel n m R j (n + m) * cel n m R i e ∧ gt B i < gt B j
instance (n m : Nat) (R B : List Int) (e i j : Nat) : Decidable (tg n m R B e i j) := by unfold tg; infer_instance
def lv (n m : Nat) (R B : List Int) (e : Nat) : Nat → Option Nat
  | 0 => none
  | k + 1 => match lv n m R B e k with
    | none => if 0 < cel n m R k e then some k else none
    | some j => if 0 < cel n m R k e ∧ tg n m R B e k j then some k else some j
theorem ent_some {R : List Int} {e : Nat} (h : ent n m R = some e) : e < n + m ∧ 0 < cel n m R m e ∧ ∀ c, c < e → cel n m R m c ≤ 0 := by
  rw [ent, List.find?_range_eq_some] at h
  obtain ⟨h1, h2, h3⟩ := h
  rw [decide_eq_true_eq] at h1
  exact ⟨List.mem_range.1 h2, h1, fun c hc => by
    have := h3 c hc
    simp only [Bool.not_eq_true', decide_eq_false_iff_not] at this
    omega⟩
theorem ent_none {R : List Int} (h : ent n m R = none) : ∀ c, c < n + m → cel n m R m c ≤ 0 := by
  intro c hc
  rw [ent, List.find?_eq_none] at h
  have := h c (List.mem_range.2 hc)
  rw [decide_eq_true_eq] at this
  omega
theorem tg_trans {R B : List Int} {e i k j : Nat} (hi : 0 < cel n m R i e) (hk : 0 < cel n m R k e) (hj : 0 < cel n m R j e) (h1 : tg n m R B e i k) (h2 : tg n m R B e k j) : tg n m R B e i j := by
  unfold tg at *
  generalize cel n m R i (n + m) = ri at *
  generalize cel n m R k (n + m) = rk at *
  generalize cel n m R j (n + m) = rj at *
  generalize cel n m R i e = ci at *
  generalize cel n m R k e = ck at *
  generalize cel n m R j e = cj at *
  have a1 : ri * ck ≤ rk * ci := by rcases h1 with h | h <;> omega
  have a2 : rk * cj ≤ rj * ck := by rcases h2 with h | h <;> omega
  have b1 : ri * ck * cj ≤ rk * ci * cj := Int.mul_le_mul_of_nonneg_right a1 (by omega)
  have b2 : rk * cj * ci ≤ rj * ck * ci := Int.mul_le_mul_of_nonneg_right a2 (by omega)
  have e1 : rk * ci * cj = rk * cj * ci := by rw [Int.mul_assoc, Int.mul_comm ci, Int.mul_assoc]
  have e2 : ri * ck * cj = (ri * cj) * ck := by rw [Int.mul_assoc, Int.mul_comm ck, Int.mul_assoc]
  have e3 : rj * ck * ci = (rj * ci) * ck := by rw [Int.mul_assoc, Int.mul_comm ck, Int.mul_assoc]
  have b3 : (ri * cj) * ck ≤ (rj * ci) * ck := by omega
  have b4 : ri * cj ≤ rj * ci := Int.le_of_mul_le_mul_right b3 hk
  by_cases hlt : ri * cj < rj * ci
  · exact .inl hlt
  · refine .inr ⟨by omega, ?_⟩
    have heq : ri * cj = rj * ci := by omega
    have c0 : (ri * cj) * ck = (rj * ci) * ck := by rw [heq]
    rcases h1 with h1 | h1
    · have : ri * ck * cj < rk * ci * cj := Int.mul_lt_mul_of_pos_right h1 hj
      omega
    · rcases h2 with h2 | h2
      · have : rk * cj * ci < rj * ck * ci := Int.mul_lt_mul_of_pos_right h2 hi
        omega
      · omega
theorem lv_spec {R B : List Int} {e : Nat} : ∀ k, (lv n m R B e k = none → ∀ i, i < k → cel n m R i e ≤ 0) ∧ (∀ l, lv n m R B e k = some l → l < k ∧ 0 < cel n m R l e ∧ ∀ i, i < k → 0 < cel n m R i e → ¬ tg n m R B e i l)
  | 0 => ⟨fun _ i hi => absurd hi (Nat.not_lt_zero _), fun l h => by cases h⟩
  | k + 1 => by
    obtain ⟨ih1, ih2⟩ := lv_spec (R := R) (B := B) (e := e) k
    have irr : ∀ i, ¬ tg n m R B e i i := fun i h => by unfold tg at h; omega
    cases hq : lv n m R B e k with
    | none =>
      have hn := ih1 hq
      have ex : lv n m R B e (k + 1) = if 0 < cel n m R k e then some k else none := by simp only [lv, hq]
      rw [ex]
      by_cases hc : 0 < cel n m R k e
      · rw [if_pos hc]
        refine ⟨fun h => (by cases h), fun l hl => ?_⟩
        cases hl
        refine ⟨by omega, hc, fun i hi hp => ?_⟩
        by_cases e' : i = k
        · subst e'; exact irr _
        · have := hn i (by omega); omega
      · rw [if_neg hc]
        refine ⟨fun _ i hi => ?_, fun l hl => by cases hl⟩
        by_cases e' : i = k
        · subst e'; omega
        · exact hn i (by omega)
    | some j =>
      obtain ⟨j1, j2, j3⟩ := ih2 j hq
      have ex : lv n m R B e (k + 1) = if 0 < cel n m R k e ∧ tg n m R B e k j then some k else some j := by simp only [lv, hq]
      rw [ex]
      by_cases hc : 0 < cel n m R k e ∧ tg n m R B e k j
      · rw [if_pos hc]
        refine ⟨fun h => (by cases h), fun l hl => ?_⟩
        cases hl
        refine ⟨by omega, hc.1, fun i hi hp ht => ?_⟩
        by_cases e' : i = k
        · subst e'; exact irr _ ht
        · exact j3 i (by omega) hp (tg_trans hp hc.1 j2 ht hc.2)
      · rw [if_neg hc]
        refine ⟨fun h => (by cases h), fun l hl => ?_⟩
        cases hl
        refine ⟨by omega, j2, fun i hi hp ht => ?_⟩
        by_cases e' : i = k
        · subst e'; exact hc ⟨hp, ht⟩
        · exact j3 i (by omega) hp ht
def trn (n m : Nat) (R : List Int) (l e : Nat) (s : Int) (k : Nat) : Int :=
  if k / (n + m + 1) = l then gt R k else (gt R k * cel n m R l e - cel n m R (k / (n + m + 1)) e * cel n m R l (k % (n + m + 1))).tdiv s
def trnL (n m : Nat) (R : List Int) (l e : Nat) (s : Int) : List Int := (List.range R.length).map (trn n m R l e s)
theorem trn_len (R : List Int) (l e : Nat) (s : Int) : (trnL n m R l e s).length = R.length := by simp [trnL]
theorem dm (w j c : Nat) (hc : c < w) : (j * w + c) / w = j ∧ (j * w + c) % w = c := by
  constructor
  · rw [Nat.mul_comm, Nat.mul_add_div (by omega), Nat.div_eq_of_lt hc]; rfl
  · rw [Nat.mul_comm, Nat.mul_add_mod, Nat.mod_eq_of_lt hc]
theorem ix_lt {m w j c : Nat} (hj : j ≤ m) (hc : c < w) : j * w + c < (m + 1) * w := by
  have : (j + 1) * w ≤ (m + 1) * w := Nat.mul_le_mul_right _ (by omega)
  rw [Nat.add_mul, Nat.one_mul] at this; omega
theorem trn_cel {R : List Int} (lenR : R.length = (m + 1) * (n + m + 1)) (l e : Nat) (s : Int) {j c : Nat} (hj : j ≤ m) (hc : c < n + m + 1) :
    cel n m (trnL n m R l e s) j c = if j = l then cel n m R l c else (cel n m R j c * cel n m R l e - cel n m R j e * cel n m R l c).tdiv s := by
  have h1 := ix_lt hj hc
  have h2 : cel n m (trnL n m R l e s) j c = trn n m R l e s (j * (n + m + 1) + c) := by
    simp only [cel, gt, trnL]
    rw [List.getD_eq_getElem?_getD, List.getElem?_map, List.getElem?_range (by omega)]; rfl
  obtain ⟨d1, d2⟩ := dm (n + m + 1) j c hc
  rw [h2, trn, d1, d2]
  by_cases e' : j = l
  · rw [if_pos e', if_pos e', e']
  · rw [if_neg e', if_neg e']
theorem sm_le_term {d : Nat} : ∀ {f : Nat → Int} {k : Nat}, (∀ i, i < d → f i ≤ 0) → k < d → sm d f ≤ f k := by
  induction d with
  | zero => intro f k _ hk; exact absurd hk (Nat.not_lt_zero _)
  | succ d ih =>
    intro f k h hk
    simp only [sm]
    have hd := h d (by omega)
    by_cases e : k = d
    · subst e
      have h0 : sm k f ≤ sm k (fun _ => 0) := sm_le k fun i hi => h i (by omega)
      rw [sm_zero k (fun _ _ => rfl)] at h0
      omega
    · have := ih (fun i hi => h i (by omega)) (show k < d by omega)
      omega
theorem Lp.dir (h : Lp n m b N σ R B s) {q : Nat} (hq1 : 1 ≤ q) (hq : q ≤ n) : ∃ y : Nat → Int, y 0 = 0 ∧ (∀ f : Vec, σ * om (n + 1) (up (vv n b N) q f) = sm (n + 1) (fun c => f c * y c)) ∧
    (∀ p, 1 ≤ p → p ≤ n → p ≠ q → sm (n + 1) (fun c => vc n b (N p) c * y c) = 0) ∧ sm (n + 1) (fun c => vc n b (N q) c * y c) = s ∧ ∀ i, i ≤ m → sm (n + 1) (fun c => rv n m b B i c * y c) = -cel n m R i (N q) := by
  have hf : ∀ f : Vec, σ * om (n + 1) (up (vv n b N) q f) = sm (n + 1) (fun c => f c * (σ * om (n + 1) (up (vv n b N) q (st c)))) := fun f => by
    rw [om_lc _ (by omega), ← sm_mul]
    exact sm_congr _ fun c _ => Int.mul_left_comm _ _ _
  have hv : ∀ p, 1 ≤ p → vv n b N p = vc n b (N p) := fun p hp => by simp only [vv]; rw [if_neg (by omega)]
  refine ⟨fun c => σ * om (n + 1) (up (vv n b N) q (st c)), ?_, hf, fun p p1 p2 hne => ?_, ?_, fun i hi => ?_⟩
  · have : vv n b N 0 = st 0 := by simp only [vv, if_true]
    show σ * om (n + 1) (up (vv n b N) q (st 0)) = 0
    rw [← this, om_at _ (by omega) (by omega) (by omega), Int.mul_zero]
  · rw [← hf, ← hv p p1, om_at _ (by omega) (by omega) hne, Int.mul_zero]
  · rw [← hf, ← hv q hq1, up_self]; exact h.eqs.symm
  · rw [← hf, h.cN i q hi hq1 hq, Int.neg_mul, Int.neg_neg]
theorem Lp.held (h : Lp n m b N σ R B s) (hb : ∀ j, j < n → ∃ i, i < m ∧ b i j = true) {q : Nat} (hq1 : 1 ≤ q) (hq : q ≤ n) (he : 0 < cel n m R m (N q)) : ∃ i, i < m ∧ 0 < cel n m R i (N q) := by
  refine Classical.byContradiction fun hno => ?_
  have hno : ∀ i, i < m → cel n m R i (N q) ≤ 0 := fun i hi => Int.not_lt.1 fun hp => hno ⟨i, hi, hp⟩
  obtain ⟨y, y0, _, y1, y2, y3⟩ := h.dir hq1 hq
  have hu : ∀ u, u < n + m → 0 ≤ sm (n + 1) (fun c => vc n b u c * y c) := fun u hu => by
    rcases h.cov u hu with ⟨p, p1, p2, p3⟩ | ⟨i, i1, i2⟩
    · by_cases e : p = q
      · subst e; rw [← p3, y2]; have := h.pos; omega
      · rw [← p3, y1 p p1 p2 e]; exact Int.le_refl _
    · have := y3 i (by omega)
      simp only [rv, if_pos i1, i2] at this
      rw [this]
      have := hno i i1
      omega
  have hy : ∀ j, j < n → 0 ≤ y (j + 1) := fun j hj => by
    have h1 := hu j (by omega)
    have h2 : sm (n + 1) (fun c => vc n b j c * y c) = y (j + 1) := by
      rw [sm_one (n + 1) (f := fun c => vc n b j c * y c) (k := j + 1) (by omega) (fun c _ hne => by simp only [vc, if_pos hj, st, if_neg hne, Int.zero_mul])]
      simp only [vc, if_pos hj, st, if_true, Int.one_mul]
    omega
  have hz : ∀ j, j < n → y (j + 1) = 0 := fun j hj => by
    obtain ⟨i, hi, hbi⟩ := hb j hj
    have h1 := hu (n + i) (by omega)
    have hvc : ∀ c, vc n b (n + i) c = if c = 0 then 1 else if b i (c - 1) = true then -1 else 0 := fun c => vc_sl i c
    have h2 : sm (n + 1) (fun c => vc n b (n + i) c * y c) ≤ vc n b (n + i) (j + 1) * y (j + 1) := sm_le_term (f := fun c => vc n b (n + i) c * y c) (fun c hc => by
      show vc n b (n + i) c * y c ≤ 0
      rw [hvc]
      by_cases e : c = 0
      · subst e; rw [y0, Int.mul_zero]; exact Int.le_refl _
      · have := hy (c - 1) (by omega)
        rw [show c - 1 + 1 = c from by omega] at this
        rw [if_neg e]
        split <;> omega) (by omega)
    rw [hvc, if_neg (by omega), show j + 1 - 1 = j from by omega, if_pos hbi] at h2
    have := hy j hj
    omega
  have h3 := y3 m (Nat.le_refl m)
  have h4 : sm (n + 1) (fun c => rv n m b B m c * y c) = 0 := sm_zero _ fun c hc => by
    show rv n m b B m c * y c = 0
    by_cases e : c = 0
    · subst e; rw [y0, Int.mul_zero]
    · have := hz (c - 1) (by omega)
      rw [show c - 1 + 1 = c from by omega] at this
      rw [this, Int.mul_zero]
  omega
end Go.Proofs.Sur

