/- Layer 5: weights: what Weigh comes to. -/
import Derived.Test.YtlomlnkafakloaaDoorSyf
import Derived.Test.YtlomlnkafakloaaDoorSvD
import Derived.KernelRfl
set_option linter.unusedSimpArgs false
set_option linter.unusedVariables false
set_option linter.unnecessarySimpa false
set_option maxHeartbeats 4000000
set_option maxRecDepth 100000
namespace Go.Proofs.Sur
open Go Go.VM

noncomputable def c58 : PCtr Tryd.prog := sctr ok58 (X := Nat × List Int × Room) (fun x => [I (x.1 : Nat), .sl (ints x.2.1) x.2.1.length x.2.2]) (fun x => rok x.2.1 x.2.2 ∧ nm x.1 x.2.1.length ∧ setsOk x.1 x.2.1.length x.2.1 ∧ 1 ≤ x.2.1.length ∧ reach x.1 x.2.1.length x.2.1)
  (fun x => .agg [I (lpV x.1 x.2.1.length (bS x.2.1)).1, I (lpV x.1 x.2.1.length (bS x.2.1)).2])
  (by
    rintro ⟨n, S, r⟩ ⟨n', S', r'⟩ e _ _
    simp at e
    obtain ⟨e1, e2, _, _⟩ := e
    have e1 : n = n' := by omega
    subst e1 e2
    rfl)
  (fun x => by simp [AV.bnds, AV.bnd, AV.wk, rm_wk_bnd]) (fun x => by simp [AV.bnd, AV.bnds])
  (fun x hx => ⟨_, _, _, ct58 x.1 x.2.1.length x.2.1 x.2.2.wk ((rok_wk _ _).2 hx.1) hx.2.1 hx.2.2.1 hx.2.2.2.1, r58 x.1 x.2.1.length x.2.1 x.2.2.wk ((rok_wk _ _).2 hx.1) hx.2.1 hx.2.2.1 hx.2.2.2.1 hx.2.2.2.2⟩)
/-! what the greatest sum is -/
theorem fac_le6 {n : Nat} (h : n ≤ 6) : fac n ≤ 720 := by
  have : n = 0 ∨ n = 1 ∨ n = 2 ∨ n = 3 ∨ n = 4 ∨ n = 5 ∨ n = 6 := by omega
  rcases this with rfl | rfl | rfl | rfl | rfl | rfl | rfl <;> decide
theorem Lp.s_720 {n m : Nat} {b : Nat → Nat → Bool} {N : Nat → Nat} {σ : Int} {R B : List Int} {s : Int} (h : Lp n m b N σ R B s) (hn : n ≤ 6) : s ≤ 720 := by
  have h0 : ∀ c, c < n + 1 → vv n b N 0 c = st 0 c := fun c _ => by simp only [vv, if_true]
  have h1 := om_abs0 h0 (fun p _ c _ => vv_abs N p c)
  have h2 := sg_mul h.sg (om (n + 1) (vv n b N))
  rw [← h.eqs] at h2
  have := fac_le6 hn
  have := h.pos
  omega
theorem lp_ex {n m : Nat} {S : List Int} (hn : nm n m) (hS : setsOk n m S) (hb : reach n m S) : ∃ z s, Cert n m (bS S) z s ∧ s ≤ 720 := by
  obtain ⟨K, F, h0, hF, hK, hg⟩ := ends hn.2.1 hb (start_good hS)
  have hgK := hg K (Nat.le_refl K)
  obtain ⟨⟨N, σ, hL⟩, _⟩ := id hgK
  exact ⟨_, _, hgK.cert hK, hL.s_720 hn.2.1⟩
theorem sm_const (d : Nat) (c : Int) : sm d (fun _ => c) = d * c := by
  induction d with
  | zero => simp [sm]
  | succ d ih =>
    simp only [sm, ih]
    have : ((d + 1 : Nat) : Int) = (d : Int) + 1 := by omega
    rw [this, Int.add_mul, Int.one_mul]
theorem Cert.small {n m : Nat} {b : Nat → Nat → Bool} {z s : Int} (h : Cert n m b z s) (hb : ∀ j, j < n → ∃ i, i < m ∧ b i j = true) (h1 : 1 ≤ n) (hs : s ≤ 720) :
    1 ≤ (lpV n m b).2 ∧ (lpV n m b).2 ≤ 720 ∧ (lpV n m b).2 ≤ (lpV n m b).1 ∧ (lpV n m b).1 ≤ n * (lpV n m b).2 := by
  obtain ⟨a1, a2, a3, a4, a5, a6⟩ := h.lp
  refine ⟨by omega, by omega, ?_, ?_⟩
  · have h2 := h.lptop (x := fun j => if j = 0 then 1 else 0) (D := 1) (fun j _ => by show (0 : Int) ≤ if j = 0 then 1 else 0; split <;> decide) (fun i hi => by
      have : sm n (fun j => if b i j = true then (if j = 0 then (1 : Int) else 0) else 0) ≤ sm n (fun j => if j = 0 then 1 else 0) := sm_le n fun j _ => by
        split
        · exact Int.le_refl _
        · split <;> decide
      rw [sm_one n (f := fun j => if j = 0 then (1 : Int) else 0) (k := 0) (by omega) (fun j _ hj => if_neg hj), if_pos rfl] at this
      exact this)
    rw [sm_one n (f := fun j => if j = 0 then (1 : Int) else 0) (k := 0) (by omega) (fun j _ hj => if_neg hj), if_pos rfl] at h2
    omega
  · obtain ⟨_, ⟨x, x1, x2, x3⟩, _⟩ := h
    have hx : ∀ j, j < n → x j ≤ s := fun j hj => by
      obtain ⟨i, i1, i2⟩ := hb j hj
      have h3 := x2 i i1
      have h4 := sm_le_term (d := n) (f := fun j => -(if b i j = true then x j else 0)) (k := j) (fun k hk => by
        show -(if b i k = true then x k else 0) ≤ 0
        have := x1 k hk
        split <;> omega) hj
      rw [sm_neg, if_pos i2] at h4
      omega
    have h5 := sm_le n (f := x) (g := fun _ => s) hx
    rw [x3, sm_const] at h5
    have h6 : (lpV n m b).1 * s ≤ (n * (lpV n m b).2) * s := by
      rw [a4]
      have := Int.mul_le_mul_of_nonneg_right h5 (show 0 ≤ (lpV n m b).2 by omega)
      have e : (n : Int) * s * (lpV n m b).2 = n * (lpV n m b).2 * s := by rw [Int.mul_assoc, Int.mul_comm s, Int.mul_assoc]
      omega
    exact Int.le_of_mul_le_mul_right h6 (by
      have : 0 < s := by omega
      exact this)
/-! cliques as sets for it -/
theorem mem_clL {g : List Int} {s : Nat} (h0 : s ≠ 0) (hk : okF g s g.length = true) : ∀ t, s < t → (s : Int) ∈ clL g t
  | 0, h => absurd h (Nat.not_lt_zero _)
  | t + 1, h => by
    simp only [clL]
    by_cases e : s = t
    · subst e; rw [if_pos ⟨h0, hk⟩]; simp
    · have := mem_clL h0 hk t (by omega)
      split
      · exact List.mem_append_left _ this
      · exact this
theorem clL_ok {g : List Int} : ∀ (t : Nat) (c : Int), c ∈ clL g t → okF g c.toNat g.length = true
  | 0, c, h => by simp [clL] at h
  | t + 1, c, h => by
    simp only [clL] at h
    split at h
    · rename_i hc
      rcases List.mem_append.1 h with h | h
      · exact clL_ok t c h
      · have := List.mem_singleton.1 h; subst this; rw [Int.toNat_natCast]; exact hc.2
    · exact clL_ok t c h
theorem okF_iff {g : List Int} {s : Nat} : ∀ n, okF g s n = true ↔ ∀ i, i < n → qc g s i = true
  | 0 => ⟨fun _ i h => absurd h (Nat.not_lt_zero i), fun _ => rfl⟩
  | n + 1 => by
    simp only [okF, Bool.and_eq_true, okF_iff n]
    constructor
    · rintro ⟨h1, h2⟩ i hi
      rcases Nat.lt_or_ge i n with h | h
      · exact h1 i h
      · have : i = n := by omega
        subst this; exact h2
    · intro h; exact ⟨fun i hi => h i (by omega), h n (by omega)⟩
theorem qc_iff {g : List Int} (hg : Gr g) {s i : Nat} (hs : s < 2 ^ g.length) (hi : i < g.length) : qc g s i = true ↔ (s.testBit i = true → ∀ j, j < g.length → s.testBit j = true → j ≠ i → bi (at_ g i) j = true) := by
  have hb := rg_lt hg.1 hg.2.1 hi
  have h6 := hg.1.2
  have ho := hg.2.2 i hi i hi
  have hoi : bi (at_ g i) i = false := ho.2 rfl
  simp only [qc, Bool.or_eq_true, Bool.not_eq_true', decide_eq_true_eq]
  have hab : ∀ j, (andn s (at_ g i).toNat).testBit j = (s.testBit j && !bi (at_ g i) j) := fun j => by
    exact andn_bit (by have := pw_64 h6; omega) j
  constructor
  · rintro (h | h) h1 j hj h2 h3
    · rw [h1] at h; cases h
    · have := hab j
      rw [h, h2, Nat.testBit_two_pow] at this
      have hd : decide (i = j) = false := decide_eq_false (fun e => h3 e.symm)
      rw [hd] at this
      cases hq : bi (at_ g i) j
      · rw [hq] at this; cases this
      · rfl
  · intro h
    by_cases h1 : s.testBit i = true
    · right
      apply Nat.eq_of_testBit_eq
      intro j
      rw [hab, Nat.testBit_two_pow]
      by_cases e : i = j
      · subst e; rw [h1, hoi]; simp
      · rw [decide_eq_false e]
        by_cases hj : s.testBit j = true
        · have hjn : j < g.length := Nat.lt_of_not_le fun hc => by
            have := Nat.testBit_lt_two_pow (Nat.lt_of_lt_of_le hs (Nat.pow_le_pow_right (by decide) hc))
            rw [this] at hj; cases hj
          rw [h h1 j hjn hj (fun q => e q.symm)]; simp
        · have : s.testBit j = false := by simpa using hj
          rw [this]; rfl
    · left; simpa using h1
end Go.Proofs.Sur

