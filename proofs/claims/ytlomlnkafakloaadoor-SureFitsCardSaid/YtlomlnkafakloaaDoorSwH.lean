/- Layer 5: both least ranks are the same. -/
import Derived.Test.YtlomlnkafakloaaDoorSwB
import Derived.Test.YtlomlnkafakloaaDoorSwD
import Derived.Test.YtlomlnkafakloaaDoorSwG
set_option linter.unusedSimpArgs false
set_option linter.unusedVariables false
set_option linter.unnecessarySimpa false
set_option maxHeartbeats 4000000
set_option maxRecDepth 100000
namespace Go.Proofs.Sur
open Go Go.VM

abbrev nl (s : List Nat) : List Int := s.map (fun x : Nat => (x : Int))
theorem wd_nl (s : List Nat) (x : Nat) : wd (nl s) (x : Int) = nl (wdN s x) := by
  simp [wd, nl, wdN, xr, List.map_map, Function.comp_def]
abbrev Fr (g : List Int) (i x : Nat) : Prop := x < 2 ^ g.length ∧ ftB g i (x : Int) = true
def FL (g : List Int) : Nat → List Nat → Prop
  | _, [] => True
  | i, x :: l => Fr g i x ∧ FL g (i + 1) l
theorem ftB_iff {g : List Int} {i x : Nat} : ftB g i (x : Int) = true ↔ andn x (at_ g i).toNat = 2 ^ i := by
  simp only [ftB, Int.toNat_natCast, decide_eq_true_eq]
theorem g_ii {g : List Int} (hg : Gr g) {i : Nat} (hi : i < g.length) : (at_ g i).toNat.testBit i = false := (hg.2.2 i hi i hi).2 rfl
theorem one_fits {g : List Int} (hg : Gr g) {i : Nat} (hi : i < g.length) : Fr g i (2 ^ i) := by
  have g6 := hg.1.2
  have h1 : 2 ^ i < 2 ^ g.length := Nat.pow_lt_pow_right (by decide) hi
  have h2 := pw_64 g6
  refine ⟨h1, ftB_iff.2 ?_⟩
  apply Nat.eq_of_testBit_eq; intro e
  rw [andn_bit (by omega), Nat.testBit_two_pow]
  by_cases h : i = e
  · subst h; rw [g_ii hg hi]; simp
  · simp [h]
theorem fit_or {g : List Int} (hg : Gr g) {i x : Nat} (hi : i < g.length) (hx : x < 2 ^ g.length) (h : andn x (at_ g i).toNat = 0) : Fr g i (x ||| 2 ^ i) := by
  have h1 : 2 ^ i < 2 ^ g.length := Nat.pow_lt_pow_right (by decide) hi
  have h2 := pw_64 hg.1.2
  have h3 := Nat.or_lt_two_pow hx h1
  refine ⟨h3, ftB_iff.2 ?_⟩
  apply Nat.eq_of_testBit_eq; intro e
  have he : (andn x (at_ g i).toNat).testBit e = false := by rw [h]; exact Nat.zero_testBit e
  rw [andn_bit (by omega)] at he
  rw [andn_bit (by omega), Nat.testBit_or, Nat.testBit_two_pow]
  by_cases q : i = e
  · subst q; rw [g_ii hg hi]; simp
  · simp only [decide_eq_false q, Bool.or_false]; exact he
theorem fit_and {g : List Int} (hg : Gr g) {i y : Nat} (hi : i < g.length) (h : Fr g i y) : y &&& (at_ g i).toNat < 2 ^ g.length ∧ andn (y &&& (at_ g i).toNat) (at_ g i).toNat = 0 ∧ (y &&& (at_ g i).toNat) ||| 2 ^ i = y := by
  obtain ⟨hy, hf⟩ := h
  have h2 := pw_64 hg.1.2
  have h3 : y &&& (at_ g i).toNat ≤ y := Nat.and_le_left
  have hf := ftB_iff.1 hf
  refine ⟨by omega, ?_, ?_⟩
  · apply Nat.eq_of_testBit_eq; intro e
    rw [andn_bit (by omega), Nat.testBit_and, Nat.zero_testBit]
    cases (at_ g i).toNat.testBit e <;> simp
  · apply Nat.eq_of_testBit_eq; intro e
    have he : (andn y (at_ g i).toNat).testBit e = (2 ^ i).testBit e := by rw [hf]
    rw [andn_bit (by omega), Nat.testBit_two_pow] at he
    rw [Nat.testBit_or, Nat.testBit_and, Nat.testBit_two_pow]
    by_cases q : i = e
    · subst q
      rw [g_ii hg hi] at he ⊢
      simp at he; simp [he]
    · simp only [decide_eq_false q, Bool.or_false] at he ⊢
      cases hb : y.testBit e
      · rfl
      · rw [hb] at he
        cases hc : (at_ g i).toNat.testBit e
        · rw [hc] at he; cases he
        · rfl
theorem any_nl {g : List Int} {i : Nat} {s : List Nat} : (nl s).any (ftB g i) = true ↔ ∃ x ∈ s, ftB g i (x : Int) = true := by
  rw [List.any_eq_true]
  constructor
  · rintro ⟨y, hy, hf⟩
    obtain ⟨x, hx, rfl⟩ := List.mem_map.1 hy
    exact ⟨x, hx, hf⟩
  · rintro ⟨x, hx, hf⟩
    exact ⟨_, List.mem_map.2 ⟨x, hx, rfl⟩, hf⟩
theorem ftP_min (g : List Int) (d : Nat) (s : List Int) : ∀ j : Nat, (∀ x : Nat, x < j → ftB g (g.length - (d + 1)) (x : Int) = true → ftP g d s j ≤ 1 + ftF g d (wd s (x : Int))) ∧ (ftP g d s j = g.length ∨ ∃ x : Nat, x < j ∧ ftB g (g.length - (d + 1)) (x : Int) = true ∧ ftP g d s j = 1 + ftF g d (wd s (x : Int)))
  | 0 => ⟨fun x hx => absurd hx (Nat.not_lt_zero x), .inl rfl⟩
  | j + 1 => by
    obtain ⟨h1, h2⟩ := ftP_min g d s j
    rw [ftP_suc]
    have hle := ftS_le g d s (ftP g d s j) j
    by_cases hb : ftB g (g.length - (d + 1)) (j : Int) = true
    · have e : ftS g d s (ftP g d s j) j = min (ftP g d s j) (1 + ftF g d (wd s (j : Int))) := by rw [ftS, if_pos hb]
      rw [e] at hle ⊢
      refine ⟨fun x hx hf => ?_, ?_⟩
      · rcases Nat.lt_or_ge x j with h | h
        · exact Nat.le_trans hle (h1 x h hf)
        · have : x = j := by omega
          subst this; exact Nat.min_le_right _ _
      · rcases Nat.le_total (ftP g d s j) (1 + ftF g d (wd s (j : Int))) with h | h
        · rw [Nat.min_eq_left h]
          rcases h2 with h2 | ⟨x, a, b, c⟩
          · exact .inl h2
          · exact .inr ⟨x, by omega, b, c⟩
        · rw [Nat.min_eq_right h]
          exact .inr ⟨j, by omega, hb, rfl⟩
    · have e : ftS g d s (ftP g d s j) j = ftP g d s j := by rw [ftS, if_neg hb]
      rw [e]
      refine ⟨fun x hx hf => ?_, ?_⟩
      · rcases Nat.lt_or_ge x j with h | h
        · exact h1 x h hf
        · have : x = j := by omega
          subst this; exact absurd hf hb
      · rcases h2 with h2 | ⟨x, a, b, c⟩
        · exact .inl h2
        · exact .inr ⟨x, by omega, b, c⟩
theorem ft_ok {g : List Int} (hg : Gr g) : ∀ (d : Nat), d ≤ g.length → ∀ (s : List Nat), Cl s → (∀ v ∈ s, v < 2 ^ g.length) →
    (∀ l, l.length = d → FL g (g.length - d) l → ftF g d (nl s) ≤ rc s l) ∧ ∃ l, l.length = d ∧ FL g (g.length - d) l ∧ ftF g d (nl s) = rc s l
  | 0, _, s, _, _ => ⟨fun l _ _ => Nat.zero_le _, [], rfl, trivial, rfl⟩
  | d + 1, hd, s, hc, hs => by
    have ei : g.length - d = g.length - (d + 1) + 1 := by omega
    have hi : g.length - (d + 1) < g.length := by omega
    rw [ftF_suc]
    by_cases ha : (nl s).any (ftB g (g.length - (d + 1))) = true
    · rw [if_pos ha]
      obtain ⟨r, hr, hrf⟩ := any_nl.1 ha
      obtain ⟨i1, l0, i2, i3, i4⟩ := ft_ok hg d (by omega) s hc hs
      rw [ei] at i1 i3
      refine ⟨fun l hl hf => ?_, r :: l0, by simp [i2], ⟨⟨hs r hr, hrf⟩, i3⟩, ?_⟩
      · cases l with
        | nil => cases hl
        | cons x l =>
          have h1 := i1 l (by simpa using hl) hf.2
          simp only [rc]
          split
          · exact h1
          · exact Nat.le_trans h1 (rc_one l x hc)
      · rw [i4]; simp only [rc]; rw [if_pos hr]
    · rw [if_neg ha]
      have hno : ∀ x : Nat, x ∈ s → ftB g (g.length - (d + 1)) (x : Int) = true → False := fun x hx hf => ha (any_nl.2 ⟨x, hx, hf⟩)
      obtain ⟨m1, m2⟩ := ftP_min g d (nl s) (2 ^ g.length)
      have ih := fun x (hx : x < 2 ^ g.length) => ft_ok hg d (by omega) (wdN s x) (hc.wd x) (fun v hv => by
        rcases mem_wdN.1 hv with h | h
        · exact hs v h
        · have := Nat.xor_lt_two_pow (hs _ h) hx; rwa [xc] at this)
      refine ⟨fun l hl hf => ?_, ?_⟩
      · cases l with
        | nil => cases hl
        | cons x l =>
          obtain ⟨hx, hf⟩ := hf
          have h1 := m1 x hx.1 hx.2
          rw [wd_nl] at h1
          have h2 := (ih x hx.1).1 l (by simpa using hl) (by rw [ei]; exact hf)
          simp only [rc]
          rw [if_neg (fun q => hno x q hx.2)]
          omega
      · have pick : ∃ x : Nat, x < 2 ^ g.length ∧ ftB g (g.length - (d + 1)) (x : Int) = true ∧ ftP g d (nl s) (2 ^ g.length) = 1 + ftF g d (wd (nl s) (x : Int)) := by
          rcases m2 with h | h
          · obtain ⟨o1, o2⟩ := one_fits hg hi
            have h1 := m1 _ o1 o2
            refine ⟨_, o1, o2, ?_⟩
            obtain ⟨l, a, b, c⟩ := (ih _ o1).2
            have h2 := rc_le l (wdN s (2 ^ (g.length - (d + 1))))
            rw [wd_nl] at h1 ⊢
            omega
          · exact h
        obtain ⟨x, hx, hf, e⟩ := pick
        obtain ⟨l, a, b, c⟩ := (ih x hx).2
        refine ⟨x :: l, by simp [a], ⟨⟨hx, hf⟩, by rw [← ei]; exact b⟩, ?_⟩
        rw [e, wd_nl, c]
        simp only [rc]
        rw [if_neg (fun q => hno x q hf)]
abbrev RKs (g R : List Int) : Nat := (rk2 g.length R g.length).2
/-- the rows from i on are chosen -/
abbrev ag (g R : List Int) (i : Nat) (R' : List Int) : Prop := rs R' ∧ (∀ j, j < 5 → j < i ∨ g.length ≤ j → at_ R' j = at_ R j) ∧ ∀ j, i ≤ j → j < g.length → Fr g j (nt R' j)
theorem rs_ext {R S : List Int} (hR : rs R) (hS : rs S) (h : ∀ j, j < 5 → at_ R j = at_ S j) : R = S := by
  apply List.ext_getElem (by rw [hR.1, hS.1])
  intro j h1 h2
  have := h j (by rw [hR.1] at h1; exact h1)
  simpa [at_, List.getD_eq_getElem?_getD, List.getElem?_eq_getElem h1, List.getElem?_eq_getElem h2] using this
theorem rf_ok {g : List Int} (hg : Gr g) (h5 : g.length ≤ 5) : ∀ (d : Nat), d ≤ g.length → ∀ (R : List Int) (b : Nat), rs R →
    (∀ R', ag g R (g.length - d) R' → rfF g d R b ≤ RKs g R') ∧ (rfF g d R b = b ∨ ∃ R', ag g R (g.length - d) R' ∧ rfF g d R b = RKs g R')
  | 0, _, R, b, hR => by
    simp only [rfF, Nat.sub_zero]
    refine ⟨fun R' h => ?_, ?_⟩
    · have : R' = R := rs_ext h.1 hR (fun j hj => h.2.1 j hj (by omega))
      rw [this]; exact Nat.min_le_right _ _
    · rcases Nat.le_total b (RKs g R) with h | h
      · exact .inl (Nat.min_eq_left h)
      · exact .inr ⟨R, ⟨hR, fun _ _ _ => rfl, fun j h1 h2 => absurd h1 (by omega)⟩, Nat.min_eq_right h⟩
  | d + 1, hd, R, b, hR => by
    have ei : g.length - d = g.length - (d + 1) + 1 := by omega
    have hi : g.length - (d + 1) < g.length := by omega
    have h64 := pw_64 hg.1.2
    rw [rfF_suc]
    have go : ∀ j, j ≤ 2 ^ g.length → (∀ e, e < 5 → e ≠ g.length - (d + 1) → at_ (rfP g d R b j).1 e = at_ R e) ∧
        (∀ x, x < j → andn x (at_ g (g.length - (d + 1))).toNat = 0 → ∀ R', ag g R (g.length - (d + 1)) R' → at_ R' (g.length - (d + 1)) = rw1 (g.length - (d + 1)) x → (rfP g d R b j).2 ≤ RKs g R') ∧
        ((rfP g d R b j).2 = b ∨ ∃ R', ag g R (g.length - (d + 1)) R' ∧ (rfP g d R b j).2 = RKs g R') := by
      intro j
      induction j with
      | zero => exact fun _ => ⟨fun _ _ _ => rfl, fun x hx => absurd hx (Nat.not_lt_zero x), .inl rfl⟩
      | succ j ih =>
        intro hj
        obtain ⟨g1, g2, g3⟩ := ih (by omega)
        obtain ⟨r1, r2⟩ := rfP_rs (g := g) (d := d) (b := b) hR h5 j (by omega)
        have hsuc := rfP_suc g d R b j
        rw [rfS] at hsuc
        generalize rfP g d R b (j + 1) = Y at hsuc
        generalize rfP g d R b j = Z at *
        obtain ⟨S, c⟩ := Z
        simp only at g1 g2 g3 r1 r2 hsuc
        by_cases ha : andn j (at_ g (g.length - (d + 1))).toNat = 0
        · rw [if_pos ha] at hsuc
          subst hsuc
          have hS' := rs_set (i := g.length - (d + 1)) r1 (or_lt (i := g.length - (d + 1)) (j := j) (by omega) (by omega))
          obtain ⟨k1, k2⟩ := rf_ok hg h5 d (by omega) (S.set (g.length - (d + 1)) (rw1 (g.length - (d + 1)) j)) c hS'
          have hle := rfF_le g d (S.set (g.length - (d + 1)) (rw1 (g.length - (d + 1)) j)) c
          rw [ei] at k1 k2
          have hat : ∀ e, e < 5 → at_ (S.set (g.length - (d + 1)) (rw1 (g.length - (d + 1)) j)) e = if g.length - (d + 1) = e then rw1 (g.length - (d + 1)) j else at_ S e := fun e he => at_set (by rw [r1.1]; exact he) _
          generalize S.set (g.length - (d + 1)) (rw1 (g.length - (d + 1)) j) = S' at *
          simp only
          refine ⟨fun e he hne => ?_, fun x hx hx0 R' hR' hi' => ?_, ?_⟩
          · rw [hat e he, if_neg (fun q => hne q.symm)]; exact g1 e he hne
          · rcases Nat.lt_or_ge x j with h | h
            · exact Nat.le_trans hle (g2 x h hx0 R' hR' hi')
            · have : x = j := by omega
              subst this
              refine k1 R' ⟨hR'.1, fun e he hor => ?_, fun e h1 h2 => hR'.2.2 e (by omega) h2⟩
              rw [hat e he]
              by_cases q : g.length - (d + 1) = e
              · rw [if_pos q, ← q]; exact hi'
              · rw [if_neg q, g1 e he (fun q2 => q q2.symm)]; exact hR'.2.1 e he (by omega)
          · rcases k2 with h | ⟨R', hR', h⟩
            · rw [h]; exact g3
            · refine .inr ⟨R', ⟨hR'.1, fun e he hor => ?_, fun e h1 h2 => ?_⟩, h⟩
              · rw [hR'.2.1 e he (by omega), hat e he, if_neg (by omega)]; exact g1 e he (by omega)
              · by_cases q : e = g.length - (d + 1)
                · have := hR'.2.1 e (by omega) (by omega)
                  rw [hat e (by omega), if_pos q.symm] at this
                  show Fr g e (at_ R' e).toNat
                  rw [this, Int.toNat_natCast, q]
                  exact fit_or hg hi (by omega) ha
                · exact hR'.2.2 e (by omega) h2
        · rw [if_neg ha] at hsuc
          subst hsuc
          refine ⟨g1, fun x hx hx0 R' hR' hi' => ?_, g3⟩
          rcases Nat.lt_or_ge x j with h | h
          · exact g2 x h hx0 R' hR' hi'
          · have : x = j := by omega
            subst this; exact absurd hx0 ha
    obtain ⟨_, g2, g3⟩ := go _ (Nat.le_refl _)
    refine ⟨fun R' hR' => ?_, g3⟩
    obtain ⟨a1, a2, a3⟩ := fit_and hg hi (hR'.2.2 (g.length - (d + 1)) (Nat.le_refl _) hi)
    refine g2 _ a1 a2 R' hR' ?_
    show _ = ((_ : Nat) : Int)
    rw [a3]
    have := hR'.1.2 (g.length - (d + 1)) (by omega)
    show _ = (((at_ R' (g.length - (d + 1))).toNat : Nat) : Int)
    omega
theorem FL_get {g : List Int} : ∀ (l : List Nat) (i : Nat), FL g i l → ∀ j, j < l.length → Fr g (i + j) (l.getD j 0)
  | x :: l, i, h, 0, _ => h.1
  | x :: l, i, h, j + 1, hj => by
    have := FL_get l (i + 1) h.2 j (by simpa using hj)
    have e : i + 1 + j = i + (j + 1) := by omega
    rw [e] at this; simpa using this
theorem FL_map {g : List Int} {f : Nat → Nat} : ∀ (d i : Nat), (∀ j, i ≤ j → j < i + d → Fr g j (f j)) → FL g i ((List.range' i d).map f)
  | 0, _, _ => trivial
  | d + 1, i, h => ⟨h i (Nat.le_refl i) (by omega), FL_map d (i + 1) (fun j h1 h2 => h j (by omega) (by omega))⟩
/-- both are the same -/
theorem fit_eq {g : List Int} (hg : Gr g) (h5 : g.length ≤ 5) : ftF g g.length [0] = rfF g g.length [0, 0, 0, 0, 0] g.length := by
  have hz : rs [0, 0, 0, 0, 0] := by decide
  have h64 := pw_64 hg.1.2
  obtain ⟨a1, l, a2, a3, a4⟩ := ft_ok hg g.length (Nat.le_refl _) [0] cl0 (fun v hv => by simp at hv; subst hv; exact Nat.pow_pos (by decide))
  obtain ⟨b1, b2⟩ := rf_ok hg h5 g.length (Nat.le_refl _) [0, 0, 0, 0, 0] g.length hz
  rw [Nat.sub_self] at a1 a3 b1 b2
  have e0 : nl [0] = [0] := rfl
  rw [e0] at a1 a4
  apply Nat.le_antisymm
  · rcases b2 with h | ⟨R', hR', h⟩
    · rw [h]; exact ftF_le g _ _
    · rw [h, RKs, rk2_ok hR'.1 h5 (fun i hi => (hR'.2.2 i (Nat.zero_le i) hi).1)]
      exact a1 _ (by simp) (by rw [List.range_eq_range']; exact FL_map _ 0 (fun j _ h2 => hR'.2.2 j (Nat.zero_le j) (by omega)))
  · rw [a4]
    have hl : ∀ j, j < g.length → Fr g j (l.getD j 0) := fun j hj => by
      have := FL_get l 0 a3 j (by omega); rwa [Nat.zero_add] at this
    have hP : (nl l ++ List.replicate (5 - g.length) 0).length = 5 := by simp [a2]; omega
    have hat : ∀ j, j < 5 → at_ (nl l ++ List.replicate (5 - g.length) 0) j = ((if j < g.length then l.getD j 0 else 0 : Nat) : Int) := fun j hj => by
      by_cases h : j < g.length
      · have hj' : j < l.length := by omega
        rw [if_pos h]; simp [at_, List.getD_eq_getElem?_getD, List.getElem?_append_left, hj']
      · rw [if_neg h]
        have h1 : (nl l).length ≤ j := by simp [a2]; omega
        have h2 : j - (nl l).length < 5 - g.length := by simp [a2]; omega
        simp only [at_, List.getD_eq_getElem?_getD]
        rw [List.getElem?_append_right h1, List.getElem?_replicate, if_pos h2]; rfl
    generalize nl l ++ List.replicate (5 - g.length) 0 = R' at hP hat
    have hnt : ∀ j, j < g.length → nt R' j = l.getD j 0 := fun j hj => by
      show (at_ R' j).toNat = _
      rw [hat j (by omega), if_pos hj]; rfl
    have hR' : ag g [0, 0, 0, 0, 0] 0 R' := by
      refine ⟨⟨hP, fun j hj => ?_⟩, fun j hj hor => ?_, fun j _ hj => by rw [hnt j hj]; exact hl j hj⟩
      · rw [hat j hj]
        split
        · rename_i h; have := (hl j h).1; omega
        · omega
      · have hge : g.length ≤ j := by omega
        rw [hat j hj, if_neg (by omega)]
        match j, hj with
        | 0, _ => rfl
        | 1, _ => rfl
        | 2, _ => rfl
        | 3, _ => rfl
        | 4, _ => rfl
    have := b1 R' hR'
    rw [RKs, rk2_ok hR'.1 h5 (fun i hi => (hR'.2.2 i (Nat.zero_le i) hi).1)] at this
    have e : (List.range g.length).map (nt R') = l := by
      apply List.ext_getElem (by simp [a2])
      intro j h1 h2
      simp only [List.getElem_map, List.getElem_range]
      rw [hnt j (by omega)]
      simp [List.getD_eq_getElem?_getD, List.getElem?_eq_getElem h2]
    rw [e] at this; exact this
end Go.Proofs.Sur
