/- Layer 5: light weights, the law's mathematics. -/
import Derived.Test.YtlomlnkafakloaaDoorSzM
import Derived.Test.YtlomlnkafakloaaDoorSxL
import Derived.Test.YtlomlnkafakloaaDoorSyC
set_option linter.unusedSimpArgs false
set_option linter.unusedVariables false
set_option linter.unnecessarySimpa false
set_option maxHeartbeats 1000000
namespace Go.Proofs.Sur
open Go Go.VM

theorem cd_ind {w : List W} (hg : gsW w) {l : List Int} (h : isCd w l) : Ind w (ful w.length) (l.map Int.toNat) := by
  refine ⟨?_, ?_, ?_⟩
  · rw [List.Nodup, List.pairwise_map]
    refine (List.Pairwise.and_mem.1 h.2).imp ?_
    rintro a b ⟨ha, hb, h1, _⟩ e
    have := h.1 a ha; have := h.1 b hb
    omega
  · intro x hx
    obtain ⟨a, ha, rfl⟩ := List.mem_map.1 hx
    have := h.1 a ha
    rw [ful_bit hg.1.1.2]; simp; omega
  · intro x hx y hy e
    obtain ⟨a, ha, rfl⟩ := List.mem_map.1 hx
    obtain ⟨b, hb, rfl⟩ := List.mem_map.1 hy
    have e' : a ≠ b := fun h => e (by rw [h])
    have b1 := h.1 a ha
    have b2 := h.1 b hb
    rcases pw_all h.2 ha hb e' with r | r
    · exact r.2
    · have := hg.2 a.toNat b.toNat (by omega) (by omega)
      rw [this]; exact r.2
def ow0 (n : Nat) : List Pr := (List.range n).map fun _ => (0, 1)
def ow (n : Nat) (c : List Int) : Nat → List Pr
  | 0 => ow0 n
  | i + 1 => (ow n c i).set (at_ c i).toNat (1, ((ow n c i).getD (at_ c i).toNat pair0).2)
theorem ow_len (n : Nat) (c : List Int) : ∀ i, (ow n c i).length = n
  | 0 => by simp [ow, ow0]
  | i + 1 => by rw [ow, List.length_set, ow_len n c i]
theorem getD_set_ne {α : Type} {l : List α} {x v : Nat} {d : α} (e : ¬ x = v) (p : α) : (l.set x p).getD v d = l.getD v d := by
  simp only [List.getD_eq_getElem?_getD, List.getElem?_set_ne e]
theorem getD_set_eq {α : Type} {l : List α} {v : Nat} {d : α} (h : v < l.length) (p : α) : (l.set v p).getD v d = p := by
  simp [List.getD_eq_getElem?_getD, h]
open Classical in
theorem ow_get (n : Nat) (c : List Int) : ∀ i, (∀ t, t < i → (at_ c t).toNat < n) → ∀ v, v < n → (ow n c i).getD v pair0 = ((if ∃ t, t < i ∧ (at_ c t).toNat = v then 1 else 0), 1)
  | 0, _, v, hv => by
    rw [if_neg (by rintro ⟨t, ht, _⟩; omega)]
    simp [ow, ow0, List.getD_eq_getElem?_getD, hv]
  | i + 1, hc, v, hv => by
    have ih := ow_get n c i (fun t ht => hc t (by omega))
    have hx := hc i (by omega)
    rw [ow, ih _ hx]
    by_cases e : (at_ c i).toNat = v
    · have hp : ∃ t, t < i + 1 ∧ (at_ c t).toNat = v := ⟨i, by omega, e⟩
      rw [if_pos hp, e]
      exact getD_set_eq (by rw [ow_len]; exact hv) _
    · have h1 := getD_set_ne (l := ow n c i) (d := pair0) e (1, 1)
      show ((ow n c i).set (at_ c i).toNat (1, 1)).getD v pair0 = _
      rw [h1, ih v hv]
      have : (∃ t, t < i + 1 ∧ (at_ c t).toNat = v) ↔ ∃ t, t < i ∧ (at_ c t).toNat = v := ⟨fun ⟨t, h1, h2⟩ => ⟨t, by
        have : t ≠ i := fun q => e (q ▸ h2)
        omega, h2⟩, fun ⟨t, h1, h2⟩ => ⟨t, by omega, h2⟩⟩
      simp only [this]
theorem ow_ok (n : Nat) (c : List Int) (i : Nat) (h : ∀ t, t < i → (at_ c t).toNat < n) : wOKs (ow n c i) := fun v hv => by
  rw [ow_len] at hv
  rw [wOK, ow_get n c i h v hv]
  split <;> exact ⟨⟨by decide, by decide⟩, ⟨by decide, by decide⟩, by decide⟩
theorem ow_dn (n : Nat) (c : List Int) (i : Nat) (h : ∀ t, t < i → (at_ c t).toNat < n) : ∀ j, j ≤ n → dnN (ow n c i) j = 1
  | 0, _ => rfl
  | j + 1, hj => by
    rw [dnN, ow_dn n c i h j (by omega), ow_get n c i h j (by omega)]
    show Nat.lcm 1 1 = 1
    decide
theorem ow_light {g : List Int} (hg : Gr g) {c : List Int} (hc : isCd (nrV g) c) : liB g (ow g.length c c.length) = true ∧ liE g (ow g.length c c.length) = 0 := by
  have gs := nrV_gs hg
  have hI := cd_ind gs hc
  rw [nrV_len] at hI
  have hr : ∀ t, t < c.length → (at_ c t).toNat < g.length := fun t ht => by
    have e : at_ c t = c[t] := by simp [at_, List.getD_eq_getElem?_getD, List.getElem?_eq_getElem ht]
    have := hc.1 _ (e ▸ List.getElem_mem ht)
    rw [nrV_len] at this; omega
  have hG : liG g (ow g.length c c.length) := ⟨hg, ow_len _ _ _, ow_ok _ _ _ hr⟩
  refine ⟨liB_t ⟨hG, fun i hi => ?_⟩, if_pos hG⟩
  have h6 := hg.1.2
  have hlt : ∀ x, x ∈ c.map Int.toNat → x < g.length := fun x hx => by
    have := hI.ins x hx
    rw [ful_bit (by omega), decide_eq_true_eq] at this; exact this
  have hdn := ow_dn g.length c c.length hr
  have e0 : pzS g (ow g.length c c.length) i (ow g.length c c.length).length ≤ sm g.length (fun v => if bS (clV g) i v = true then (((c.map Int.toNat).filter (fun x => decide (x = v))).length : Int) else 0) := by
    rw [ow_len]
    refine sm_le _ fun v hv => ?_
    by_cases hb : bS (clV g) i v = true
    · rw [if_pos hb, if_pos hb]
      unfold nmX
      rw [ow_len, hdn _ (Nat.le_refl _), ow_get _ _ _ hr v hv]
      by_cases hx : ∃ t, t < c.length ∧ (at_ c t).toNat = v
      · rw [if_pos hx]
        obtain ⟨t, t1, t2⟩ := hx
        have e : at_ c t = c[t] := by simp [at_, List.getD_eq_getElem?_getD, List.getElem?_eq_getElem t1]
        have hm : v ∈ (c.map Int.toNat).filter (fun x => decide (x = v)) := List.mem_filter.2 ⟨List.mem_map.2 ⟨_, e ▸ List.getElem_mem t1, t2⟩, by simp⟩
        have := List.length_pos_of_mem hm
        show (1 : Int) ≤ _
        omega
      · rw [if_neg hx]
        show (0 : Int) ≤ _
        exact Int.natCast_nonneg _
    · rw [if_neg hb, if_neg hb]; exact Int.le_refl _
  rw [count_sm (f := fun x => x) hlt (fun v => bS (clV g) i v)] at e0
  have := nodup_le1 (S := (c.map Int.toNat).filter (fun x => bS (clV g) i x)) (hI.nd.filter _) (fun x hx y hy => by
    obtain ⟨hx1, hx2⟩ := List.mem_filter.1 hx
    obtain ⟨hy1, hy2⟩ := List.mem_filter.1 hy
    refine Classical.byContradiction fun hne => ?_
    have h1 := hI.far x hx1 y hy1 hne
    rw [clq_near hg hi (hlt x hx1) (hlt y hy1) hx2 hy2] at h1
    cases h1)
  have hD : ((dnN (ow g.length c c.length) (ow g.length c c.length).length : Nat) : Int) = 1 := by rw [ow_len, hdn _ (Nat.le_refl _)]; rfl
  rw [hD]
  omega
def suA (w : List Pr) : Nat → Int × Int
  | 0 => (0, 1)
  | j + 1 => ((suA w j).1 * (w.getD j pair0).2 + (w.getD j pair0).1 * (suA w j).2, (suA w j).2 * (w.getD j pair0).2)
theorem su_b {w : List Pr} (h : wOKs w) : ∀ j, j ≤ w.length → 0 ≤ (suA w j).1 ∧ (suA w j).1 ≤ (j : Int) * ((60 ^ j : Nat) : Int) ∧ 1 ≤ (suA w j).2 ∧ (suA w j).2 ≤ ((60 ^ j : Nat) : Int)
  | 0, _ => ⟨Int.le_refl 0, (by decide : (0 : Int) ≤ ((0 : Nat) : Int) * ((60 ^ 0 : Nat) : Int)), Int.le_refl 1, (by decide : (1 : Int) ≤ ((60 ^ 0 : Nat) : Int))⟩
  | j + 1, hj => by
    obtain ⟨a1, a2, b1, b2⟩ := su_b h j (by omega)
    obtain ⟨⟨d1, d2⟩, ⟨n1, n2⟩, _⟩ := h j (by omega)
    have hp : (0 : Int) ≤ ((60 ^ j : Nat) : Int) := Int.natCast_nonneg _
    have c1 := Int.mul_nonneg a1 (show 0 ≤ (w.getD j pair0).2 by omega)
    have c2 := Int.mul_nonneg n1 (show 0 ≤ (suA w j).2 by omega)
    have c3 := Int.mul_le_mul a2 d2 (by omega) (Int.mul_nonneg (by omega) hp)
    have c4 := Int.mul_le_mul (show (w.getD j pair0).1 ≤ 60 by omega) b2 (by omega) (by omega)
    have c5 := Int.mul_le_mul b2 d2 (by omega) hp
    have c6 : 1 ≤ (suA w j).2 * (w.getD j pair0).2 := Int.mul_pos (show 0 < (suA w j).2 by omega) (show 0 < (w.getD j pair0).2 by omega)
    have e : ((60 ^ (j + 1) : Nat) : Int) = 60 * ((60 ^ j : Nat) : Int) := by rw [Nat.pow_succ, Nat.mul_comm]; rfl
    have e2 : (((j + 1 : Nat) : Int)) * ((60 ^ (j + 1) : Nat) : Int) = (j : Int) * ((60 ^ j : Nat) : Int) * 60 + 60 * ((60 ^ j : Nat) : Int) := by
      rw [e, show ((j + 1 : Nat) : Int) = (j : Int) + 1 from by omega, Int.add_mul, Int.one_mul, Int.mul_comm 60, ← Int.mul_assoc]
    refine ⟨?_, ?_, c6, ?_⟩
    · show 0 ≤ (suA w j).1 * (w.getD j pair0).2 + (w.getD j pair0).1 * (suA w j).2
      omega
    · rw [e2]
      show (suA w j).1 * (w.getD j pair0).2 + (w.getD j pair0).1 * (suA w j).2 ≤ _
      omega
    · rw [e]
      show (suA w j).2 * (w.getD j pair0).2 ≤ _
      omega
theorem su_sm {w : List Pr} (h : wOKs w) : ∀ j, j ≤ w.length → (suA w j).1 * (dnN w w.length : Nat) = sm j (nmX w) * (suA w j).2
  | 0, _ => by simp [suA, sm]
  | j + 1, hj => by
    have ih := su_sm h j (by omega)
    obtain ⟨_, e, _, _⟩ := nmX_b h (show j < w.length by omega)
    show ((suA w j).1 * (w.getD j pair0).2 + (w.getD j pair0).1 * (suA w j).2) * _ = (sm j (nmX w) + nmX w j) * ((suA w j).2 * (w.getD j pair0).2)
    rw [Int.add_mul, Int.add_mul]
    congr 1
    · rw [Int.mul_right_comm, ih, Int.mul_assoc]
    · unfold nmX
      generalize ((dnN w w.length : Nat) : Int).tdiv (w.getD j pair0).2 = q at e ⊢
      rw [← e]
      generalize (w.getD j pair0).2 = d
      generalize (w.getD j pair0).1 = m
      generalize (suA w j).2 = s
      simp only [Int.mul_comm, Int.mul_left_comm]
theorem su_le {g : List Int} {w : List Pr} (h : liG g w) (hp : liP g w) : (suA w w.length).1 * wgD g ≤ wgN g * (suA w w.length).2 := by
  obtain ⟨hg, hl, hw⟩ := h
  have hD := dn_b hw (by rw [hl]; exact hg.1.2) (Nat.le_refl w.length)
  have hx : ∀ j, j < g.length → 0 ≤ nmX w j := fun j hj => (nmX_b hw (by rw [hl]; exact hj)).2.2.1
  have key := lgt_top hg hx (ix_lgt hg hx (D := (dnN w w.length : Nat)) (fun i hi => by
    have := hp i hi
    have e : pzS g w i w.length = pzS g w i g.length := by rw [hl]
    rw [e] at this; exact this))
  rw [← hl] at key
  have hs := su_sm hw w.length (Nat.le_refl _)
  have b1 := (su_b hw w.length (Nat.le_refl _)).2.2.1
  have k2 := Int.mul_le_mul_of_nonneg_right key (show 0 ≤ (suA w w.length).2 by omega)
  refine Int.le_of_mul_le_mul_right (?_ : (suA w w.length).1 * wgD g * ((dnN w w.length : Nat) : Int) ≤ wgN g * (suA w w.length).2 * ((dnN w w.length : Nat) : Int)) (by omega)
  rw [Int.mul_right_comm, hs, Int.mul_right_comm, Int.mul_right_comm (wgN g)]
  exact k2
end Go.Proofs.Sur

