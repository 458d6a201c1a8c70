/- Layer 8: properties of graphs must be asked to the end. -/
import Derived.Test.YtjobibaeklbkmaaDoorEdBc
import Derived.Test.YtjobibaeklbkmaaDoorEdAf
set_option linter.unusedSimpArgs false
set_option linter.unusedVariables false
set_option linter.unnecessarySimpa false
set_option maxRecDepth 100000
namespace Go.Proofs.Evd
open Go.Proofs.Sur (W andn andn_bit andn_le)

/-- the number of pairs -/
def nP (m : Nat) : Nat := m * (m - 1) / 2
def mvC (m k : Nat) : Bool := (List.range (2 ^ nP m)).all fun g => decide (mv (plB m k) g < 2 ^ nP m) && (decide (mv (plB m k) (mv (plB m k) g) = g) && decide (mv (plB m k) (2 ^ nP m - 1 - g) = 2 ^ nP m - 1 - mv (plB m k) g))
def mvD (m k : Nat) : Bool := (List.range (2 ^ nP m)).all fun t => (List.range 64).all fun s => !decide (s &&& t = s) || decide (mv (plB m k) s &&& mv (plB m k) t = mv (plB m k) s)
theorem mvC_ok {m k : Nat} (h : nk m k) : mvC m k = true := by
  rcases nk_cases h with ⟨rfl, rfl⟩ | ⟨rfl, rfl⟩ | ⟨rfl, rfl⟩ | ⟨rfl, rfl⟩ | ⟨rfl, rfl⟩ | ⟨rfl, rfl⟩ <;> decide +kernel
theorem mvD_ok {m k : Nat} (h : nk m k) : mvD m k = true := by
  rcases nk_cases h with ⟨rfl, rfl⟩ | ⟨rfl, rfl⟩ | ⟨rfl, rfl⟩ | ⟨rfl, rfl⟩ | ⟨rfl, rfl⟩ | ⟨rfl, rfl⟩ <;> decide +kernel
theorem nP_6 {m : Nat} (h : m ≤ 4) : nP m ≤ 6 := by
  have t : ∀ m, m < 5 → nP m ≤ 6 := by decide
  exact t m (by omega)
theorem nP_1 {m : Nat} (h : 2 ≤ m ∧ m ≤ 4) : 1 ≤ nP m := by
  have t : ∀ m, m < 5 → 2 ≤ m → 1 ≤ nP m := by decide
  exact t m (by omega) h.1
theorem mv_ok {m k g : Nat} (h : nk m k) (hg : g < 2 ^ nP m) : mv (plB m k) g < 2 ^ nP m ∧ mv (plB m k) (mv (plB m k) g) = g ∧ mv (plB m k) (2 ^ nP m - 1 - g) = 2 ^ nP m - 1 - mv (plB m k) g := by
  have := List.all_eq_true.1 (mvC_ok h) g (List.mem_range.2 hg)
  simpa [Bool.and_eq_true] using this
theorem mv_sub {m k s t : Nat} (h : nk m k) (ht : t < 2 ^ nP m) (hst : Sub s t) : Sub (mv (plB m k) s) (mv (plB m k) t) := by
  have h64 := p64 (nP_6 h.2.1)
  have h1 := List.all_eq_true.1 (mvD_ok h) t (List.mem_range.2 ht)
  have h2 := List.all_eq_true.1 h1 s (List.mem_range.2 (sub_lt hst (by omega)))
  rw [Bool.or_eq_true, Bool.not_eq_true', decide_eq_false_iff_not, decide_eq_true_eq] at h2
  rcases h2 with h2 | h2
  · exact absurd (sub_and.1 hst) h2
  · exact sub_and.2 h2
theorem exW_bit {B : List Nat} {F : W} {s : Nat} (h : s < 64) : hs (exW B F) s = true ↔ ∃ g, hs F g = true ∧ mv B g = s := by
  rw [exW, fm_bit h, List.mem_map]
  constructor
  · rintro ⟨g, h1, h2⟩; exact ⟨g, Go.Proofs.Sur.mem_bits.1 h1, h2⟩
  · rintro ⟨g, h1, h2⟩; exact ⟨g, Go.Proofs.Sur.mem_bits.2 h1, h2⟩
/-- nothing is changed by any exchange -/
def Inv (m : Nat) (F : W) : Prop := ∀ k, nk m k → ∀ g, hs F g = true → hs F (mv (plB m k) g) = true
theorem inv_of {m : Nat} {F : W} (h : rnd m F = F) : Inv m F := fun k hk g hg => by
  have hl : mv (plB m k) g < 64 := mvJ_lt (plB_ok hk) g _ (Nat.le_refl _)
  exact ex_in h hk.2.2 _ ((exW_bit hl).2 ⟨g, hg, rfl⟩)
theorem of_inv {m : Nat} (hm : 2 ≤ m ∧ m ≤ 4) {F : W} (h : Inv m F) : rnd m F = F := rnd_of fun k hk s q => by
  obtain ⟨g, h1, rfl⟩ := (exW_bit (hs_lt q)).1 q
  exact h k ⟨hm.1, hm.2, hk⟩ g h1
theorem xm_rg {m : Nat} (hm : 2 ≤ m ∧ m ≤ 4) {F : W} (h : Rg (nP m) F) : ∀ i, i ≤ m - 1 → Rg (nP m) (xmJ m F i)
  | 0, _ => h
  | i + 1, hi => fun s q => by
    have ih := xm_rg hm h i (by omega)
    rw [xmJ, or_bit, Bool.or_eq_true] at q
    rcases q with q | q
    · exact ih s q
    · obtain ⟨g, h1, rfl⟩ := (exW_bit (hs_lt q)).1 q
      exact (mv_ok ⟨hm.1, hm.2, by omega⟩ (ih g h1)).1
theorem itr_rg {m : Nat} (hm : 2 ≤ m ∧ m ≤ 4) {F : W} (h : Rg (nP m) F) : ∀ j, Rg (nP m) (itr m F j)
  | 0 => h
  | j + 1 => xm_rg hm (itr_rg hm h j) _ (Nat.le_refl _)
theorem cls_rg {n : Nat} {F : W} (h : Rg n F) : Rg n (cls F) := fun s q => by
  obtain ⟨t, h1, h2⟩ := (cls_bit (hs_lt q)).1 q
  have := h t h1
  have h3 : s &&& t = s := sub_and.1 h2
  have : s &&& t ≤ t := Nat.and_le_right
  omega
theorem inv_cls {m : Nat} {F : W} (hr : Rg (nP m) F) (h : Inv m F) : Inv m (cls F) := fun k hk g hg => by
  obtain ⟨t, h1, h2⟩ := (cls_bit (hs_lt hg)).1 hg
  exact (cls_bit (mvJ_lt (plB_ok hk) g _ (Nat.le_refl _))).2 ⟨_, h k hk t h1, mv_sub hk (hr t h1) h2⟩
theorem inv_dF {m : Nat} (hm : m ≤ 4) {F : W} (hr : Rg (nP m) F) (h : Inv m F) : Inv m (dF (nP m) F) := fun k hk g hg => by
  have hn := nP_6 hm
  obtain ⟨h1, h2⟩ := (dF_bit hn F (hs_lt hg)).1 hg
  obtain ⟨m1, m2, m3⟩ := mv_ok hk h1
  refine (dF_bit hn F (by have := p64 hn; omega)).2 ⟨m1, ?_⟩
  rw [← m3]
  cases hb : hs F (mv (plB m k) (2 ^ nP m - 1 - g))
  · rfl
  · have := h k hk _ hb
    rw [(mv_ok hk (show 2 ^ nP m - 1 - g < 2 ^ nP m by omega)).2.1, h2] at this
    cases this
/-! ### classes of graphs -/
def ciT : Nat → List Nat
  | 2 => [0, 1]
  | 3 => [0, 1, 1, 2, 1, 2, 2, 3]
  | 4 => [0, 1, 1, 2, 1, 2, 2, 3, 1, 2, 2, 4, 5, 6, 6, 7, 1, 2, 5, 6, 2, 4, 6, 7, 2, 3, 6, 7, 6, 7, 8, 9, 1, 5, 2, 6, 2, 6, 4, 7, 2, 6, 3, 7, 6, 8, 7, 9, 2, 6, 6, 8, 3, 7, 7, 9, 4, 7, 7, 9, 7, 9, 9, 10]
  | _ => []
def rpT : Nat → List Nat
  | 2 => [0, 1]
  | 3 => [0, 1, 3, 7]
  | 4 => [0, 1, 3, 7, 11, 12, 13, 15, 30, 31, 63]
  | _ => []
def ptT : Nat → List (List Nat)
  | 2 => [[], []]
  | 3 => [[], [], [1], [], [0, 1], [0], [1, 0], []]
  | 4 => [[], [], [1], [], [2, 1], [2], [1, 2], [], [0, 1], [0], [1, 0], [], [], [], [1], [], [2, 0, 1], [2, 0], [0], [0], [2, 1, 0], [2], [2, 1], [2], [0, 1, 2], [0], [0, 1], [0], [2, 0, 1], [2, 0], [], [], [1, 2, 0, 1], [1, 0], [1, 2, 0], [1, 0], [1, 2, 1, 0], [2, 1, 0], [1, 2], [1, 2], [0, 1, 2, 0], [0, 1, 0], [1, 0], [1, 0], [1, 2, 0, 1], [1], [1, 2, 0], [1], [0, 1, 2, 1, 0], [2, 0, 1, 0], [1, 2, 0, 1, 0], [0, 1], [2, 1, 0], [2, 1, 0], [1, 2, 1, 0], [2, 1], [0, 1, 2], [0, 1, 2], [0, 1, 2, 0], [0, 1], [0, 1, 2, 1, 0], [2, 0, 1], [1, 2, 0, 1], []]
  | _ => []
def ci (m g : Nat) : Nat := (ciT m).getD g 0
def rp (m i : Nat) : Nat := (rpT m).getD i 0
def pt (m g : Nat) : List Nat := (ptT m).getD g []
/-- along a path -/
def mvs (m : Nat) : List Nat → Nat → Nat
  | [], g => g
  | k :: p, g => mvs m p (mv (plB m k) g)
theorem path_tab : ∀ m, m < 5 → 2 ≤ m → ∀ g, g < 64 → g < 2 ^ nP m → mvs m (pt m g) g = rp m (ci m g) ∧ (pt m g).all (fun k => decide (k + 1 < m)) = true ∧ ci m g < (rpT m).length := by decide +kernel
theorem mvs_same {m : Nat} (hm : 2 ≤ m ∧ m ≤ 4) {F : W} (hI : Inv m F) : ∀ (p : List Nat) (g : Nat), g < 2 ^ nP m → p.all (fun k => decide (k + 1 < m)) = true → hs F (mvs m p g) = hs F g
  | [], g, _, _ => rfl
  | k :: p, g, hg, hp => by
    simp only [List.all_cons, Bool.and_eq_true, decide_eq_true_eq] at hp
    have hk : nk m k := ⟨hm.1, hm.2, hp.1⟩
    obtain ⟨m1, m2, _⟩ := mv_ok hk hg
    rw [mvs, mvs_same hm hI p _ m1 hp.2, Bool.eq_iff_iff]
    constructor
    · intro h
      have := hI k hk _ h
      rwa [m2] at this
    · exact hI k hk g
theorem rp_same {m : Nat} (hm : 2 ≤ m ∧ m ≤ 4) {F : W} (hI : Inv m F) {g : Nat} (hg : g < 2 ^ nP m) : hs F g = hs F (rp m (ci m g)) ∧ ci m g < (rpT m).length := by
  obtain ⟨h1, h2, h3⟩ := path_tab m (by omega) hm.1 g (by have := p64 (nP_6 hm.2); omega) hg
  rw [← h1, mvs_same hm hI _ g hg h2]
  exact ⟨rfl, h3⟩
theorem bits_of (b : Nat → Bool) : ∀ c, ∃ k, k < 2 ^ c ∧ ∀ i, i < c → k.testBit i = b i
  | 0 => ⟨0, by decide, fun i h => absurd h (Nat.not_lt_zero _)⟩
  | c + 1 => by
    obtain ⟨k, h1, h2⟩ := bits_of b c
    have hc : k.testBit c = false := Nat.testBit_lt_two_pow h1
    refine ⟨if b c = true then k ||| 2 ^ c else k, ?_, fun i hi => ?_⟩
    · have h3 : k < 2 ^ (c + 1) := Nat.lt_of_lt_of_le h1 (Nat.pow_le_pow_right (by decide) (by omega))
      split
      · exact Nat.or_lt_two_pow h3 (Nat.pow_lt_pow_right (by decide) (by omega))
      · exact h3
    · by_cases e : i = c
      · subst e
        cases hb : b i
        · simp [hc]
        · simp
      · have : ¬ c = i := fun q => e q.symm
        split
        · rw [Nat.testBit_or, Nat.testBit_two_pow, h2 i (by omega)]; simp [this]
        · exact h2 i (by omega)
def sgT (m : Nat) : List (Nat × Int) := (List.range (2 ^ nP m)).map fun g => (ci m g, sg g)
def sumT (k : Nat) : List (Nat × Int) → Int
  | [] => 0
  | p :: l => (if k.testBit p.1 = true then p.2 else 0) + sumT k l
theorem sumT_eq (k : Nat) : ∀ l : List (Nat × Int), sumT k l = (l.map fun p => if k.testBit p.1 = true then p.2 else 0).sum
  | [] => rfl
  | p :: l => by rw [sumT, sumT_eq k l]; rfl
def validB (m k : Nat) : Bool := (List.range (2 ^ nP m)).all fun g => (List.range (nP m)).all fun x => !k.testBit (ci m g) || k.testBit (ci m (g &&& (63 - 2 ^ x)))
def chk (m k : Nat) : Bool := !decide (sumT k (sgT m) = 0) || decide (k = 0) || decide (k = 2 ^ (rpT m).length - 1) || !validB m k
theorem chk_2 : ((List.range (2 ^ (rpT 2).length)).all (chk 2)) = true := by decide +kernel
theorem chk_3 : ((List.range (2 ^ (rpT 3).length)).all (chk 3)) = true := by decide +kernel
theorem chk_4 : ((List.range (2 ^ (rpT 4).length)).all (chk 4)) = true := by decide +kernel
theorem chk_ok {m : Nat} (hm : 2 ≤ m ∧ m ≤ 4) {k : Nat} (hk : k < 2 ^ (rpT m).length) : chk m k = true := by
  have hc : m = 2 ∨ m = 3 ∨ m = 4 := by omega
  rcases hc with rfl | rfl | rfl
  · exact List.all_eq_true.1 chk_2 k (List.mem_range.2 hk)
  · exact List.all_eq_true.1 chk_3 k (List.mem_range.2 hk)
  · exact List.all_eq_true.1 chk_4 k (List.mem_range.2 hk)
theorem and_tab : ∀ g, g < 64 → ∀ x, x < 6 → g &&& (63 - 2 ^ x) = andn g (2 ^ x) := by decide +kernel
/-- a property that is neither empty nor all has not the sum 0 -/
theorem prop_sum {m : Nat} (hm : 2 ≤ m ∧ m ≤ 4) {F : W} (hr : Rg (nP m) F) (hd : Dn F) (hI : Inv m F) (h0 : hs F 0 = true) (h1 : hs F (2 ^ nP m - 1) = false) : sm F ≠ 0 := by
  have hn := nP_6 hm.2
  have h64 := p64 hn
  have hp := Nat.two_pow_pos (nP m)
  obtain ⟨k, hk, hkb⟩ := bits_of (fun i => hs F (rp m i)) (rpT m).length
  have hb : ∀ g, g < 2 ^ nP m → k.testBit (ci m g) = hs F g := fun g hg => by
    obtain ⟨q1, q2⟩ := rp_same hm hI hg
    rw [hkb _ q2, q1]
  have hsum : sm F = sumT k (sgT m) := by
    rw [sumT_eq, sgT, List.map_map, sm, sum_trunc _ 64 h64 (fun i g1 _ => by
      cases hq : hs F i
      · rfl
      · have := hr i hq; omega), sumI_range]
    congr 1
    apply List.map_congr_left
    intro g hg
    simp only [Function.comp_apply]
    rw [hb g (List.mem_range.1 hg)]
  have hc := chk_ok hm hk
  simp only [chk, Bool.or_eq_true, Bool.not_eq_true', decide_eq_false_iff_not, decide_eq_true_eq] at hc
  rw [hsum]
  rcases hc with ((hc | hc) | hc) | hc
  · exact hc
  · have := hb 0 hp
    rw [hc, Nat.zero_testBit, h0] at this; cases this
  · have h2 : 2 ^ nP m - 1 < 2 ^ nP m := by omega
    have h3 := (rp_same hm hI h2).2
    have := hb _ h2
    rw [hc, Nat.testBit_two_pow_sub_one, h1] at this
    simp [h3] at this
  · exfalso
    have hv : validB m k = true := by
      simp only [validB, List.all_eq_true, List.mem_range, Bool.or_eq_true, Bool.not_eq_true']
      intro g hg x hx
      have hg64 : g < 64 := by omega
      rw [and_tab g hg64 x (by omega)]
      have hlt : andn g (2 ^ x) < 2 ^ nP m := Nat.lt_of_le_of_lt (andn_le (by omega)) hg
      rw [hb g hg, hb _ hlt]
      cases hq : hs F g
      · exact .inl rfl
      · exact .inr (hd _ _ hq (andn_sub hg64 _))
    rw [hv] at hc; cases hc
/-- so it must be asked to the end -/
theorem prop_ask {m : Nat} (hm : 2 ≤ m ∧ m ≤ 4) {F : W} (hf : Fm (nP m) (lst F) F) (hI : Inv m F) (h0 : hs F 0 = true) (h1 : hs F (2 ^ nP m - 1) = false) : askV (nP m) F = nP m := by
  have hn := nP_6 hm.2
  have hfa := fm_fa hf
  have hpc := pc_full (nP m) hn
  rw [askV_nat]
  have h2 := ask_pc (F := F) hfa.r64
  rw [hpc] at h2
  by_cases hlt : ask (2 ^ nP m - 1) F < nP m
  · rcases early_sum _ _ F hfa hpc hlt with q | q
    · rw [q 0] at h0; cases h0
    · exact absurd q (prop_sum hm (by have := hf.rg; simpa using this) hf.dn hI h0 h1)
  · omega
end Go.Proofs.Evd

