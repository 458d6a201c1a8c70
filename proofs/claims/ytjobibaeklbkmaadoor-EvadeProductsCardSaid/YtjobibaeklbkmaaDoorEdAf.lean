/- Layer 8: a join is settled early if one of both is. -/
import Derived.Test.YtjobibaeklbkmaaDoorEdL
import Derived.Test.YtjobibaeklbkmaaDoorEdQ
set_option linter.unusedSimpArgs false
set_option linter.unusedVariables false
set_option linter.unnecessarySimpa false
set_option maxRecDepth 100000
namespace Go.Proofs.Evd
open Go.Proofs.Sur (W andn andn_bit andn_le)

/-- the same family, its elements with numbers greater by n -/
def shW (n : Nat) (G : W) : W := ofB fun s => decide (s % 2 ^ n = 0) && hs G (s / 2 ^ n)
theorem shW_bit {n : Nat} {G : W} {s : Nat} (h : s < 64) : hs (shW n G) s = (decide (s % 2 ^ n = 0) && hs G (s / 2 ^ n)) := ofB_bit h
theorem mul_bit (a n i : Nat) : (a * 2 ^ n).testBit i = (decide (n ≤ i) && a.testBit (i - n)) := by
  rw [← Nat.shiftLeft_eq, Nat.testBit_shiftLeft]
theorem or_mod {s n x : Nat} : (s ||| 2 ^ (x + n)) % 2 ^ n = s % 2 ^ n := by
  apply Nat.eq_of_testBit_eq; intro i
  rw [Nat.testBit_mod_two_pow, Nat.testBit_or, Nat.testBit_mod_two_pow, Nat.testBit_two_pow]
  by_cases h : i < n
  · have : ¬ x + n = i := by omega
    simp [this]
  · simp [h]
theorem or_div {s n x : Nat} : (s ||| 2 ^ (x + n)) / 2 ^ n = s / 2 ^ n ||| 2 ^ x := by
  apply Nat.eq_of_testBit_eq; intro i
  rw [Nat.testBit_div_two_pow, Nat.testBit_or, Nat.testBit_or, Nat.testBit_div_two_pow, Nat.testBit_two_pow, Nat.testBit_two_pow]
  congr 1
  simp only [decide_eq_decide]
  omega
theorem shW_wot {n : Nat} {G : W} {x : Nat} (hx : x + n < 6) : wot (shW n G) (x + n) = shW n (wot G x) := by
  refine ext fun s h => ?_
  have hd : s / 2 ^ n < 64 := Nat.lt_of_le_of_lt (Nat.div_le_self _ _) h
  rw [wot_bit hx h, shW_bit h, shW_bit h, wot_bit (by omega) hd, Nat.testBit_div_two_pow, Bool.and_assoc]
theorem shW_lnk {n : Nat} {G : W} {x : Nat} (hx : x + n < 6) : lnk (shW n G) (x + n) = shW n (lnk G x) := by
  refine ext fun s h => ?_
  have hd : s / 2 ^ n < 64 := Nat.lt_of_le_of_lt (Nat.div_le_self _ _) h
  rw [lnk_bit hx h, shW_bit (or_lt hx h), shW_bit h, lnk_bit (by omega) hd, Nat.testBit_div_two_pow, or_mod, or_div, Bool.and_assoc]
theorem rst_mul {n r x : Nat} (hr : r * 2 ^ n < 64) : rst (r * 2 ^ n) (x + n) = rst r x * 2 ^ n := by
  have hr' : r < 64 := Nat.lt_of_le_of_lt (Nat.le_mul_of_pos_right r (Nat.two_pow_pos n)) hr
  apply Nat.eq_of_testBit_eq; intro i
  rw [rst_bit hr, mul_bit, mul_bit, rst_bit hr', Bool.and_assoc]
  by_cases h : n ≤ i
  · have : (x + n = i) ↔ (x = i - n) := by omega
    simp only [this]
  · simp [h]
theorem shW_stl {n r : Nat} {G : W} (hr : r * 2 ^ n < 64) : stl (r * 2 ^ n) (shW n G) = stl r G := by
  simp only [stl]
  rw [shW_bit hr, shW_bit (show 0 < 64 by decide), Nat.mul_mod_left, Nat.mul_div_cancel _ (Nat.two_pow_pos n), Nat.zero_mod, Nat.zero_div]
  simp
theorem shW_ask {n : Nat} : ∀ (k r : Nat) (G : W), r * 2 ^ n < 64 → pc r = k → ask (r * 2 ^ n) (shW n G) ≤ ask r G
  | k, r, G, hr, hk => by
    have hr' : r < 64 := Nat.lt_of_le_of_lt (Nat.le_mul_of_pos_right r (Nat.two_pow_pos n)) hr
    by_cases hst : stl r G = true
    · rw [ask_stl (by rw [shW_stl hr]; exact hst)]; omega
    · cases k with
      | zero => exact absurd (pc_zero hr' hk ▸ stl_zero G) hst
      | succ k =>
        obtain ⟨x, hx, hb, e⟩ := ask_get hr' hst
        have hb2 : (r * 2 ^ n).testBit (x + n) = true := by rw [mul_bit]; simp [hb]
        have hxn := lt64 hr hb2
        have hp := pc_rst hx hr' hb
        have hg := ask_go (F := shW n G) hr hxn hb2
        have hlt : rst r x * 2 ^ n < 64 := Nat.lt_of_le_of_lt (Nat.mul_le_mul_right _ (andn_le (by omega))) hr
        simp only [go] at hg e
        rw [rst_mul hr, shW_wot hxn, shW_lnk hxn] at hg
        have g1 := shW_ask k (rst r x) (wot G x) hlt (by omega)
        have g2 := shW_ask k (rst r x) (lnk G x) hlt (by omega)
        omega
theorem pc_full : ∀ k, k ≤ 6 → pc (2 ^ k - 1) = k := by decide
theorem pc_fullm : ∀ n, n ≤ 6 → ∀ m, m ≤ 6 - n → pc ((2 ^ m - 1) * 2 ^ n) = m := by decide
theorem or_full : ∀ n, n ≤ 6 → ∀ m, m ≤ 6 - n → (2 ^ n - 1) ||| (2 ^ m - 1) * 2 ^ n = 2 ^ (n + m) - 1 := by decide
theorem full_lt6 : ∀ n, n ≤ 6 → ∀ m, m ≤ 6 - n → (2 ^ m - 1) * 2 ^ n < 64 := by decide
theorem dis_full (n m : Nat) : Dis (2 ^ n - 1) ((2 ^ m - 1) * 2 ^ n) := fun i hi => by
  rw [Nat.testBit_two_pow_sub_one, decide_eq_true_eq] at hi
  rw [mul_bit]
  have : ¬ n ≤ i := by omega
  simp [this]
theorem shW_fa {n m : Nat} (hn : n + m ≤ 6) {G : W} (hG : Fa (2 ^ m - 1) G) : Fa ((2 ^ m - 1) * 2 ^ n) (shW n G) := by
  refine ⟨full_lt6 n (by omega) m (by omega), fun s h i hi => ?_, fun s t ht hst => ?_⟩
  · have hl := hs_lt h
    rw [shW_bit hl, Bool.and_eq_true, decide_eq_true_eq] at h
    have h1 := hG.inn _ h.2
    rw [mul_bit]
    by_cases q : n ≤ i
    · have : (s / 2 ^ n).testBit (i - n) = true := by rw [Nat.testBit_div_two_pow, show i - n + n = i by omega]; exact hi
      simp [q, h1 _ this]
    · have : (s % 2 ^ n).testBit i = true := by rw [Nat.testBit_mod_two_pow]; simp [hi]; omega
      rw [h.1] at this; simp at this
  · have htl := hs_lt ht
    have hsl := sub_lt hst htl
    rw [shW_bit htl, Bool.and_eq_true, decide_eq_true_eq] at ht
    rw [shW_bit hsl, Bool.and_eq_true, decide_eq_true_eq]
    refine ⟨?_, hG.dn _ _ ht.2 (div_sub hst)⟩
    have hm := mod_sub (n := n) hst
    rw [ht.1] at hm
    apply Nat.eq_of_testBit_eq; intro i
    rw [Nat.zero_testBit]
    cases hb : (s % 2 ^ n).testBit i
    · rfl
    · have := hm i hb; simp at this
theorem jn_pj {n m : Nat} (hn : n + m ≤ 6) {F G : W} (hG : Rg m G) : jn n F G = pj (2 ^ n - 1) ((2 ^ m - 1) * 2 ^ n) F (shW n G) := by
  refine ext fun s h => ?_
  have hl : s &&& (2 ^ m - 1) * 2 ^ n < 64 := Nat.lt_of_le_of_lt Nat.and_le_left h
  rw [jn_bit h, pj_bit h, shW_bit hl, or_full n (by omega) m (by omega), Nat.and_two_pow_sub_one_eq_mod]
  have e1 : (s &&& (2 ^ m - 1) * 2 ^ n) % 2 ^ n = 0 := by
    apply Nat.eq_of_testBit_eq; intro i
    rw [Nat.testBit_mod_two_pow, Nat.testBit_and, mul_bit, Nat.zero_testBit]
    by_cases q : i < n
    · have : ¬ n ≤ i := by omega
      simp [this]
    · simp [q]
  have e2 : (s &&& (2 ^ m - 1) * 2 ^ n) / 2 ^ n = s / 2 ^ n &&& (2 ^ m - 1) := by
    apply Nat.eq_of_testBit_eq; intro i
    rw [Nat.testBit_div_two_pow, Nat.testBit_and, mul_bit, Nat.testBit_and, Nat.testBit_div_two_pow, show i + n - n = i by omega]
    simp
  rw [e1, e2]
  by_cases q : s < 2 ^ (n + m)
  · have h3 : s &&& (2 ^ (n + m) - 1) = s := sub_and.1 (full_sub.2 q)
    have h4 : s / 2 ^ n < 2 ^ m := by
      rw [Nat.div_lt_iff_lt_mul (Nat.two_pow_pos n), Nat.mul_comm, ← Nat.pow_add]; exact q
    have h5 : s / 2 ^ n &&& (2 ^ m - 1) = s / 2 ^ n := sub_and.1 (full_sub.2 h4)
    rw [h3, h5]; simp
  · have h4 : hs G (s / 2 ^ n) = false := by
      cases hb : hs G (s / 2 ^ n)
      · rfl
      · have := hG _ hb
        rw [Nat.div_lt_iff_lt_mul (Nat.two_pow_pos n), Nat.mul_comm, ← Nat.pow_add] at this
        exact absurd this q
    have h3 : ¬ (s &&& (2 ^ (n + m) - 1) = s) := fun e => q (full_sub.1 (sub_and.2 e))
    rw [h4, decide_eq_false h3, Bool.and_false, Bool.and_false]
theorem fm_fa {n : Nat} {F : W} (h : Fm n (lst F) F) : Fa (2 ^ n - 1) F := fa_full (by have := h.n6; omega) (by have := h.rg; simpa using this) h.dn
theorem join_fm {n m : Nat} {F G : W} (hF : Fm n (lst F) F) (hG : Fm m (lst G) G) (hn : n + m ≤ 6) : Fm (n + m : Nat) (lst (jn n F G)) (jn n F G) := by
  refine ⟨by have := hF.n1; omega, by omega, ?_, jn_dn hF.dn hG.dn, rfl⟩
  rw [Int.toNat_natCast]
  exact jn_rg hn (by have := hG.rg; simpa using this)
theorem askV_nat (k : Nat) (F : W) : askV k F = ask (2 ^ k - 1) F := by rw [askV, Int.toNat_natCast]
theorem join_early {n m : Nat} {F G : W} (hF : Fm n (lst F) F) (hG : Fm m (lst G) G) (hn : n + m ≤ 6) (h : askV n F < n ∨ askV m G < m) : askV (n + m : Nat) (jn n F G) < n + m := by
  have fF := fm_fa hF
  have fG := fm_fa hG
  have fS := shW_fa hn fG
  have hd := dis_full n m
  rw [askV_nat, jn_pj hn (by have := hG.rg; simpa using this), ← or_full n (by omega) m (by omega)]
  rw [askV_nat, askV_nat] at h
  rcases h with h | h
  · have := pj_ask _ _ _ F (shW n G) fF fS hd rfl
    rw [pc_fullm n (by omega) m (by omega)] at this
    omega
  · have hd' : Dis ((2 ^ m - 1) * 2 ^ n) (2 ^ n - 1) := fun i hi => by
      cases hb : (2 ^ n - 1).testBit i
      · rfl
      · rw [hd i hb] at hi; cases hi
    have h1 := pj_ask _ _ _ (shW n G) F fS fF hd' rfl
    rw [pc_full n (by omega), pj_comm, Nat.or_comm] at h1
    have h2 := shW_ask (n := n) _ (2 ^ m - 1) G (full_lt6 n (by omega) m (by omega)) rfl
    omega
theorem lnk_fm {n : Nat} {F : W} (h : Fm n (lst F) F) {x : Nat} (hx : x < n) : Fm n (lst (lnk F x)) (lnk F x) := by
  have hn6 := h.n6
  refine ⟨h.n1, h.n6, fun s hs' => ?_, lnk_dn h.dn (by omega), rfl⟩
  have hl := hs_lt hs'
  rw [lnk_bit (by omega) hl, Bool.and_eq_true] at hs'
  have := h.rg _ hs'.1
  have : s ≤ s ||| 2 ^ x := Nat.left_le_or
  omega
end Go.Proofs.Evd

