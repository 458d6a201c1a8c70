/- Layer 2: a tournament with its players moved round. -/
import Derived.Test.YtnnhomkkggkkfaaDoorRkDn
set_option linter.unusedSimpArgs false
set_option linter.unusedVariables false
set_option linter.unnecessarySimpa false
set_option maxHeartbeats 4000000
set_option maxRecDepth 100000
namespace Go.Proofs.Rnk
open Go Go.VM
abbrev ph (n s i : Nat) : Nat := (i + s) % n
def tuS (t : List Int) (s i : Nat) : Nat → Nat
  | 0 => 0
  | j + 1 => if bt t (ph t.length s i) (ph t.length s j) then tuS t s i j ||| 2 ^ j else tuS t s i j
theorem tuS_bit {t : List Int} {s i b : Nat} : ∀ j, (tuS t s i j).testBit b = (decide (b < j) && bt t (ph t.length s i) (ph t.length s b))
  | 0 => by simp [tuS]
  | j + 1 => by
    have ih := @tuS_bit t s i b j
    simp only [tuS]
    by_cases e : b = j
    · subst e
      split
      · rename_i c; rw [Nat.testBit_or, Nat.testBit_two_pow, c]; simp
      · rename_i c
        rw [ih]
        simp only [Bool.not_eq_true] at c
        rw [c]; simp
    · have e2 : decide (b < j + 1) = decide (b < j) := by
        by_cases q : b < j
        · simp [q]; omega
        · simp [q]; omega
      split
      · rw [Nat.testBit_or, Nat.testBit_two_pow, ih, e2]
        have : decide (j = b) = false := by simp; omega
        rw [this, Bool.or_false]
      · rw [ih, e2]
theorem tuS_lt {t : List Int} {s i j : Nat} : tuS t s i j < 2 ^ j := Nat.lt_pow_two_of_testBit _ fun b hb => by
  rw [tuS_bit]; simp; intro h; omega
def tuL (t : List Int) (s k : Nat) : List Int := (List.range k).map fun i => ((tuS t s i t.length : Nat) : Int)
abbrev tu (t : List Int) (s : Nat) : List Int := tuL t s t.length
@[simp] theorem tuL_len (t : List Int) (s k : Nat) : (tuL t s k).length = k := by simp [tuL]
theorem tuL_succ (t : List Int) (s k : Nat) : tuL t s (k + 1) = tuL t s k ++ [((tuS t s k t.length : Nat) : Int)] := by simp [tuL, List.range_succ]
theorem tu_at {t : List Int} {s i : Nat} (hi : i < t.length) : ia (tu t s) i = ((tuS t s i t.length : Nat) : Int) := by
  simp [ia, tuL, List.getD_eq_getElem?_getD, hi]
theorem tu_bt {t : List Int} {s i j : Nat} (hi : i < t.length) (hj : j < t.length) : bt (tu t s) i j = bt t (ph t.length s i) (ph t.length s j) := by
  show (ia (tu t s) i).toNat.testBit j = _
  rw [tu_at hi, Int.toNat_natCast, tuS_bit]
  simp [hj]
theorem ph_lt {n s i : Nat} (h : 0 < n) : ph n s i < n := Nat.mod_lt _ h
theorem ph_inj {n s i j : Nat} (hi : i < n) (hj : j < n) (hij : i < j) : ph n s i ≠ ph n s j := fun e => by
  simp only [ph] at e
  have e1 := Nat.div_add_mod (i + s) n
  have e2 := Nat.div_add_mod (j + s) n
  rw [e] at e1
  have h3 : n * ((j + s) / n) = n * ((i + s) / n) + (j - i) := by omega
  have h4 : n * ((j + s) / n - (i + s) / n) = j - i := by rw [Nat.mul_sub]; omega
  rcases Nat.eq_zero_or_pos ((j + s) / n - (i + s) / n) with q | q
  · rw [q] at h4; omega
  · have := Nat.mul_le_mul_left n q
    omega
theorem tu_tn {t : List Int} (h : Tn t) (s : Nat) : Tn (tu t s) where
  s := by have := h.s; simp only [sz] at this ⊢; rw [tuL_len]; exact this
  q i hi := by
    rw [tuL_len] at hi
    have h0 : 0 < t.length := by omega
    refine ⟨⟨⟨by rw [tu_at hi]; omega, ?_⟩, ?_⟩, fun j hj => ?_⟩
    · rw [tu_at hi, tuL_len]
      have := @tuS_lt t s i t.length
      omega
    · show bt (tu t s) i i = false
      rw [tu_bt hi hi]; exact h.irr _
    · show bt (tu t s) i j ≠ bt (tu t s) j i
      rw [tu_bt hi (by omega), tu_bt (by omega) hi, h.tot (ph_lt h0) (ph_lt h0) (Ne.symm (ph_inj (by omega) hi hj))]
      cases bt t (ph t.length s j) (ph t.length s i) <;> simp
theorem tu_left {t : List Int} (hL : Left (btP t) t.length) (s : Nat) : Left (btP (tu t s)) (tu t s).length := by
  rw [tuL_len]
  rintro S ⟨x, hx, hxS⟩ ⟨y, hy, hyS⟩
  have h0 : 0 < t.length := by omega
  have inj : ∀ i j, i < t.length → j < t.length → ph t.length s i = ph t.length s j → i = j := fun i j hi hj e => by
    rcases Nat.lt_trichotomy i j with q | q | q
    · exact absurd e (ph_inj hi hj q)
    · exact q
    · exact absurd e.symm (ph_inj hj hi q)
  obtain ⟨u, v, hu, hv, ⟨x', hx', hxu, hxS'⟩, hvS, huv⟩ := hL (fun u => ∃ x, x < t.length ∧ ph t.length s x = u ∧ S x) ⟨ph t.length s x, ph_lt h0, x, hx, rfl, hxS⟩ ⟨ph t.length s y, ph_lt h0, fun ⟨z, hz, hzy, hzS⟩ => hyS (by rw [← inj z y hz hy hzy]; exact hzS)⟩
  obtain ⟨y', hy', hyv⟩ := inj_all (ph t.length s) t.length (fun k hk => ph_lt h0) (fun j k hj hk => ph_inj (by omega) hk hj) hv
  refine ⟨x', y', hx', hy', hxS', fun q => hvS ⟨y', hy', hyv, q⟩, ?_⟩
  rw [btP, tu_bt hx' hy', hxu, hyv]; exact huv
theorem moon_rowL {t : List Int} (h : Tn t) (hL : Left (btP t) t.length) {k : Nat} (hk : 3 ≤ k) (hkn : k ≤ t.length) : ∃ s, rowR t k true = some (0 :: s) := by
  obtain ⟨m, g1, g2⟩ := moon h.rel hL (v := 0) (by omega) (by omega) (k - 1) (by omega) (by omega)
  obtain ⟨s, hs⟩ := can_first (by omega) (rd_can g1)
  exact ⟨s, by rw [rowR, ← hs, g2, show k - 1 + 1 = k by omega]⟩
theorem mP_pos {t : List Int} (h : Tn t) : 0 < mP t := by
  apply Classical.byContradiction
  intro q
  have e : mP t = 0 := by omega
  have := (mP_spec h).2.1
  rw [e] at this
  have h1 := h.s.1
  have : (alls t.length).testBit 0 = false := by show (rst t 0).testBit 0 = false; rw [this]; simp
  rw [alls_bit] at this
  have h2 : ¬ (0 < t.length) := of_decide_eq_false this
  omega
structure RndP (t : List Int) (k : Nat) (x : List Int) : Prop where
  len : x.length = k
  d : ∀ i j, i < j → j < k → ofn x i ≠ ofn x j
  b : ∀ i, i < k → 0 ≤ x.getD i i0 ∧ x.getD i i0 < (t.length : Int)
  w : ∀ i, i < k → bt t (ofn x i) (ofn x ((i + 1) % k)) = true
theorem rnd_of {t x : List Int} {k : Nat} (hk : 1 ≤ k) (h : rowR t k true = some x) : RndP t k x := by
  obtain ⟨m', hr⟩ := wyM_row _ _ _ x (row_nil _ _) h
  have hlen : x.length = k := by have := wyM_len _ _ _ _ h; simpa using this
  have hcl := wyM_close _ _ _ _ h
  refine ⟨hlen, fun i j hi hj e => ?_, fun i hi => ?_, fun i hi => ?_⟩
  · obtain ⟨g1, g2, _⟩ := hr.h i (by omega)
    obtain ⟨g3, g4, _⟩ := hr.h j (by omega)
    simp only [ofn] at e
    exact hr.d i j hi (by omega) (by omega)
  · obtain ⟨g1, g2, _⟩ := hr.h i (by omega)
    exact ⟨g1, g2⟩
  · rcases Nat.lt_or_ge (i + 1) k with q | q
    · rw [Nat.mod_eq_of_lt q]
      exact hr.w i (by omega)
    · have e : i + 1 = k := by omega
      rw [e, Nat.mod_self]
      have := hcl
      simp only [lastN, frsN, hlen] at this
      rw [show k - 1 = i by omega] at this
      exact this
end Go.Proofs.Rnk

