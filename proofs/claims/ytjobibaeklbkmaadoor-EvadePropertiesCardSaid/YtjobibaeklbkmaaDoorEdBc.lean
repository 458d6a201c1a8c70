/- Layer 8: properties of graphs: what spreads. -/
import Derived.Test.YtjobibaeklbkmaaDoorEdBb
import Derived.Test.YtjobibaeklbkmaaDoorEdAd
set_option linter.unusedSimpArgs false
set_option linter.unusedVariables false
set_option linter.unnecessarySimpa false
set_option maxRecDepth 100000
namespace Go.Proofs.Evd
open Go.Proofs.Sur (W andn andn_bit andn_le)

def xmJ (m : Nat) (F : W) : Nat → W
  | 0 => F
  | i + 1 => xmJ m F i ||| exW (plB m i) (xmJ m F i)
def rnd (m : Nat) (F : W) : W := xmJ m F (m - 1)
def itr (m : Nat) (F : W) : Nat → W
  | 0 => F
  | j + 1 => rnd m (itr m F j)
def leW (F G : W) : Prop := ∀ s, hs F s = true → hs G s = true
theorem leW.refl (F : W) : leW F F := fun _ h => h
theorem leW.trans {A B C : W} (h : leW A B) (k : leW B C) : leW A C := fun s q => k s (h s q)
theorem leW.antisymm {A B : W} (h : leW A B) (k : leW B A) : A = B := ext fun s _ => by rw [Bool.eq_iff_iff]; exact ⟨h s, k s⟩
theorem or_bit (F G : W) (s : Nat) : hs (F ||| G) s = (hs F s || hs G s) := by simp [hs, BitVec.getLsbD_or]
theorem le_or (F G : W) : leW F (F ||| G) := fun s h => by rw [or_bit, h]; rfl
theorem xm_le (m : Nat) (F : W) : ∀ i, leW F (xmJ m F i)
  | 0 => leW.refl F
  | i + 1 => (xm_le m F i).trans (le_or _ _)
theorem rnd_le (m : Nat) (F : W) : leW F (rnd m F) := xm_le m F _
theorem itr_le (m : Nat) (F : W) : ∀ j, leW F (itr m F j)
  | 0 => leW.refl F
  | j + 1 => (itr_le m F j).trans (rnd_le m _)
theorem sum_le (f g : Nat → Int) : ∀ n, (∀ i, i < n → f i ≤ g i) → sumI f n ≤ sumI g n
  | 0, _ => Int.le_refl _
  | n + 1, h => by
    have := sum_le f g n (fun i hi => h i (by omega))
    have := h n (by omega)
    simp only [sumI]; omega
theorem sum_lt (f g : Nat → Int) : ∀ n, (∀ i, i < n → f i ≤ g i) → (∃ i, i < n ∧ f i < g i) → sumI f n < sumI g n
  | 0, _, ⟨i, h, _⟩ => absurd h (Nat.not_lt_zero _)
  | n + 1, h, ⟨i, h1, h2⟩ => by
    have hn := h n (by omega)
    simp only [sumI]
    by_cases e : i = n
    · subst e
      have := sum_le f g i (fun i hi => h i (by omega))
      omega
    · have := sum_lt f g n (fun i hi => h i (by omega)) ⟨i, by omega, h2⟩
      omega
theorem len_lt {F G : W} (h : leW F G) (hne : G ≠ F) : (elts F).length < (elts G).length := by
  have hex : ∃ s, s < 64 ∧ hs F s = false ∧ hs G s = true := by
    refine Classical.byContradiction fun hc => hne ?_
    refine ext fun s hs' => ?_
    cases hF : hs F s
    · cases hG : hs G s
      · rfl
      · exact absurd ⟨s, hs', hF, hG⟩ hc
    · exact h s hF
  obtain ⟨s, h1, h2, h3⟩ := hex
  have e1 := len_elts F
  have e2 := len_elts G
  have := sum_lt (fun s => if hs F s = true then (1 : Int) else 0) (fun s => if hs G s = true then (1 : Int) else 0) 64
    (fun i _ => by
      by_cases q : hs F i = true
      · rw [if_pos q, if_pos (h i q)]; exact Int.le_refl _
      · rw [if_neg q]; split <;> decide)
    ⟨s, h1, by rw [if_neg (by rw [h2]; decide), if_pos h3]; decide⟩
  simp only [cw] at e1 e2
  omega
theorem len_64 (F : W) : (elts F).length ≤ 64 := Go.Proofs.Sur.bits_len F
theorem itr_stay {m : Nat} {F : W} {j : Nat} (h : rnd m (itr m F j) = itr m F j) : ∀ d, itr m F (j + d) = itr m F j
  | 0 => rfl
  | d + 1 => by rw [← Nat.add_assoc, itr, itr_stay h d, h]
/-- what comes of it -/
def fix (m : Nat) (F : W) : W := itr m F 64
theorem itr_len (m : Nat) (F : W) : ∀ j, (∃ i, i ≤ j ∧ rnd m (itr m F i) = itr m F i) ∨ j < (elts (itr m F (j + 1))).length
  | 0 => by
    by_cases h : rnd m F = F
    · exact .inl ⟨0, Nat.le_refl _, h⟩
    · right
      have := len_lt (rnd_le m F) h
      simp only [itr]; omega
  | j + 1 => by
    rcases itr_len m F j with ⟨i, h1, h2⟩ | h
    · exact .inl ⟨i, by omega, h2⟩
    · by_cases q : rnd m (itr m F (j + 1)) = itr m F (j + 1)
      · exact .inl ⟨j + 1, Nat.le_refl _, q⟩
      · right
        have := len_lt (rnd_le m (itr m F (j + 1))) q
        rw [itr]; omega
theorem fix_fix (m : Nat) (F : W) : rnd m (fix m F) = fix m F := by
  rcases itr_len m F 64 with ⟨i, h1, h2⟩ | h
  · have e : fix m F = itr m F i := by
      have := itr_stay h2 (64 - i)
      rwa [show i + (64 - i) = 64 by omega] at this
    rw [e]; exact h2
  · have := len_64 (itr m F (64 + 1)); omega
theorem fix_of {m : Nat} {F : W} {j : Nat} (hj : j ≤ 64) (h : rnd m (itr m F j) = itr m F j) : fix m F = itr m F j := by
  have := itr_stay h (64 - j)
  rwa [show j + (64 - j) = 64 by omega] at this
theorem fix_same {m : Nat} {F : W} (h : rnd m F = F) : fix m F = F := fix_of (j := 0) (by omega) h
theorem xm_fix {m : Nat} {F : W} (h : rnd m F = F) : ∀ i, i ≤ m - 1 → xmJ m F i = F := fun i hi => by
  have key : ∀ d i, i + d = m - 1 → leW (xmJ m F i) (rnd m F) := by
    intro d
    induction d with
    | zero => intro i hi; rw [rnd, ← hi]; exact leW.refl _
    | succ d ih => intro i hi; exact (le_or _ _).trans (ih (i + 1) (by omega))
  have h2 := key (m - 1 - i) i (by omega)
  have h3 := xm_le m F i
  rw [h] at h2
  exact leW.antisymm h2 h3
/-- no exchange makes anything new -/
theorem ex_in {m : Nat} {F : W} (h : rnd m F = F) {k : Nat} (hk : k + 1 < m) : leW (exW (plB m k) F) F := fun s q => by
  have h1 := xm_fix h (k + 1) (by omega)
  have h2 := xm_fix h k (by omega)
  rw [xmJ, h2] at h1
  rw [← h1, or_bit, q, Bool.or_true]
theorem rnd_of {m : Nat} {F : W} (h : ∀ k, k + 1 < m → leW (exW (plB m k) F) F) : rnd m F = F := by
  have : ∀ i, i ≤ m - 1 → xmJ m F i = F := by
    intro i
    induction i with
    | zero => intro _; rfl
    | succ i ih =>
      intro hi
      rw [xmJ, ih (by omega)]
      refine leW.antisymm (fun s q => ?_) (le_or _ _)
      rw [or_bit, Bool.or_eq_true] at q
      rcases q with q | q
      · exact q
      · exact h i (by omega) s q
  exact this _ (Nat.le_refl _)
end Go.Proofs.Evd

