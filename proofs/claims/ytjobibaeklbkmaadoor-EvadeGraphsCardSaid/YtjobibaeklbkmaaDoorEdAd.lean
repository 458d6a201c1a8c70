/- Layer 8: duals: what they are. -/
import Derived.Test.YtjobibaeklbkmaaDoorEdS
import Derived.Test.YtjobibaeklbkmaaDoorEdQ
set_option linter.unusedSimpArgs false
set_option linter.unusedVariables false
set_option linter.unnecessarySimpa false
set_option maxRecDepth 100000
namespace Go.Proofs.Evd
open Go.Proofs.Sur (W andn andn_bit andn_le)

theorem dF_bit {k : Nat} (hk : k ≤ 6) (F : W) {s : Nat} (h : s < 64) : hs (dF k F) s = true ↔ s < 2 ^ k ∧ hs F (2 ^ k - 1 - s) = false := by
  rw [dF, fm_bit h, List.mem_filter, List.mem_range]
  constructor
  · rintro ⟨h1, h2⟩
    rw [pD, andn_full hk h1] at h2
    exact ⟨h1, by simpa using h2⟩
  · rintro ⟨h1, h2⟩
    refine ⟨h1, ?_⟩
    rw [pD, andn_full hk h1, h2]; rfl
theorem dF_fm {k : Nat} {F : W} (h : Fm k (lst F) F) : Fm k (lst (dF k F)) (dF k F) := by
  have hk : k ≤ 6 := by have := h.n6; omega
  have h64 := p64 hk
  refine ⟨h.n1, h.n6, fun s hs' => ?_, fun s t ht hst => ?_, rfl⟩
  · exact ((dF_bit hk F (hs_lt hs')).1 hs').1
  · have htl := hs_lt ht
    obtain ⟨h1, h2⟩ := (dF_bit hk F htl).1 ht
    have hsl := sub_lt hst htl
    have hsk : s < 2 ^ k := by
      have h5 : s &&& t = s := sub_and.1 hst
      have : s &&& t ≤ t := Nat.and_le_right
      omega
    refine (dF_bit hk F hsl).2 ⟨hsk, ?_⟩
    cases hb : hs F (2 ^ k - 1 - s)
    · rfl
    · have hsub : Sub (2 ^ k - 1 - t) (2 ^ k - 1 - s) := fun i hi => by
        rw [← andn_full hk h1, andn_bit (by omega)] at hi
        rw [← andn_full hk hsk, andn_bit (by omega)]
        cases hq : s.testBit i
        · simp only [Bool.and_eq_true] at hi
          simp [hi.1]
        · rw [hst i hq] at hi; simp at hi
      have := h.dn _ _ hb hsub
      rw [h2] at this; cases this
/-! ### sums -/
theorem sumI_front (g : Nat → Int) : ∀ n, sumI g (n + 1) = g 0 + sumI (fun i => g (i + 1)) n
  | 0 => by simp [sumI]
  | n + 1 => by rw [sumI, sumI_front g n]; simp only [sumI]; omega
theorem sumI_rev (f : Nat → Int) : ∀ n, sumI (fun i => f (n - 1 - i)) n = sumI f n
  | 0 => rfl
  | n + 1 => by
    rw [sumI_front, sumI, ← sumI_rev f n]
    have : sumI (fun i => f (n + 1 - 1 - (i + 1))) n = sumI (fun i => f (n - 1 - i)) n := sumI_congr n (fun i _ => by rw [show n + 1 - 1 - (i + 1) = n - 1 - i by omega])
    rw [this]; simp; omega
theorem cw_dF {w : Nat → Int} {k : Nat} (hk : k ≤ 6) {F : W} (hF : Rg k F) {c : Int} (hw : ∀ t, t < 2 ^ k → w (2 ^ k - 1 - t) = c * w t) : cw w (dF k F) = sumI w (2 ^ k) - c * cw w F := by
  have h64 := p64 hk
  have e1 : cw w (dF k F) = sumI (fun s => w s - if hs F (2 ^ k - 1 - s) = true then w s else 0) (2 ^ k) := by
    rw [cw, sum_trunc _ 64 h64 (fun i h1 h2 => by
      cases hb : hs (dF k F) i
      · rfl
      · have := ((dF_bit hk F h2).1 hb).1; omega)]
    refine sumI_congr _ (fun s h => ?_)
    have hl : s < 64 := by omega
    cases hb : hs F (2 ^ k - 1 - s)
    · rw [if_pos ((dF_bit hk F hl).2 ⟨h, hb⟩)]; simp
    · rw [if_neg (fun q => by have := ((dF_bit hk F hl).1 q).2; rw [hb] at this; cases this)]; simp
  have eF : cw w F = sumI (fun t => if hs F t = true then w t else 0) (2 ^ k) := by
    rw [cw]
    refine sum_trunc _ 64 h64 (fun i h1 _ => ?_)
    cases hb : hs F i
    · rfl
    · have := hF i hb; omega
  rw [e1, sumI_sub, eF, ← sumI_mul]
  congr 1
  rw [← sumI_rev (fun t => c * if hs F t = true then w t else 0)]
  refine sumI_congr _ (fun s h => ?_)
  have := hw (2 ^ k - 1 - s) (by omega)
  rw [show 2 ^ k - 1 - (2 ^ k - 1 - s) = s by omega] at this
  split
  · exact this
  · simp
theorem sumI_one : ∀ n, sumI (fun _ => 1) n = n
  | 0 => rfl
  | n + 1 => by rw [sumI, sumI_one n]; simp
theorem len_dF {k : Nat} {F : W} (h : Fm k (lst F) F) : ((lst (dF k F)).length : Int) = (2 ^ k : Nat) - ((lst F).length : Int) := by
  have hk : k ≤ 6 := by have := h.n6; omega
  have hr := h.rg
  rw [Int.toNat_natCast] at hr
  have := cw_dF (w := fun _ => 1) hk hr (c := 1) (fun t ht => by simp)
  rw [sumI_one, ← len_elts, ← len_elts, Int.one_mul] at this
  rw [ic_len, ic_len]
  exact this
end Go.Proofs.Evd

