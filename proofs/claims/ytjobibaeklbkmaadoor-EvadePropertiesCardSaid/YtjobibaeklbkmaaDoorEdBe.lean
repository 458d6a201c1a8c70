/- Layer 8: properties of graphs must be asked to the end. -/
import Derived.Test.YtjobibaeklbkmaaDoorEdBc
import Derived.Test.YtjobibaeklbkmaaDoorEdAf
set_option linter.unusedSimpArgs false
set_option linter.unusedVariables false
set_option linter.unnecessarySimpa false
set_option maxRecDepth 100000
namespace Go.Proofs.Evd
open Go.Proofs.Sur (W andn andn_bit andn_le)

/-- the number of pairs -/
def nP (m : Nat) : Nat := m * (m - 1) / 2
def mvC (m k : Nat) : Bool := (List.range (2 ^ nP m)).all fun g => decide (mv (plB m k) g < 2 ^ nP m) && (decide (mv (plB m k) (mv (plB m k) g) = g) && decide (mv (plB m k) (2 ^ nP m - 1 - g) = 2 ^ nP m - 1 - mv (plB m k) g))
def mvD (m k : Nat) : Bool := (List.range (2 ^ nP m)).all fun t => (List.range 64).all fun s => !decide (s &&& t = s) || decide (mv (plB m k) s &&& mv (plB m k) t = mv (plB m k) s)
theorem mvC_ok {m k : Nat} (h : nk m k) : mvC m k = true := by
  rcases nk_cases h with ⟨rfl, rfl⟩ | ⟨rfl, rfl⟩ | ⟨rfl, rfl⟩ | ⟨rfl, rfl⟩ | ⟨rfl, rfl⟩ | ⟨rfl, rfl⟩ <;> decide +kernel
theorem mvD_ok {m k : Nat} (h : nk m k) : mvD m k = true := by
  rcases nk_cases h with ⟨rfl, rfl⟩ | ⟨rfl, rfl⟩ | ⟨rfl, rfl⟩ | ⟨rfl, rfl⟩ | ⟨rfl, rfl⟩ | ⟨rfl, rfl⟩ <;> decide +kernel
theorem nP_6 {m : Nat} (h : m ≤ 4) : nP m ≤ 6 := by
  have t : ∀ m, m < 5 → nP m ≤ 6 := by decide
  exact t m (by omega)
theorem mv_ok {m k g : Nat} (h : nk m k) (hg : g < 2 ^ nP m) : mv (plB m k) g < 2 ^ nP m ∧ mv (plB m k) (mv (plB m k) g) = g ∧ mv (plB m k) (2 ^ nP m - 1 - g) = 2 ^ nP m - 1 - mv (plB m k) g := by
  have := List.all_eq_true.1 (mvC_ok h) g (List.mem_range.2 hg)
  simpa [Bool.and_eq_true] using this
theorem mv_sub {m k s t : Nat} (h : nk m k) (ht : t < 2 ^ nP m) (hst : Sub s t) : Sub (mv (plB m k) s) (mv (plB m k) t) := by
  have h64 := p64 (nP_6 h.2.1)
  have h1 := List.all_eq_true.1 (mvD_ok h) t (List.mem_range.2 ht)
  have h2 := List.all_eq_true.1 h1 s (List.mem_range.2 (sub_lt hst (by omega)))
  rw [Bool.or_eq_true, Bool.not_eq_true', decide_eq_false_iff_not, decide_eq_true_eq] at h2
  rcases h2 with h2 | h2
  · exact absurd (sub_and.1 hst) h2
  · exact sub_and.2 h2
theorem exW_bit {B : List Nat} {F : W} {s : Nat} (h : s < 64) : hs (exW B F) s = true ↔ ∃ g, hs F g = true ∧ mv B g = s := by
  rw [exW, fm_bit h, List.mem_map]
  constructor
  · rintro ⟨g, h1, h2⟩; exact ⟨g, Go.Proofs.Sur.mem_bits.1 h1, h2⟩
  · rintro ⟨g, h1, h2⟩; exact ⟨g, Go.Proofs.Sur.mem_bits.2 h1, h2⟩
/-- nothing is changed by any exchange -/
def Inv (m : Nat) (F : W) : Prop := ∀ k, nk m k → ∀ g, hs F g = true → hs F (mv (plB m k) g) = true
theorem inv_of {m : Nat} {F : W} (h : rnd m F = F) : Inv m F := fun k hk g hg => by
  have hl : mv (plB m k) g < 64 := mvJ_lt (plB_ok hk) g _ (Nat.le_refl _)
  exact ex_in h hk.2.2 _ ((exW_bit hl).2 ⟨g, hg, rfl⟩)
theorem of_inv {m : Nat} (hm : 2 ≤ m ∧ m ≤ 4) {F : W} (h : Inv m F) : rnd m F = F := rnd_of fun k hk s q => by
  obtain ⟨g, h1, rfl⟩ := (exW_bit (hs_lt q)).1 q
  exact h k ⟨hm.1, hm.2, hk⟩ g h1
theorem xm_rg {m : Nat} (hm : 2 ≤ m ∧ m ≤ 4) {F : W} (h : Rg (nP m) F) : ∀ i, i ≤ m - 1 → Rg (nP m) (xmJ m F i)
  | 0, _ => h
  | i + 1, hi => fun s q => by
    have ih := xm_rg hm h i (by omega)
    rw [xmJ, or_bit, Bool.or_eq_true] at q
    rcases q with q | q
    · exact ih s q
    · obtain ⟨g, h1, rfl⟩ := (exW_bit (hs_lt q)).1 q
      exact (mv_ok ⟨hm.1, hm.2, by omega⟩ (ih g h1)).1
theorem itr_rg {m : Nat} (hm : 2 ≤ m ∧ m ≤ 4) {F : W} (h : Rg (nP m) F) : ∀ j, Rg (nP m) (itr m F j)
  | 0 => h
  | j + 1 => xm_rg hm (itr_rg hm h j) _ (Nat.le_refl _)
theorem cls_rg {n : Nat} {F : W} (h : Rg n F) : Rg n (cls F) := fun s q => by
  obtain ⟨t, h1, h2⟩ := (cls_bit (hs_lt q)).1 q
  have := h t h1
  have h3 : s &&& t = s := sub_and.1 h2
  have : s &&& t ≤ t := Nat.and_le_right
  omega
theorem inv_cls {m : Nat} {F : W} (hr : Rg (nP m) F) (h : Inv m F) : Inv m (cls F) := fun k hk g hg => by
  obtain ⟨t, h1, h2⟩ := (cls_bit (hs_lt hg)).1 hg
  exact (cls_bit (mvJ_lt (plB_ok hk) g _ (Nat.le_refl _))).2 ⟨_, h k hk t h1, mv_sub hk (hr t h1) h2⟩
/-! ### classes of graphs -/
/-- along a path -/
def mvs (m : Nat) : List Nat → Nat → Nat
  | [], g => g
  | k :: p, g => mvs m p (mv (plB m k) g)
theorem mvs_same {m : Nat} (hm : 2 ≤ m ∧ m ≤ 4) {F : W} (hI : Inv m F) : ∀ (p : List Nat) (g : Nat), g < 2 ^ nP m → p.all (fun k => decide (k + 1 < m)) = true → hs F (mvs m p g) = hs F g
  | [], g, _, _ => rfl
  | k :: p, g, hg, hp => by
    simp only [List.all_cons, Bool.and_eq_true, decide_eq_true_eq] at hp
    have hk : nk m k := ⟨hm.1, hm.2, hp.1⟩
    obtain ⟨m1, m2, _⟩ := mv_ok hk hg
    rw [mvs, mvs_same hm hI p _ m1 hp.2, Bool.eq_iff_iff]
    constructor
    · intro h
      have := hI k hk _ h
      rwa [m2] at this
    · exact hI k hk g
end Go.Proofs.Evd

