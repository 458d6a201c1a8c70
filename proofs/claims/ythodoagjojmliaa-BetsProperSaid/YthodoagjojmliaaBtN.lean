/- Layer 9: fractions over their common denominator. -/
import Derived.Test.YthodoagjojmliaaBtM
set_option linter.unusedSimpArgs false
set_option linter.unusedVariables false
set_option linter.unnecessarySimpa false
set_option maxRecDepth 100000
namespace Go.Proofs.Bts
open Go Go.VM
/-- the Dens' least common multiple, of the first j -/
def dn (l : List Pr) (j : Nat) : Nat := lc (fun i => (l.getD i pair0).2.toNat) j
theorem dn_0 (l : List Pr) : dn l 0 = 1 := rfl
theorem dn_succ (l : List Pr) (j : Nat) : dn l (j + 1) = Nat.lcm (dn l j) (l.getD j pair0).2.toNat := rfl
abbrev okQ (l : List Pr) : Prop := ∀ i, i < l.length → okP (l.getD i pair0)
theorem dn_pos {l : List Pr} (h : okQ l) {j : Nat} (hj : j ≤ l.length) : 1 ≤ dn l j := lc_pos fun i hi => by have := (h i (by omega)).1; omega
theorem dn_mono {l : List Pr} (h : okQ l) {j k : Nat} (hjk : j ≤ k) (hk : k ≤ l.length) : dn l j ≤ dn l k := Nat.le_of_dvd (dn_pos h hk) (lc_mono hjk)
theorem dn_dvd (l : List Pr) {i k : Nat} (h : i < k) : (l.getD i pair0).2.toNat ∣ dn l k := dvd_lc _ h
theorem gcI_nat (a b : Nat) : gcI (a : Int) (b : Int) = ((Nat.gcd a b : Nat) : Int) := rfl
theorem gcI_pos {a b : Int} (hb : 1 ≤ b) : 1 ≤ gcI a b := by
  have : 0 < Nat.gcd a.toNat b.toNat := Nat.gcd_pos_of_pos_right _ (by omega)
  show (1 : Int) ≤ ((Nat.gcd a.toNat b.toNat : Nat) : Int)
  omega
/-- how often the next Den goes into it -/
abbrev tm (l : List Pr) (j : Nat) : Int := (l.getD j pair0).2.tdiv (gcI (l.getD j pair0).2 (dn l j))
theorem tm_ok {l : List Pr} (h : okQ l) {j : Nat} (hj : j < l.length) : 1 ≤ tm l j ∧ tm l j ≤ (l.getD j pair0).2 ∧ (dn l j : Int) * tm l j = (dn l (j + 1) : Nat) := by
  have h1 := (h j hj).1
  obtain ⟨d, hd⟩ : ∃ d : Nat, (l.getD j pair0).2 = d := ⟨(l.getD j pair0).2.toNat, by omega⟩
  have hp := dn_pos h (j := j) (by omega)
  have e : tm l j = ((d / Nat.gcd d (dn l j) : Nat) : Int) := by
    show (l.getD j pair0).2.tdiv (gcI (l.getD j pair0).2 (dn l j)) = _; rw [hd, gcI_nat, ← Int.ofNat_tdiv]
  have hd1 : 1 ≤ d := by omega
  have hg : 0 < Nat.gcd d (dn l j) := Nat.gcd_pos_of_pos_left _ hd1
  have e2 : (l.getD j pair0).2.toNat = d := by rw [hd]; rfl
  refine ⟨?_, ?_, ?_⟩
  · rw [e]
    have := Nat.div_pos (Nat.le_of_dvd hd1 (Nat.gcd_dvd_left d (dn l j))) hg
    omega
  · rw [e, hd]
    have := Nat.div_le_self d (Nat.gcd d (dn l j))
    omega
  · rw [e, ← Int.natCast_mul, dn_succ, e2]
    congr 1
    have h2 := Nat.gcd_mul_lcm (dn l j) d
    rw [Nat.gcd_comm] at h2
    have h3 : Nat.gcd d (dn l j) * (dn l j * (d / Nat.gcd d (dn l j))) = dn l j * d := by
      rw [← Nat.mul_assoc, Nat.mul_comm (Nat.gcd d (dn l j)), Nat.mul_assoc, Nat.mul_div_cancel' (Nat.gcd_dvd_left d (dn l j))]
    exact Nat.eq_of_mul_eq_mul_left hg (h3.trans h2.symm)
theorem big_t {D t : Int} (hD : 1 ≤ D) : (10000000000 : Int).tdiv D < t ↔ 10000000000 < D * t := by
  rw [Int.tdiv_eq_ediv_of_nonneg (by decide), Int.ediv_lt_iff_lt_mul (by omega), Int.mul_comm]
/-- a numerator over them all -/
def nm (l : List Pr) (i : Nat) : Int := ((dn l l.length : Nat) : Int).tdiv (l.getD i pair0).2 * (l.getD i pair0).1
def nmL (l : List Pr) (j : Nat) : List Int := (List.range j).map (nm l)
theorem nmL_succ (l : List Pr) (j : Nat) : nmL l (j + 1) = nmL l j ++ [nm l j] := by simp [nmL, List.range_succ]
theorem nmL_len (l : List Pr) (j : Nat) : (nmL l j).length = j := by simp [nmL]
theorem nmL_get (l : List Pr) {i j : Nat} (h : i < j) : (nmL l j).getD i i0 = nm l i := by simp [nmL, List.getD_eq_getElem?_getD, h]
theorem nm_ok {l : List Pr} (h : okQ l) {i : Nat} (hi : i < l.length) : (0 ≤ ((dn l l.length : Nat) : Int).tdiv (l.getD i pair0).2 ∧ ((dn l l.length : Nat) : Int).tdiv (l.getD i pair0).2 ≤ dn l l.length ∧ ((dn l l.length : Nat) : Int).tdiv (l.getD i pair0).2 * (l.getD i pair0).2 = (dn l l.length : Nat)) ∧ 0 ≤ nm l i ∧ nm l i ≤ (dn l l.length : Nat) := by
  have hd := (h i hi).1
  have hn := (h i hi).2.1
  have hv := dn_dvd l hi
  obtain ⟨d, hd'⟩ : ∃ d : Nat, (l.getD i pair0).2 = d := ⟨(l.getD i pair0).2.toNat, by omega⟩
  have hv' : d ∣ dn l l.length := by rw [hd'] at hv; exact hv
  have e0 : ((dn l l.length : Nat) : Int).tdiv (l.getD i pair0).2 = ((dn l l.length / d : Nat) : Int) := by rw [hd', ← Int.ofNat_tdiv]
  have e1 : ((dn l l.length / d : Nat) : Int) * (d : Int) = (dn l l.length : Nat) := by
    rw [← Int.natCast_mul, Nat.div_mul_cancel hv']
  have h4 := Nat.div_le_self (dn l l.length) d
  unfold nm
  rw [e0]
  have h3 : (0 : Int) ≤ ((dn l l.length / d : Nat) : Int) := Int.natCast_nonneg _
  refine ⟨⟨h3, by omega, by rw [hd']; exact e1⟩, Int.mul_nonneg h3 hn.1, ?_⟩
  have := Int.mul_le_mul_of_nonneg_left hn.2 h3
  rw [hd', e1] at this
  exact this
/-- what a list sums to, of the first j -/
def sI (f : Nat → Int) : Nat → Int
  | 0 => 0
  | j + 1 => sI f j + f j
theorem sI_congr {f g : Nat → Int} : ∀ {n : Nat}, (∀ i, i < n → f i = g i) → sI f n = sI g n
  | 0, _ => rfl
  | n + 1, h => by rw [sI, sI, sI_congr fun i hi => h i (by omega), h n (by omega)]
theorem sI_b {f : Nat → Int} {B : Int} : ∀ {n : Nat}, (∀ i, i < n → 0 ≤ f i ∧ f i ≤ B) → 0 ≤ sI f n ∧ sI f n ≤ n * B
  | 0, _ => by simp [sI]
  | n + 1, h => by
    have h1 := sI_b (n := n) fun i hi => h i (by omega)
    have h2 := h n (by omega)
    have e : ((n + 1 : Nat) : Int) * B = n * B + B := by rw [Int.natCast_add, Int.add_mul]; simp
    rw [sI, e]; omega
end Go.Proofs.Bts

