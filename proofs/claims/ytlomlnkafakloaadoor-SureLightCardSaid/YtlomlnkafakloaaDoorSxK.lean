/- Layer 5: weights of joined graphs. -/
import Derived.Test.YtlomlnkafakloaaDoorSxI
import Derived.Test.YtlomlnkafakloaaDoorSvA
set_option linter.unusedSimpArgs false
set_option linter.unusedVariables false
set_option linter.unnecessarySimpa false
namespace Go.Proofs.Sur
open Go Go.VM
set_option maxHeartbeats 1000000
def nr (g : List Int) (u v : Nat) : Bool := (wt_ (nrV g) u).getLsbD v
theorem nr_eq {g : List Int} (hg : Gr g) {u v : Nat} (hu : u < g.length) (hv : v < g.length) : nr g u v = (bi (at_ g u) v || decide (v = u)) := by
  have := hg.1.2
  rw [nr, nrV_get hu, nrB_bit hg.1 hu (by omega)]
def natOf (p : Nat → Bool) : Nat → Nat
  | 0 => 0
  | n + 1 => if p n = true then 2 ^ n + natOf p n else natOf p n
theorem natOf_lt (p : Nat → Bool) : ∀ n, natOf p n < 2 ^ n
  | 0 => by simp [natOf]
  | n + 1 => by
    have := natOf_lt p n
    simp only [natOf]; split <;> (rw [Nat.pow_succ]; omega)
theorem natOf_bit (p : Nat → Bool) : ∀ n j, (natOf p n).testBit j = (decide (j < n) && p j)
  | 0, j => by simp [natOf]
  | n + 1, j => by
    have hl := natOf_lt p n
    simp only [natOf]
    rcases Nat.lt_trichotomy j n with h | h | h
    · have e : decide (j < n + 1) = decide (j < n) := by simp only [decide_eq_decide]; omega
      rw [e]
      split
      · rw [Nat.testBit_two_pow_add_gt h, natOf_bit p n j]
      · exact natOf_bit p n j
    · subst h
      have e0 : (natOf p j).testBit j = false := Nat.testBit_lt_two_pow hl
      split
      · rename_i hp
        rw [Nat.testBit_two_pow_add_eq, e0, hp]; simp
      · rename_i hp
        rw [e0]; simpa using hp
    · have hz : (if p n = true then 2 ^ n + natOf p n else natOf p n) < 2 ^ j := by
        have : 2 ^ (n + 1) ≤ 2 ^ j := Nat.pow_le_pow_right (by decide) (by omega)
        rw [Nat.pow_succ] at this
        split <;> omega
      rw [Nat.testBit_lt_two_pow hz]
      have : ¬ j < n + 1 := by omega
      simp [this]
def Clq (g : List Int) (p : Nat → Bool) : Prop := ∀ u v, u < g.length → v < g.length → p u = true → p v = true → nr g u v = true
def Lgt (g : List Int) (x : Nat → Int) (D : Int) : Prop := ∀ p, Clq g p → sm g.length (fun j => if p j = true then x j else 0) ≤ D
theorem lgt_ix {g : List Int} (hg : Gr g) {x : Nat → Int} {D : Int} (h : Lgt g x D) : ∀ i, i < (clV g).length → sm g.length (fun j => if bS (clV g) i j = true then x j else 0) ≤ D :=
  fun i hi => h (bS (clV g) i) fun u v hu hv h1 h2 => clq_near hg hi hu hv h1 h2
theorem ix_lgt {g : List Int} (hg : Gr g) {x : Nat → Int} {D : Int} (hx : ∀ j, j < g.length → 0 ≤ x j) (h : ∀ i, i < (clV g).length → sm g.length (fun j => if bS (clV g) i j = true then x j else 0) ≤ D) : Lgt g x D := by
  intro p hp
  by_cases hz : natOf p g.length = 0
  · have h0 : sm g.length (fun j => if p j = true then x j else 0) = 0 := sm_zero _ fun j hj => by
      have := natOf_bit p g.length j
      rw [hz] at this
      simp [hj] at this
      show (if p j = true then x j else 0) = 0
      rw [if_neg (by rw [this]; simp)]
    rw [h0]
    have h1 := h 0 (by have := clq_pos hg; omega)
    have h2 : 0 ≤ sm g.length (fun j => if bS (clV g) 0 j = true then x j else 0) := sm_nn fun j hj => by
      show 0 ≤ if bS (clV g) 0 j = true then x j else 0
      split
      · exact hx j hj
      · exact Int.le_refl _
    omega
  · have hlt := natOf_lt p g.length
    have hb : ∀ j, j < g.length → (natOf p g.length).testBit j = p j := fun j hj => by rw [natOf_bit]; simp [hj]
    have hm : ((natOf p g.length : Nat) : Int) ∈ clV g := mem_clL hz ((okF_iff _).2 fun i hi => (qc_iff hg hlt hi).2 fun h1 j hj h2 hne => by
      rw [hb i hi] at h1
      rw [hb j hj] at h2
      have := hp i j hi hj h1 h2
      rw [nr_eq hg hi hj, decide_eq_false hne, Bool.or_false] at this
      exact this) _ hlt
    obtain ⟨i, i1, i2⟩ := at_ix hm
    have := h i i1
    have e : sm g.length (fun j => if bS (clV g) i j = true then x j else 0) = sm g.length (fun j => if p j = true then x j else 0) := sm_congr _ fun j hj => by
      have : bS (clV g) i j = p j := by
        show bi (at_ (clV g) i) j = _
        rw [i2]
        show ((natOf p g.length : Nat) : Int).toNat.testBit j = _
        rw [Int.toNat_natCast, hb j hj]
      rw [this]
    rw [e] at this; exact this
theorem lgt_top {g : List Int} (hg : Gr g) {x : Nat → Int} {D : Int} (hx : ∀ j, j < g.length → 0 ≤ x j) (h : Lgt g x D) : sm g.length x * wgD g ≤ wgN g * D := by
  obtain ⟨_, ⟨z, s, hc⟩, e1, e2, _⟩ := wg_ok hg
  rw [e1, e2]; exact hc.lptop hx (lgt_ix hg h)
/-! sums over pairs, and over both parts -/
structure Joined (g h J : List Int) : Prop where
  gJ : Gr J
  len : J.length = g.length * h.length
  near : ∀ u v u' v', u < g.length → v < h.length → u' < g.length → v' < h.length → nr J (u * h.length + v) (u' * h.length + v') = (nr g u u' && nr h v v')
structure Beside (g h J : List Int) : Prop where
  gJ : Gr J
  len : J.length = g.length + h.length
  n1 : ∀ u u', u < g.length → u' < g.length → nr J u u' = nr g u u'
  n2 : ∀ v v', v < h.length → v' < h.length → nr J (g.length + v) (g.length + v') = nr h v v'
  n3 : ∀ u v, u < g.length → v < h.length → nr J u (g.length + v) = false
end Go.Proofs.Sur

