/- Layer 5: words of words. -/
import Derived.Test.YtlomlnkafakloaaDoorSuX
import Derived.KernelRfl
set_option linter.unusedSimpArgs false
set_option linter.unusedVariables false
set_option linter.unnecessarySimpa false
set_option maxHeartbeats 4000000
set_option maxRecDepth 100000
namespace Go.Proofs.Sur
open Go Go.VM

theorem divlt {i m n : Nat} (hn : 0 < n) (h : i < m * n) : i / n < m ∧ i % n < n := ⟨by rw [Nat.div_lt_iff_lt_mul hn]; exact h, Nat.mod_lt _ hn⟩
/-- words of a length, whatever their number -/
def pwW (g : List Int) : Nat → List W
  | 0 => nrV g
  | m + 1 => prV (pwW g m) (nrV g)
theorem pwW_len (g : List Int) : ∀ m, (pwW g m).length = g.length ^ (m + 1)
  | 0 => by rw [pwW, nrV_len, Nat.pow_succ, Nat.pow_zero, Nat.one_mul]
  | m + 1 => by rw [pwW, prV_len, pwW_len g m, nrV_len, ← Nat.pow_succ]
theorem rdF_pw (g : List Int) : ∀ (n m : Nat) (u : List W), rdF g n (pwW g m) = some u → u = pwW g (m + n) ∧ (n ≠ 0 → g.length ^ (m + n + 1) ≤ 64)
  | 0, m, u, h => by cases h; exact ⟨rfl, fun h => absurd rfl h⟩
  | n + 1, m, u, h => by
    simp only [rdF] at h
    split at h
    · cases h
    · rename_i hs
      obtain ⟨h1, h2⟩ := rdF_pw g n (m + 1) u h
      have e : m + 1 + n = m + (n + 1) := by omega
      rw [e] at h1 h2
      refine ⟨h1, fun _ => ?_⟩
      by_cases hn : n = 0
      · subst hn
        rw [pwW_len, ← Nat.pow_succ] at hs
        exact Nat.le_of_not_lt hs
      · exact h2 hn
theorem rd_pw {g : List Int} {k : Int} (h : rdE g k = 0) : rdW g k = pwW g (k - 1).toNat ∧ g.length ^ k.toNat ≤ 64 := by
  obtain ⟨hg, hk, hF, hw⟩ := rd_ok h
  obtain ⟨h1, h2⟩ := rdF_pw g (k - 1).toNat 0 _ hF
  rw [Nat.zero_add] at h1
  refine ⟨h1, ?_⟩
  have e : k.toNat = (k - 1).toNat + 1 := by omega
  have hl := pwW_len g (k - 1).toNat
  rw [← h1] at hl
  rw [e, ← hl]; exact hw.1.2
theorem pwW_gs {g : List Int} (hg : Gr g) : ∀ m, g.length ^ (m + 1) ≤ 64 → gsW (pwW g m)
  | 0, _ => ⟨nrV_gd hg, nrV_sy hg⟩
  | m + 1, h => by
    have h1 : g.length ^ (m + 1) ≤ 64 := Nat.le_trans (Nat.pow_le_pow_right (by have := hg.1.1; omega) (by omega)) h
    obtain ⟨i1, i2⟩ := pwW_gs hg m h1
    have hl : (pwW g m).length * (nrV g).length ≤ 64 := by rw [pwW_len, nrV_len, ← Nat.pow_succ]; exact h
    exact ⟨prV_gd i1 (nrV_gd hg) hl, prV_sy i1 (nrV_gd hg) hl i2 (nrV_sy hg)⟩
theorem rd_gs {g : List Int} {k : Int} (h : rdE g k = 0) : gsW (rdW g k) := by
  obtain ⟨h1, h2⟩ := rd_pw h
  have e : k.toNat = (k - 1).toNat + 1 := by have := (rd_ok h).2.1; omega
  rw [h1]; exact pwW_gs (rd_ok h).1 _ (by rw [← e]; exact h2)
/-- words of one code, each with one of another behind it -/
def boV (a b : List Int) (n : Int) : List Int := a.flatMap fun x => b.map fun y => x * n + y
theorem boV_len (a b : List Int) (n : Int) : (boV a b n).length = a.length * b.length := by
  induction a with
  | nil => simp [boV]
  | cons x a ih => simp only [boV, List.flatMap_cons, List.length_append, List.length_map, List.length_cons] at *; rw [ih, Nat.succ_mul, Nat.add_comm]
theorem i_dm {x y : Int} {n : Nat} (hx : 0 ≤ x) (hy : 0 ≤ y) (hn : y < n) : (x * n + y).toNat / n = x.toNat ∧ (x * n + y).toNat % n = y.toNat := by
  obtain ⟨a, rfl⟩ : ∃ a : Nat, x = a := ⟨x.toNat, by omega⟩
  obtain ⟨b, rfl⟩ : ∃ b : Nat, y = b := ⟨y.toNat, by omega⟩
  have e : ((a : Int) * n + b).toNat = b + n * a := by
    have : (a : Int) * n + b = ((b + n * a : Nat) : Int) := by rw [Int.natCast_add, Int.natCast_mul, Int.mul_comm, Int.add_comm]
    rw [this, Int.toNat_natCast]
  have hb : b < n := by omega
  rw [e, Nat.add_mul_div_left _ _ (by omega), Nat.add_mul_mod_self_left, Nat.div_eq_of_lt hb, Nat.mod_eq_of_lt hb]
  exact ⟨by simp, rfl⟩
theorem bo_lt {x y z t n : Int} (h : x < z) (hy0 : 0 ≤ y) (hy : y < n) (ht : 0 ≤ t) : x * n + y < z * n + t := by
  have : (x + 1) * n ≤ z * n := Int.mul_le_mul_of_nonneg_right (by omega) (by omega)
  rw [Int.add_mul] at this
  omega
theorem bo_cd {A B : List W} (hA : gdW A) (hB : gdW B) (hl : A.length * B.length ≤ 64) {a b : List Int} (ha : isCd A a) (hb : isCd B b) : isCd (prV A B) (boV a b B.length) := by
  have pB := Nat.pos_of_ne_zero hB.1.1
  have rng : ∀ x, x ∈ a → ∀ y, y ∈ b → 0 ≤ x * (B.length : Int) + y ∧ x * (B.length : Int) + y < ((A.length * B.length : Nat) : Int) := fun x hx y hy => by
    have h1 := ha.1 x hx
    have h2 := hb.1 y hy
    have h3 : 0 ≤ x * (B.length : Int) := Int.mul_nonneg h1.1 (by omega)
    have h4 := bo_lt (x := x) (y := y) (z := A.length) (t := 0) (n := B.length) (by omega) (by omega) (by omega) (by omega)
    rw [Int.natCast_mul]
    omega
  have far : ∀ x, x ∈ a → ∀ y, y ∈ b → ∀ z, z ∈ a → ∀ t, t ∈ b → ((wt_ A x.toNat).getLsbD z.toNat = false ∨ (wt_ B y.toNat).getLsbD t.toNat = false) → (wt_ (prV A B) (x * (B.length : Int) + y).toNat).getLsbD (z * (B.length : Int) + t).toNat = false := by
    intro x hx y hy z hz t ht hor
    have h1 := rng x hx y hy
    have h2 := rng z hz t ht
    obtain ⟨x1, x2⟩ := ha.1 x hx
    obtain ⟨y1, y2⟩ := hb.1 y hy
    obtain ⟨z1, z2⟩ := ha.1 z hz
    obtain ⟨t1, t2⟩ := hb.1 t ht
    obtain ⟨d1, d2⟩ := i_dm x1 y1 y2
    obtain ⟨d3, d4⟩ := i_dm z1 t1 t2
    rw [prV_get B hB.1.1 A _ (by omega), prW_iff (hA.2.1 _ (by rw [d1]; omega)) (hB.2.1 _ (by rw [d2]; omega)) hl (by omega), d1, d2, d3, d4]
    rcases hor with h | h
    · rw [h]; rfl
    · rw [h]; simp
  refine ⟨fun x hx => ?_, ?_⟩
  · obtain ⟨u, hu, hx⟩ := List.mem_flatMap.1 hx
    obtain ⟨v, hv, rfl⟩ := List.mem_map.1 hx
    rw [prV_len]; exact rng u hu v hv
  · rw [boV, List.flatMap, List.pairwise_flatten]
    refine ⟨fun l hl => ?_, ?_⟩
    · obtain ⟨x, hx, rfl⟩ := List.mem_map.1 hl
      rw [List.pairwise_map]
      refine (List.Pairwise.and_mem.1 hb.2).imp ?_
      rintro y t ⟨hy, ht, h1, h2⟩
      exact ⟨by omega, far x hx y hy x hx t ht (.inr h2)⟩
    · rw [List.pairwise_map]
      refine (List.Pairwise.and_mem.1 ha.2).imp ?_
      rintro x z ⟨hx, hz, h1, h2⟩ p hp q hq
      obtain ⟨y, hy, rfl⟩ := List.mem_map.1 hp
      obtain ⟨t, ht, rfl⟩ := List.mem_map.1 hq
      have := hb.1 y hy
      have := hb.1 t ht
      exact ⟨bo_lt h1 (by omega) (by omega) (by omega), far x hx y hy z hz t ht (.inl h2)⟩
end Go.Proofs.Sur

