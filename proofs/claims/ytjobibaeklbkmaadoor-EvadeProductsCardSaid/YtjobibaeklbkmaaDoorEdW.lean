/- Layer 8: joins. -/
import Derived.Test.YtjobibaeklbkmaaDoorEdU
import Derived.Test.YtjobibaeklbkmaaDoorEdQ
import Derived.KernelRfl
set_option linter.unusedSimpArgs false
set_option linter.unusedVariables false
set_option linter.unnecessarySimpa false
set_option maxHeartbeats 4000000
set_option maxRecDepth 100000
namespace Go.Proofs.Evd
open Go Go.VM
open Go.Proofs.Sur (W w_wrap w_nat w_inj w_eq0 w_and w_or w_andn w_shl w_shr neg_nat sub_nat tz tz_ok cl bits_cons bits_0 bits_len andn andn_bit andn_le i_wrap i_and i_or i_andn i_shl i_shr bit_01)

/-! ### Join -/
theorem shl_n {a n : Nat} (ha : a < 64) (hn : n ≤ 6) : IntKind.i64.wrap ((a : Int) * 2 ^ min ((n : Int)).toNat IntKind.i64.bits) = ((a * 2 ^ n : Nat) : Int) := i_shl (by omega) (by
  have := Nat.mul_le_mul (Nat.le_of_lt ha) (p64 hn)
  omega)
/-- a place in the join -/
abbrev pl (n s t : Nat) : Nat := s ||| t * 2 ^ n
theorem pl_lt {n m s t : Nat} (hs : s < 2 ^ n) (ht : t < 2 ^ m) : pl n s t < 2 ^ (n + m) := by
  have h1 : s < 2 ^ (n + m) := Nat.lt_of_lt_of_le hs (Nat.pow_le_pow_right (by decide) (by omega))
  have h2 : t * 2 ^ n < 2 ^ (n + m) := by
    rw [Nat.pow_add, Nat.mul_comm (2 ^ n)]
    exact (Nat.mul_lt_mul_right (Nat.two_pow_pos n)).2 ht
  exact Nat.or_lt_two_pow h1 h2
theorem pl_eq {n s t : Nat} (hs : s < 2 ^ n) : pl n s t = t * 2 ^ n + s := by
  rw [pl, Nat.or_comm, Nat.mul_comm, ← Nat.two_pow_add_eq_or_of_lt hs]
theorem pl_mod {n s t : Nat} (hs : s < 2 ^ n) : pl n s t % 2 ^ n = s := by
  rw [pl_eq hs, Nat.mul_comm, Nat.mul_add_mod, Nat.mod_eq_of_lt hs]
theorem pl_div {n s t : Nat} (hs : s < 2 ^ n) : pl n s t / 2 ^ n = t := by
  rw [pl_eq hs, Nat.mul_comm, Nat.mul_add_div (Nat.two_pow_pos n), Nat.div_eq_of_lt hs, Nat.add_zero]
theorem pl_of (n u : Nat) : pl n (u % 2 ^ n) (u / 2 ^ n) = u := by
  rw [pl_eq (Nat.mod_lt _ (Nat.two_pow_pos n)), Nat.mul_comm, Nat.div_add_mod]
/-- the join so far: the first so many sets, and of the next one the first so many -/
def jJ (n : Nat) (a b : List Nat) (i j : Nat) : List Nat := ((a.take i).flatMap fun s => b.map (pl n s)) ++ ((a.drop i).take 1).flatMap fun s => (b.take j).map (pl n s)
theorem jJ_0 (n : Nat) (a b : List Nat) (i : Nat) : jJ n a b i 0 = (a.take i).flatMap fun s => b.map (pl n s) := by
  simp only [jJ, List.take_zero, List.map_nil]
  have : ∀ l : List Nat, (l.flatMap fun _ => ([] : List Nat)) = [] := fun l => by induction l <;> simp_all
  rw [this, List.append_nil]
theorem jJ_step (n : Nat) (a b : List Nat) {i j : Nat} (hi : i < a.length) (hj : j < b.length) : jJ n a b i (j + 1) = jJ n a b i j ++ [pl n (a.getD i 0) (b.getD j 0)] := by
  have e1 : (a.drop i).take 1 = [a.getD i 0] := by
    rw [List.drop_eq_getElem_cons hi, List.take_succ_cons, List.take_zero]
    rw [List.getD_eq_getElem?_getD, List.getElem?_eq_getElem hi]; rfl
  have e2 : b.take (j + 1) = b.take j ++ [b.getD j 0] := take_s hj
  simp only [jJ, e1, e2, List.flatMap_cons, List.flatMap_nil, List.append_nil, List.map_append, List.map_cons, List.map_nil, List.append_assoc]
theorem jJ_next (n : Nat) (a b : List Nat) {i : Nat} (hi : i < a.length) : jJ n a b i b.length = jJ n a b (i + 1) 0 := by
  have e1 : (a.drop i).take 1 = [a.getD i 0] := by
    rw [List.drop_eq_getElem_cons hi, List.take_succ_cons, List.take_zero]
    rw [List.getD_eq_getElem?_getD, List.getElem?_eq_getElem hi]; rfl
  rw [jJ_0, take_s hi]
  simp only [jJ, e1, List.take_length, List.flatMap_append, List.flatMap_cons, List.flatMap_nil, List.append_nil]
theorem jJ_all {n m : Nat} (hn : n + m ≤ 6) {F G : W} (hF : Rg n F) (hG : Rg m G) : fm (jJ n (elts F) (elts G) (elts F).length 0) = jn n F G := by
  refine ext fun u h => ?_
  rw [Bool.eq_iff_iff, fm_bit h, jn_bit h, Bool.and_eq_true, jJ_0, List.take_length, List.mem_flatMap]
  constructor
  · rintro ⟨s, h1, h2⟩
    rw [List.mem_map] at h2
    obtain ⟨t, h3, rfl⟩ := h2
    have k1 := Go.Proofs.Sur.mem_bits.1 h1
    have k2 := Go.Proofs.Sur.mem_bits.1 h3
    have hs := hF s k1
    rw [pl_mod hs, pl_div hs]
    exact ⟨k1, k2⟩
  · rintro ⟨h1, h2⟩
    exact ⟨_, Go.Proofs.Sur.mem_bits.2 h1, List.mem_map.2 ⟨_, Go.Proofs.Sur.mem_bits.2 h2, pl_of n u⟩⟩
end Go.Proofs.Evd

