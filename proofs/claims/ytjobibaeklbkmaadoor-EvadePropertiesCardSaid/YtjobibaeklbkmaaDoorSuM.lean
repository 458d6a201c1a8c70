/- Layer 5: sets of words as bits. -/
import Derived.Test.YtjobibaeklbkmaaDoorVm6
set_option linter.unusedSimpArgs false
set_option linter.unusedVariables false
set_option linter.unnecessarySimpa false
namespace Go.Proofs.Sur
open Go Go.VM

abbrev W := BitVec 64
theorem w_wrap {n : Nat} (h : n < 18446744073709551616) : IntKind.u64.wrap (n : Int) = (n : Int) := by
  simp only [IntKind.wrap, IntKind.bits, IntKind.signed]
  simp
  omega
theorem w_lt (b : W) : b.toNat < 18446744073709551616 := b.isLt
theorem w_nat (b : W) : IntKind.u64.wrap (b.toNat : Int) = (b.toNat : Int) := w_wrap (w_lt b)
theorem w_of (b : W) : BitVec.ofInt 64 (b.toNat : Int) = b := by simp
@[simp] theorem w_inj (a b : W) : ((a.toNat : Int) = (b.toNat : Int)) ↔ a = b := by
  constructor
  · intro h; exact BitVec.eq_of_toNat_eq (by omega)
  · rintro rfl; rfl
theorem w_eq0 (a : W) : ((a.toNat : Int) = 0) ↔ a = 0#64 := by
  have := w_inj a 0#64
  simpa using this
theorem w_and (a b : W) : IntKind.u64.wrap ((BitVec.ofInt IntKind.u64.bits (a.toNat : Int) &&& BitVec.ofInt IntKind.u64.bits (b.toNat : Int)).toNat : Int) = ((a &&& b).toNat : Int) := by
  have e : (BitVec.ofInt IntKind.u64.bits (a.toNat : Int) &&& BitVec.ofInt IntKind.u64.bits (b.toNat : Int)).toNat = (a &&& b).toNat := by
    show (BitVec.ofInt 64 (a.toNat : Int) &&& BitVec.ofInt 64 (b.toNat : Int)).toNat = _
    rw [w_of, w_of]
  rw [e, w_nat]
theorem w_or (a b : W) : IntKind.u64.wrap ((BitVec.ofInt IntKind.u64.bits (a.toNat : Int) ||| BitVec.ofInt IntKind.u64.bits (b.toNat : Int)).toNat : Int) = ((a ||| b).toNat : Int) := by
  have e : (BitVec.ofInt IntKind.u64.bits (a.toNat : Int) ||| BitVec.ofInt IntKind.u64.bits (b.toNat : Int)).toNat = (a ||| b).toNat := by
    show (BitVec.ofInt 64 (a.toNat : Int) ||| BitVec.ofInt 64 (b.toNat : Int)).toNat = _
    rw [w_of, w_of]
  rw [e, w_nat]
theorem w_andn (a b : W) : IntKind.u64.wrap ((BitVec.ofInt IntKind.u64.bits (a.toNat : Int) &&& ~~~BitVec.ofInt IntKind.u64.bits (b.toNat : Int)).toNat : Int) = ((a &&& ~~~b).toNat : Int) := by
  have e : (BitVec.ofInt IntKind.u64.bits (a.toNat : Int) &&& ~~~BitVec.ofInt IntKind.u64.bits (b.toNat : Int)).toNat = (a &&& ~~~b).toNat := by
    show (BitVec.ofInt 64 (a.toNat : Int) &&& ~~~BitVec.ofInt 64 (b.toNat : Int)).toNat = _
    rw [w_of, w_of]
  rw [e, w_nat]
theorem w_shl (a : W) {n : Nat} (h : n ≤ 64) : IntKind.u64.wrap ((a.toNat : Int) * 2 ^ min ((n : Int)).toNat IntKind.u64.bits) = ((a <<< n).toNat : Int) := by
  have e : min ((n : Int)).toNat IntKind.u64.bits = n := by show min n 64 = n; omega
  rw [e, BitVec.toNat_shiftLeft, Nat.shiftLeft_eq]
  simp only [IntKind.wrap, IntKind.bits, IntKind.signed]
  simp
theorem fdiv_pow (a n : Nat) : (a : Int).fdiv (2 ^ n) = ((a / 2 ^ n : Nat) : Int) := by
  have : (2 : Int) ^ n = ((2 ^ n : Nat) : Int) := by simp
  rw [this]
  exact (Int.ofNat_fdiv a (2 ^ n)).symm
theorem w_shr (a : W) {n : Nat} (h : n ≤ 64) : (a.toNat : Int).fdiv (2 ^ min ((n : Int)).toNat IntKind.u64.bits) = ((a >>> n).toNat : Int) := by
  have e : min ((n : Int)).toNat IntKind.u64.bits = n := by show min n 64 = n; omega
  rw [e, BitVec.toNat_ushiftRight, Nat.shiftRight_eq_div_pow, fdiv_pow]
/-- the first of a set -/
def fst (f : Nat → Bool) : Nat → Nat → Nat
  | s, 0 => s
  | s, n + 1 => if f s then s else fst f (s + 1) n
theorem fst_ok {f : Nat → Bool} : ∀ (n s : Nat), (∃ i, s ≤ i ∧ i < s + n ∧ f i = true) → f (fst f s n) = true ∧ s ≤ fst f s n ∧ fst f s n < s + n ∧ ∀ j, s ≤ j → j < fst f s n → f j = false
  | 0, s, ⟨i, h1, h2, _⟩ => by omega
  | n + 1, s, ⟨i, h1, h2, h3⟩ => by
    simp only [fst]
    split
    · rename_i hs
      exact ⟨hs, Nat.le_refl _, by omega, fun j h4 h5 => by omega⟩
    · rename_i hs
      have hne : i ≠ s := fun e => hs (e ▸ h3)
      obtain ⟨g1, g2, g3, g4⟩ := fst_ok n (s + 1) ⟨i, by omega, by omega, h3⟩
      refine ⟨g1, by omega, by omega, fun j h4 h5 => ?_⟩
      by_cases e : j = s
      · subst e; simpa using hs
      · exact g4 j (by omega) h5
def tz (b : W) : Nat := fst (fun i => b.getLsbD i) 0 64
theorem w_some {b : W} (h : b ≠ 0#64) : ∃ i, i < 64 ∧ b.getLsbD i = true := by
  refine Classical.byContradiction fun hc => h ?_
  apply BitVec.eq_of_getLsbD_eq
  intro i hi
  cases hb : b.getLsbD i
  · simp
  · exact absurd ⟨i, by omega, hb⟩ hc
theorem tz_ok {b : W} (h : b ≠ 0#64) : b.getLsbD (tz b) = true ∧ tz b < 64 ∧ ∀ j, j < tz b → b.getLsbD j = false := by
  obtain ⟨i, h1, h2⟩ := w_some h
  obtain ⟨h1, _, h3, h4⟩ := fst_ok (f := fun i => b.getLsbD i) 64 0 ⟨i, by omega, by omega, h2⟩
  exact ⟨h1, by show fst _ _ _ < 64; omega, fun j hj => h4 j (by omega) hj⟩
theorem low_bit {b : W} (h : b ≠ 0#64) : b &&& -b = BitVec.ofNat 64 (2 ^ tz b) := by
  obtain ⟨h1, h2, h3⟩ := tz_ok h
  apply BitVec.eq_of_getLsbD_eq
  intro i hi
  rw [BitVec.getLsbD_and, BitVec.getLsbD_neg, BitVec.getLsbD_ofNat, Nat.testBit_two_pow]
  simp only [hi, decide_true, Bool.true_and]
  by_cases e : tz b = i
  · subst e
    have : ¬ ∃ j, j < tz b ∧ b.getLsbD j = true := fun ⟨j, hj, hb⟩ => by rw [h3 j hj] at hb; cases hb
    rw [h1, decide_eq_false this]; simp
  · by_cases hlt : i < tz b
    · rw [h3 i hlt]; simp [e]
    · cases hb : b.getLsbD i
      · simp [e]
      · have : ∃ j, j < i ∧ b.getLsbD j = true := ⟨tz b, by omega, h1⟩
        rw [decide_eq_true this]; simp [e]
theorem neg_nat (b : W) : IntKind.u64.wrap (0 - (b.toNat : Int)) = ((-b).toNat : Int) := by
  have hb := w_lt b
  rw [BitVec.toNat_neg]
  simp only [IntKind.wrap, IntKind.bits, IntKind.signed]
  simp
  omega
theorem sub_nat (b : W) : IntKind.u64.wrap ((b.toNat : Int) - 1) = ((b - 1#64).toNat : Int) := by
  have hb := w_lt b
  rw [BitVec.toNat_sub]
  simp only [IntKind.wrap, IntKind.bits, IntKind.signed]
  simp
  omega
theorem not_neg' (b : W) : b - 1#64 = ~~~(-b) := by
  have hb := w_lt b
  apply BitVec.eq_of_toNat_eq
  rw [BitVec.toNat_not, BitVec.toNat_neg, BitVec.toNat_sub]
  simp
  omega
/-- a set without its first -/
def cl (b : W) : W := b &&& (b - 1#64)
theorem cl_bit (b : W) {i : Nat} (hi : i < 64) : (cl b).getLsbD i = true ↔ b.getLsbD i = true ∧ ∃ j, j < i ∧ b.getLsbD j = true := by
  rw [cl, not_neg', BitVec.getLsbD_and, BitVec.getLsbD_not, BitVec.getLsbD_neg]
  simp only [hi, decide_true, Bool.true_and, Bool.and_eq_true, Bool.not_eq_true']
  constructor
  · rintro ⟨h1, h2⟩
    refine ⟨h1, ?_⟩
    rw [h1] at h2
    simpa using h2
  · rintro ⟨h1, h2⟩
    refine ⟨h1, ?_⟩
    rw [h1]
    simpa using h2
/-- a set as a rising list -/
def lsU (f : Nat → Bool) : Nat → Nat → List Nat
  | _, 0 => []
  | s, n + 1 => if f s then s :: lsU f (s + 1) n else lsU f (s + 1) n
theorem lsU_congr {f g : Nat → Bool} : ∀ (n s : Nat), (∀ i, s ≤ i → i < s + n → f i = g i) → lsU f s n = lsU g s n
  | 0, _, _ => rfl
  | n + 1, s, h => by
    simp only [lsU]
    rw [h s (by omega) (by omega), lsU_congr n (s + 1) (fun i h1 h2 => h i (by omega) (by omega))]
theorem lsU_first {f g : Nat → Bool} {t : Nat} (hf : f t = true) (h1 : ∀ j, j < t → f j = false) (hg : ∀ i, g i = (f i && decide (t < i))) : ∀ (n s : Nat), s ≤ t → t < s + n → lsU f s n = t :: lsU g s n
  | 0, s, h2, h3 => by omega
  | n + 1, s, h2, h3 => by
    simp only [lsU]
    by_cases e : s = t
    · subst e
      have hgs : g s = false := by rw [hg]; simp
      rw [if_pos hf, hgs]
      simp only [Bool.false_eq_true, if_false, List.cons.injEq, true_and]
      exact lsU_congr n (s + 1) (fun i h4 _ => by rw [hg]; simp; omega)
    · have hfs := h1 s (by omega)
      have hgs : g s = false := by rw [hg, hfs]; rfl
      rw [hfs, hgs]
      simp only [Bool.false_eq_true, if_false]
      exact lsU_first hf h1 hg n (s + 1) (by omega) (by omega)
theorem lsU_mem {f : Nat → Bool} : ∀ (n s i : Nat), i ∈ lsU f s n ↔ s ≤ i ∧ i < s + n ∧ f i = true
  | 0, s, i => by simp [lsU]; omega
  | n + 1, s, i => by
    simp only [lsU]
    split
    · rename_i h
      rw [List.mem_cons, lsU_mem n (s + 1) i]
      constructor
      · rintro (rfl | ⟨h1, h2, h3⟩)
        · exact ⟨by omega, by omega, h⟩
        · exact ⟨by omega, by omega, h3⟩
      · rintro ⟨h1, h2, h3⟩
        by_cases e : i = s
        · exact .inl e
        · exact .inr ⟨by omega, by omega, h3⟩
    · rename_i h
      rw [lsU_mem n (s + 1) i]
      constructor
      · rintro ⟨h1, h2, h3⟩; exact ⟨by omega, by omega, h3⟩
      · rintro ⟨h1, h2, h3⟩
        by_cases e : i = s
        · subst e; exact absurd h3 h
        · exact ⟨by omega, by omega, h3⟩
def bits (b : W) : List Nat := lsU (fun i => b.getLsbD i) 0 64
theorem bits_0 : bits 0#64 = [] := by
  cases h : bits 0#64 with
  | nil => rfl
  | cons x l =>
    have : x ∈ bits 0#64 := by rw [h]; simp
    rw [bits, lsU_mem] at this
    simp at this
theorem mem_bits {b : W} {i : Nat} : i ∈ bits b ↔ b.getLsbD i = true := by
  rw [bits, lsU_mem]
  constructor
  · exact fun h => h.2.2
  · intro h
    refine ⟨by omega, ?_, h⟩
    have : i < 64 := by
      refine Classical.byContradiction fun hc => ?_
      rw [BitVec.getLsbD_of_ge b i (by omega)] at h; cases h
    omega
theorem bits_cons {b : W} (h : b ≠ 0#64) : bits b = tz b :: bits (cl b) := by
  obtain ⟨h1, h2, h3⟩ := tz_ok h
  have e : bits (cl b) = lsU (fun i => b.getLsbD i && decide (tz b < i)) 0 64 := lsU_congr 64 0 (fun i _ hi => by
    rw [Bool.eq_iff_iff, cl_bit b (by omega), Bool.and_eq_true, decide_eq_true_eq]
    constructor
    · rintro ⟨g1, j, g2, g3⟩
      refine ⟨g1, ?_⟩
      refine Classical.byContradiction fun hc => ?_
      have := h3 j (by omega)
      rw [g3] at this; cases this
    · rintro ⟨g1, g2⟩
      exact ⟨g1, tz b, g2, h1⟩)
  rw [e]
  exact lsU_first h1 h3 (fun _ => rfl) 64 0 (by omega) (by omega)
theorem lsU_len (f : Nat → Bool) : ∀ n s, (lsU f s n).length ≤ n
  | 0, _ => Nat.le_refl 0
  | n + 1, s => by
    simp only [lsU]
    have := lsU_len f n (s + 1)
    split <;> simp <;> omega
theorem bits_len (b : W) : (bits b).length ≤ 64 := lsU_len _ 64 0
/-- integers that are no less than 0 -/
theorem i_wrap {n : Nat} (h : n < 9223372036854775808) : IntKind.i64.wrap (n : Int) = (n : Int) := by
  simp only [IntKind.wrap, IntKind.bits, IntKind.signed]
  simp
  omega
theorem ofI (a : Nat) : BitVec.ofInt 64 (a : Int) = BitVec.ofNat 64 a := by
  apply BitVec.eq_of_toNat_eq; simp
theorem i_and {a b : Nat} (ha : a < 9223372036854775808) (hb : b < 9223372036854775808) : IntKind.i64.wrap ((BitVec.ofInt IntKind.i64.bits (a : Int) &&& BitVec.ofInt IntKind.i64.bits (b : Int)).toNat : Int) = ((a &&& b : Nat) : Int) := by
  have e : (BitVec.ofInt IntKind.i64.bits (a : Int) &&& BitVec.ofInt IntKind.i64.bits (b : Int)).toNat = a &&& b := by
    show (BitVec.ofInt 64 (a : Int) &&& BitVec.ofInt 64 (b : Int)).toNat = _
    rw [ofI, ofI, BitVec.toNat_and, BitVec.toNat_ofNat, BitVec.toNat_ofNat, Nat.mod_eq_of_lt (by omega), Nat.mod_eq_of_lt (by omega)]
  rw [e]
  exact i_wrap (Nat.lt_of_le_of_lt Nat.and_le_left ha)
theorem i_or {a b : Nat} (ha : a < 9223372036854775808) (hb : b < 9223372036854775808) : IntKind.i64.wrap ((BitVec.ofInt IntKind.i64.bits (a : Int) ||| BitVec.ofInt IntKind.i64.bits (b : Int)).toNat : Int) = ((a ||| b : Nat) : Int) := by
  have e : (BitVec.ofInt IntKind.i64.bits (a : Int) ||| BitVec.ofInt IntKind.i64.bits (b : Int)).toNat = a ||| b := by
    show (BitVec.ofInt 64 (a : Int) ||| BitVec.ofInt 64 (b : Int)).toNat = _
    rw [ofI, ofI, BitVec.toNat_or, BitVec.toNat_ofNat, BitVec.toNat_ofNat, Nat.mod_eq_of_lt (by omega), Nat.mod_eq_of_lt (by omega)]
  rw [e]
  exact i_wrap (Nat.or_lt_two_pow (n := 63) ha hb)
/-- without -/
def andn (a b : Nat) : Nat := (BitVec.ofNat 64 a &&& ~~~BitVec.ofNat 64 b).toNat
theorem andn_bit {a b : Nat} (ha : a < 9223372036854775808) (i : Nat) : (andn a b).testBit i = (a.testBit i && !b.testBit i) := by
  show (BitVec.ofNat 64 a &&& ~~~BitVec.ofNat 64 b).getLsbD i = _
  rw [BitVec.getLsbD_and, BitVec.getLsbD_not, BitVec.getLsbD_ofNat, BitVec.getLsbD_ofNat]
  by_cases hi : i < 64
  · simp [hi]
  · have : a.testBit i = false := Nat.testBit_lt_two_pow (Nat.lt_of_lt_of_le ha (Nat.le_trans (by decide : 9223372036854775808 ≤ 2 ^ 64) (Nat.pow_le_pow_right (by decide) (by omega))))
    simp [hi, this]
theorem andn_le {a b : Nat} (ha : a < 9223372036854775808) : andn a b ≤ a := by
  have : andn a b = a &&& (andn a b) := by
    apply Nat.eq_of_testBit_eq; intro i
    rw [Nat.testBit_and, andn_bit ha]; cases a.testBit i <;> simp
  rw [this]; exact Nat.and_le_left
theorem i_andn {a b : Nat} (ha : a < 9223372036854775808) : IntKind.i64.wrap ((BitVec.ofInt IntKind.i64.bits (a : Int) &&& ~~~BitVec.ofInt IntKind.i64.bits (b : Int)).toNat : Int) = ((andn a b : Nat) : Int) := by
  have e : (BitVec.ofInt IntKind.i64.bits (a : Int) &&& ~~~BitVec.ofInt IntKind.i64.bits (b : Int)).toNat = andn a b := by
    show (BitVec.ofInt 64 (a : Int) &&& ~~~BitVec.ofInt 64 (b : Int)).toNat = _
    rw [ofI, ofI]; rfl
  rw [e]
  exact i_wrap (Nat.lt_of_le_of_lt (andn_le ha) ha)
theorem i_shl {a n : Nat} (h : n ≤ 62) (ha : a * 2 ^ n < 9223372036854775808) : IntKind.i64.wrap ((a : Int) * 2 ^ min ((n : Int)).toNat IntKind.i64.bits) = ((a * 2 ^ n : Nat) : Int) := by
  have e : min ((n : Int)).toNat IntKind.i64.bits = n := by show min n 64 = n; omega
  rw [e]
  have : (a : Int) * 2 ^ n = ((a * 2 ^ n : Nat) : Int) := by simp
  rw [this]; exact i_wrap ha
theorem i_shr {a n : Nat} (h : n ≤ 64) : (a : Int).fdiv (2 ^ min ((n : Int)).toNat IntKind.i64.bits) = ((a >>> n : Nat) : Int) := by
  have e : min ((n : Int)).toNat IntKind.i64.bits = n := by show min n 64 = n; omega
  rw [e, Nat.shiftRight_eq_div_pow, fdiv_pow]
theorem bit_01 (a n : Nat) : (a >>> n) &&& 1 = (a.testBit n).toNat := by
  simp [Nat.testBit, Nat.and_comm]
  rcases Nat.mod_two_eq_zero_or_one (a >>> n) with h | h <;> simp [Nat.and_one_is_mod, Nat.one_and_eq_mod_two, h]
end Go.Proofs.Sur

