/- Layer 5: sets of words as bits. -/
import Derived.Test.YtnnhomkkggkkfaaDoorVm8
set_option linter.unusedSimpArgs false
set_option linter.unusedVariables false
set_option linter.unnecessarySimpa false
namespace Go.Proofs.Sur
open Go Go.VM

abbrev W := BitVec 64
theorem w_wrap {n : Nat} (h : n < 18446744073709551616) : IntKind.u64.wrap (n : Int) = (n : Int) := by
  simp only [IntKind.wrap, IntKind.bits, IntKind.signed]
  simp
  omega
@[simp] theorem w_inj (a b : W) : ((a.toNat : Int) = (b.toNat : Int)) ↔ a = b := by
  constructor
  · intro h; exact BitVec.eq_of_toNat_eq (by omega)
  · rintro rfl; rfl
theorem fdiv_pow (a n : Nat) : (a : Int).fdiv (2 ^ n) = ((a / 2 ^ n : Nat) : Int) := by
  have : (2 : Int) ^ n = ((2 ^ n : Nat) : Int) := by simp
  rw [this]
  exact (Int.ofNat_fdiv a (2 ^ n)).symm
/-- the first of a set -/
def fst (f : Nat → Bool) : Nat → Nat → Nat
  | s, 0 => s
  | s, n + 1 => if f s then s else fst f (s + 1) n
/-- a set as a rising list -/
def lsU (f : Nat → Bool) : Nat → Nat → List Nat
  | _, 0 => []
  | s, n + 1 => if f s then s :: lsU f (s + 1) n else lsU f (s + 1) n
def bits (b : W) : List Nat := lsU (fun i => b.getLsbD i) 0 64
/-- integers that are no less than 0 -/
theorem i_wrap {n : Nat} (h : n < 9223372036854775808) : IntKind.i64.wrap (n : Int) = (n : Int) := by
  simp only [IntKind.wrap, IntKind.bits, IntKind.signed]
  simp
  omega
theorem ofI (a : Nat) : BitVec.ofInt 64 (a : Int) = BitVec.ofNat 64 a := by
  apply BitVec.eq_of_toNat_eq; simp
theorem i_and {a b : Nat} (ha : a < 9223372036854775808) (hb : b < 9223372036854775808) : IntKind.i64.wrap ((BitVec.ofInt IntKind.i64.bits (a : Int) &&& BitVec.ofInt IntKind.i64.bits (b : Int)).toNat : Int) = ((a &&& b : Nat) : Int) := by
  have e : (BitVec.ofInt IntKind.i64.bits (a : Int) &&& BitVec.ofInt IntKind.i64.bits (b : Int)).toNat = a &&& b := by
    show (BitVec.ofInt 64 (a : Int) &&& BitVec.ofInt 64 (b : Int)).toNat = _
    rw [ofI, ofI, BitVec.toNat_and, BitVec.toNat_ofNat, BitVec.toNat_ofNat, Nat.mod_eq_of_lt (by omega), Nat.mod_eq_of_lt (by omega)]
  rw [e]
  exact i_wrap (Nat.lt_of_le_of_lt Nat.and_le_left ha)
theorem i_or {a b : Nat} (ha : a < 9223372036854775808) (hb : b < 9223372036854775808) : IntKind.i64.wrap ((BitVec.ofInt IntKind.i64.bits (a : Int) ||| BitVec.ofInt IntKind.i64.bits (b : Int)).toNat : Int) = ((a ||| b : Nat) : Int) := by
  have e : (BitVec.ofInt IntKind.i64.bits (a : Int) ||| BitVec.ofInt IntKind.i64.bits (b : Int)).toNat = a ||| b := by
    show (BitVec.ofInt 64 (a : Int) ||| BitVec.ofInt 64 (b : Int)).toNat = _
    rw [ofI, ofI, BitVec.toNat_or, BitVec.toNat_ofNat, BitVec.toNat_ofNat, Nat.mod_eq_of_lt (by omega), Nat.mod_eq_of_lt (by omega)]
  rw [e]
  exact i_wrap (Nat.or_lt_two_pow (n := 63) ha hb)
theorem i_xor {a b : Nat} (ha : a < 9223372036854775808) (hb : b < 9223372036854775808) : IntKind.i64.wrap ((BitVec.ofInt IntKind.i64.bits (a : Int) ^^^ BitVec.ofInt IntKind.i64.bits (b : Int)).toNat : Int) = ((a ^^^ b : Nat) : Int) := by
  have e : (BitVec.ofInt IntKind.i64.bits (a : Int) ^^^ BitVec.ofInt IntKind.i64.bits (b : Int)).toNat = a ^^^ b := by
    show (BitVec.ofInt 64 (a : Int) ^^^ BitVec.ofInt 64 (b : Int)).toNat = _
    rw [ofI, ofI, BitVec.toNat_xor, BitVec.toNat_ofNat, BitVec.toNat_ofNat, Nat.mod_eq_of_lt (by omega), Nat.mod_eq_of_lt (by omega)]
  rw [e]
  exact i_wrap (Nat.xor_lt_two_pow (n := 63) ha hb)
/-- without -/
def andn (a b : Nat) : Nat := (BitVec.ofNat 64 a &&& ~~~BitVec.ofNat 64 b).toNat
theorem andn_bit {a b : Nat} (ha : a < 9223372036854775808) (i : Nat) : (andn a b).testBit i = (a.testBit i && !b.testBit i) := by
  show (BitVec.ofNat 64 a &&& ~~~BitVec.ofNat 64 b).getLsbD i = _
  rw [BitVec.getLsbD_and, BitVec.getLsbD_not, BitVec.getLsbD_ofNat, BitVec.getLsbD_ofNat]
  by_cases hi : i < 64
  · simp [hi]
  · have : a.testBit i = false := Nat.testBit_lt_two_pow (Nat.lt_of_lt_of_le ha (Nat.le_trans (by decide : 9223372036854775808 ≤ 2 ^ 64) (Nat.pow_le_pow_right (by decide) (by omega))))
    simp [hi, this]
theorem andn_le {a b : Nat} (ha : a < 9223372036854775808) : andn a b ≤ a := by
  have : andn a b = a &&& (andn a b) := by
    apply Nat.eq_of_testBit_eq; intro i
    rw [Nat.testBit_and, andn_bit ha]; cases a.testBit i <;> simp
  rw [this]; exact Nat.and_le_left
theorem i_andn {a b : Nat} (ha : a < 9223372036854775808) : IntKind.i64.wrap ((BitVec.ofInt IntKind.i64.bits (a : Int) &&& ~~~BitVec.ofInt IntKind.i64.bits (b : Int)).toNat : Int) = ((andn a b : Nat) : Int) := by
  have e : (BitVec.ofInt IntKind.i64.bits (a : Int) &&& ~~~BitVec.ofInt IntKind.i64.bits (b : Int)).toNat = andn a b := by
    show (BitVec.ofInt 64 (a : Int) &&& ~~~BitVec.ofInt 64 (b : Int)).toNat = _
    rw [ofI, ofI]; rfl
  rw [e]
  exact i_wrap (Nat.lt_of_le_of_lt (andn_le ha) ha)
theorem i_shl {a n : Nat} (h : n ≤ 62) (ha : a * 2 ^ n < 9223372036854775808) : IntKind.i64.wrap ((a : Int) * 2 ^ min ((n : Int)).toNat IntKind.i64.bits) = ((a * 2 ^ n : Nat) : Int) := by
  have e : min ((n : Int)).toNat IntKind.i64.bits = n := by show min n 64 = n; omega
  rw [e]
  have : (a : Int) * 2 ^ n = ((a * 2 ^ n : Nat) : Int) := by simp
  rw [this]; exact i_wrap ha
theorem i_shr {a n : Nat} (h : n ≤ 64) : (a : Int).fdiv (2 ^ min ((n : Int)).toNat IntKind.i64.bits) = ((a >>> n : Nat) : Int) := by
  have e : min ((n : Int)).toNat IntKind.i64.bits = n := by show min n 64 = n; omega
  rw [e, Nat.shiftRight_eq_div_pow, fdiv_pow]
theorem bit_01 (a n : Nat) : (a >>> n) &&& 1 = (a.testBit n).toNat := by
  simp [Nat.testBit, Nat.and_comm]
  rcases Nat.mod_two_eq_zero_or_one (a >>> n) with h | h <;> simp [Nat.and_one_is_mod, Nat.one_and_eq_mod_two, h]
end Go.Proofs.Sur

