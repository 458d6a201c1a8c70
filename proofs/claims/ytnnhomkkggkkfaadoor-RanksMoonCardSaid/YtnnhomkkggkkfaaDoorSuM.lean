/- Joined: SuM, RkA. -/
import Derived.Test.YtnnhomkkggkkfaaDoorVm8
import Derived.Test.YtnnhomkkggkkfaaDoorVm7
import Derived.Test.YtnnhomkkggkkfaaDoorVm2
import Derived.Test.YtnnhomkkggkkfaaDoorProg
import Derived.KernelRfl
set_option linter.unusedSimpArgs false
set_option linter.unusedVariables false
set_option linter.unnecessarySimpa false
section
namespace Go.Proofs.Sur
open Go Go.VM

abbrev W := BitVec 64
theorem w_wrap {n : Nat} (h : n < 18446744073709551616) : IntKind.u64.wrap (n : Int) = (n : Int) := by
  simp only [IntKind.wrap, IntKind.bits, IntKind.signed]
  simp
  omega
@[simp] theorem w_inj (a b : W) : ((a.toNat : Int) = (b.toNat : Int)) ↔ a = b := by
  constructor
  · intro h; exact BitVec.eq_of_toNat_eq (by omega)
  · rintro rfl; rfl
theorem fdiv_pow (a n : Nat) : (a : Int).fdiv (2 ^ n) = ((a / 2 ^ n : Nat) : Int) := by
  have : (2 : Int) ^ n = ((2 ^ n : Nat) : Int) := by simp
  rw [this]
  exact (Int.ofNat_fdiv a (2 ^ n)).symm
def fst (f : Nat → Bool) : Nat → Nat → Nat
  | s, 0 => s
  | s, n + 1 => if f s then s else fst f (s + 1) n
def lsU (f : Nat → Bool) : Nat → Nat → List Nat
  | _, 0 => []
  | s, n + 1 => if f s then s :: lsU f (s + 1) n else lsU f (s + 1) n
def bits (b : W) : List Nat := lsU (fun i => b.getLsbD i) 0 64
theorem i_wrap {n : Nat} (h : n < 9223372036854775808) : IntKind.i64.wrap (n : Int) = (n : Int) := by
  simp only [IntKind.wrap, IntKind.bits, IntKind.signed]
  simp
  omega
theorem ofI (a : Nat) : BitVec.ofInt 64 (a : Int) = BitVec.ofNat 64 a := by
  apply BitVec.eq_of_toNat_eq; simp
theorem i_and {a b : Nat} (ha : a < 9223372036854775808) (hb : b < 9223372036854775808) : IntKind.i64.wrap ((BitVec.ofInt IntKind.i64.bits (a : Int) &&& BitVec.ofInt IntKind.i64.bits (b : Int)).toNat : Int) = ((a &&& b : Nat) : Int) := by
  have e : (BitVec.ofInt IntKind.i64.bits (a : Int) &&& BitVec.ofInt IntKind.i64.bits (b : Int)).toNat = a &&& b := by
    show (BitVec.ofInt 64 (a : Int) &&& BitVec.ofInt 64 (b : Int)).toNat = _
    rw [ofI, ofI, BitVec.toNat_and, BitVec.toNat_ofNat, BitVec.toNat_ofNat, Nat.mod_eq_of_lt (by omega), Nat.mod_eq_of_lt (by omega)]
  rw [e]
  exact i_wrap (Nat.lt_of_le_of_lt Nat.and_le_left ha)
theorem i_or {a b : Nat} (ha : a < 9223372036854775808) (hb : b < 9223372036854775808) : IntKind.i64.wrap ((BitVec.ofInt IntKind.i64.bits (a : Int) ||| BitVec.ofInt IntKind.i64.bits (b : Int)).toNat : Int) = ((a ||| b : Nat) : Int) := by
  have e : (BitVec.ofInt IntKind.i64.bits (a : Int) ||| BitVec.ofInt IntKind.i64.bits (b : Int)).toNat = a ||| b := by
    show (BitVec.ofInt 64 (a : Int) ||| BitVec.ofInt 64 (b : Int)).toNat = _
    rw [ofI, ofI, BitVec.toNat_or, BitVec.toNat_ofNat, BitVec.toNat_ofNat, Nat.mod_eq_of_lt (by omega), Nat.mod_eq_of_lt (by omega)]
  rw [e]
  exact i_wrap (Nat.or_lt_two_pow (n := 63) ha hb)
theorem i_xor {a b : Nat} (ha : a < 9223372036854775808) (hb : b < 9223372036854775808) : IntKind.i64.wrap ((BitVec.ofInt IntKind.i64.bits (a : Int) ^^^ BitVec.ofInt IntKind.i64.bits (b : Int)).toNat : Int) = ((a ^^^ b : Nat) : Int) := by
  have e : (BitVec.ofInt IntKind.i64.bits (a : Int) ^^^ BitVec.ofInt IntKind.i64.bits (b : Int)).toNat = a ^^^ b := by
    show (BitVec.ofInt 64 (a : Int) ^^^ BitVec.ofInt 64 (b : Int)).toNat = _
    rw [ofI, ofI, BitVec.toNat_xor, BitVec.toNat_ofNat, BitVec.toNat_ofNat, Nat.mod_eq_of_lt (by omega), Nat.mod_eq_of_lt (by omega)]
  rw [e]
  exact i_wrap (Nat.xor_lt_two_pow (n := 63) ha hb)
def andn (a b : Nat) : Nat := (BitVec.ofNat 64 a &&& ~~~BitVec.ofNat 64 b).toNat
theorem andn_bit {a b : Nat} (ha : a < 9223372036854775808) (i : Nat) : (andn a b).testBit i = (a.testBit i && !b.testBit i) := by
  show (BitVec.ofNat 64 a &&& ~~~BitVec.ofNat 64 b).getLsbD i = _
  rw [BitVec.getLsbD_and, BitVec.getLsbD_not, BitVec.getLsbD_ofNat, BitVec.getLsbD_ofNat]
  by_cases hi : i < 64
  · simp [hi]
  · have : a.testBit i = false := Nat.testBit_lt_two_pow (Nat.lt_of_lt_of_le ha (Nat.le_trans (by decide : 9223372036854775808 ≤ 2 ^ 64) (Nat.pow_le_pow_right (by decide) (by omega))))
    simp [hi, this]
theorem andn_le {a b : Nat} (ha : a < 9223372036854775808) : andn a b ≤ a := by
  have : andn a b = a &&& (andn a b) := by
    apply Nat.eq_of_testBit_eq; intro i
    rw [Nat.testBit_and, andn_bit ha]; cases a.testBit i <;> simp
  rw [this]; exact Nat.and_le_left
theorem i_andn {a b : Nat} (ha : a < 9223372036854775808) : IntKind.i64.wrap ((BitVec.ofInt IntKind.i64.bits (a : Int) &&& ~~~BitVec.ofInt IntKind.i64.bits (b : Int)).toNat : Int) = ((andn a b : Nat) : Int) := by
  have e : (BitVec.ofInt IntKind.i64.bits (a : Int) &&& ~~~BitVec.ofInt IntKind.i64.bits (b : Int)).toNat = andn a b := by
    show (BitVec.ofInt 64 (a : Int) &&& ~~~BitVec.ofInt 64 (b : Int)).toNat = _
    rw [ofI, ofI]; rfl
  rw [e]
  exact i_wrap (Nat.lt_of_le_of_lt (andn_le ha) ha)
theorem i_shl {a n : Nat} (h : n ≤ 62) (ha : a * 2 ^ n < 9223372036854775808) : IntKind.i64.wrap ((a : Int) * 2 ^ min ((n : Int)).toNat IntKind.i64.bits) = ((a * 2 ^ n : Nat) : Int) := by
  have e : min ((n : Int)).toNat IntKind.i64.bits = n := by show min n 64 = n; omega
  rw [e]
  have : (a : Int) * 2 ^ n = ((a * 2 ^ n : Nat) : Int) := by simp
  rw [this]; exact i_wrap ha
theorem i_shr {a n : Nat} (h : n ≤ 64) : (a : Int).fdiv (2 ^ min ((n : Int)).toNat IntKind.i64.bits) = ((a >>> n : Nat) : Int) := by
  have e : min ((n : Int)).toNat IntKind.i64.bits = n := by show min n 64 = n; omega
  rw [e, Nat.shiftRight_eq_div_pow, fdiv_pow]
theorem bit_01 (a n : Nat) : (a >>> n) &&& 1 = (a.testBit n).toNat := by
  simp [Nat.testBit, Nat.and_comm]
  rcases Nat.mod_two_eq_zero_or_one (a >>> n) with h | h <;> simp [Nat.and_one_is_mod, Nat.one_and_eq_mod_two, h]
end Go.Proofs.Sur
end
section
set_option maxHeartbeats 4000000
set_option maxRecDepth 100000
namespace Go.Proofs.Rnk
open Go Go.VM

theorem mixed : Tryd.prog.follows .mixedOrders = true := by kernel_rfl
abbrev dbs : List Value := [.int .u8 0, .int .u8 1, .int .u8 56, .int .u8 2, .int .u8 57, .int .u8 49, .int .u8 28, .int .u8 3, .int .u8 61, .int .u8 58, .int .u8 42, .int .u8 50, .int .u8 38, .int .u8 29, .int .u8 17, .int .u8 4, .int .u8 62, .int .u8 47, .int .u8 59, .int .u8 36, .int .u8 45, .int .u8 43, .int .u8 51, .int .u8 22, .int .u8 53, .int .u8 39, .int .u8 33, .int .u8 30, .int .u8 24, .int .u8 18, .int .u8 12, .int .u8 5, .int .u8 63, .int .u8 55, .int .u8 48, .int .u8 27, .int .u8 60, .int .u8 41, .int .u8 37, .int .u8 16, .int .u8 46, .int .u8 35, .int .u8 44, .int .u8 21, .int .u8 52, .int .u8 32, .int .u8 23, .int .u8 11, .int .u8 54, .int .u8 26, .int .u8 40, .int .u8 15, .int .u8 34, .int .u8 20, .int .u8 31, .int .u8 10, .int .u8 25, .int .u8 14, .int .u8 19, .int .u8 9, .int .u8 13, .int .u8 8, .int .u8 7, .int .u8 6]
instance : Inhabited Globs := ⟨⟨fun g => match g with | 1 => dbs | _ => [], fun _ => false⟩⟩
def lo (s : Nat) : Nat := Sur.fst (fun i => s.testBit i) 0 8
def pc (s : Nat) : Nat := ((List.range 8).filter fun i => s.testBit i).length
def resIs (r : Option (AV × H)) (v : AV) : Bool :=
  match r with
  | some (x, h) => AV.beq x v && H.beq h .nil
  | none => false
theorem resIs_ok {r : Option (AV × H)} {v : AV} (h : resIs r v = true) : r = some (v, .nil) := by
  unfold resIs at h
  split at h
  · simp only [Bool.and_eq_true] at h
    rw [AV.beq_eq _ _ h.1, H.beq_eq h.2]
  · cases h
noncomputable def run96 (s : Nat) : Bool := resIs (deepW Tryd.prog (fun _ => false) (fun _ => false) 100 3 0 96 [.int .u64 s] .nil) (.int .i64 (lo s : Nat))
theorem all96 : (List.range 255).all (fun s => run96 (s + 1)) = true := by kernel_rfl
theorem r96 {s : Nat} (h : 0 < s ∧ s < 256) : CallOk Tryd.prog 96 [.int .u64 s] .nil (.int .i64 (lo s : Nat)) .nil := by
  have h1 := List.all_eq_true.1 all96 (s - 1) (List.mem_range.2 (by omega))
  rw [show s - 1 + 1 = s by omega] at h1
  have h2 := deepW_ok (P := Tryd.prog) mixed 3 0 _ _ _ _ _ (resIs_ok h1)
  exact pure_callB h2.2 rfl rfl .nil
theorem call96 : callable Tryd.prog 96 = true := by kernel_rfl
noncomputable def c96 : PCtr Tryd.prog where
  f := 96
  X := Nat
  args s := [.int .u64 s]
  pre s := 0 < s ∧ s < 256
  v s := I (lo s : Nat)
  det := by
    intro x y e _ _
    simp only [List.cons.injEq, AV.int.injEq, true_and, and_true] at e
    rw [show x = y by omega]
  ok s hs := ⟨call96, fun h => (pure_call (r96 hs) rfl rfl h).wk⟩
end Go.Proofs.Rnk
end
