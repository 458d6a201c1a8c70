/- Layer 2: sets of players as numbers. -/
import Derived.Test.YtnnhomkkggkkfaaDoorSuM
import Derived.Test.YtnnhomkkggkkfaaDoorVm7
set_option linter.unusedSimpArgs false
set_option linter.unusedVariables false
set_option linter.unnecessarySimpa false
namespace Go.Proofs.Rnk
open Go Go.VM
open Go.Proofs.Sur (andn andn_bit andn_le i_wrap i_and i_or i_andn i_shl i_shr bit_01)

abbrev ia (l : List Int) (i : Nat) : Int := l.getD i i0
abbrev lim (n : Nat) : Prop := n ≤ 9223372036854775807
abbrev bi (s : Int) (e : Nat) : Bool := s.toNat.testBit e
abbrev alls (n : Nat) : Nat := 2 ^ n - 1
theorem alls_bit {n i : Nat} : (alls n).testBit i = decide (i < n) := Nat.testBit_two_pow_sub_one n i
abbrev i64 (x : Int) : Prop := -9223372036854775808 ≤ x ∧ x < 9223372036854775808
abbrev s8 (x : Int) : Prop := 0 ≤ x ∧ x < 256
theorem all_succ {q : Nat → Prop} {j : Nat} (h : ∀ i, i < j → q i) (k : q j) : ∀ i, i < j + 1 → q i := fun i hi => by
  rcases Nat.lt_or_ge i j with h1 | h1
  · exact h i h1
  · have : i = j := by omega
    subst this; exact k
theorem wj1 {j : Nat} (h : j < 9223372036854775807) : IntKind.i64.wrap ((j : Int) + 1) = ((j + 1 : Nat) : Int) := by rw [wr _ (by omega) (by omega)]; omega
theorem pw_shl {n : Nat} (h : n ≤ 62) : IntKind.i64.wrap (1 * 2 ^ min ((n : Int)).toNat IntKind.i64.bits) = ((2 ^ n : Nat) : Int) := by
  have := i_shl (a := 1) (n := n) h (by
    have : 2 ^ n ≤ 2 ^ 62 := Nat.pow_le_pow_right (by decide) h
    omega)
  rw [Nat.one_mul] at this
  exact this
theorem pw_alls {n : Nat} (h : n ≤ 8) : IntKind.i64.wrap (((2 ^ n : Nat) : Int) - 1) = ((alls n : Nat) : Int) := by
  have p8 : 2 ^ n ≤ 2 ^ 8 := Nat.pow_le_pow_right (by decide) h
  have p0 := Nat.two_pow_pos n
  rw [wr _ (by omega) (by omega)]; simp only [alls]; omega
theorem i_bit {a n : Nat} (ha : a < 9223372036854775808) : IntKind.i64.wrap ((BitVec.ofInt IntKind.i64.bits ((a >>> n : Nat) : Int) &&& BitVec.ofInt IntKind.i64.bits 1).toNat : Int) = ((a.testBit n).toNat : Int) := by
  have h : a >>> n < 9223372036854775808 := Nat.lt_of_le_of_lt (by rw [Nat.shiftRight_eq_div_pow]; exact Nat.div_le_self _ _) ha
  have := i_and (a := a >>> n) (b := 1) h (by decide)
  rw [bit_01] at this
  exact this
theorem i_bitv {x : Int} {n : Nat} (h0 : s8 x) (hn : n ≤ 64) (b : Bool) (hb : bi x n = b) :
    x.fdiv (2 ^ min ((n : Int)).toNat IntKind.i64.bits) = ((x.toNat >>> n : Nat) : Int) ∧ IntKind.i64.wrap ((BitVec.ofInt IntKind.i64.bits ((x.toNat >>> n : Nat) : Int) &&& BitVec.ofInt IntKind.i64.bits 1).toNat : Int) = ((b.toNat : Nat) : Int) := by
  obtain ⟨a, rfl⟩ : ∃ a : Nat, x = a := ⟨x.toNat, by omega⟩
  simp only [Int.toNat_natCast] at *
  refine ⟨i_shr hn, ?_⟩
  rw [i_bit (by omega)]
  rw [bi, Int.toNat_natCast] at hb
  rw [hb]
theorem i_bit1 {x : Int} {n : Nat} (h0 : s8 x) (hn : n ≤ 64) (hb : bi x n = true) :
    x.fdiv (2 ^ min ((n : Int)).toNat IntKind.i64.bits) = ((x.toNat >>> n : Nat) : Int) ∧ IntKind.i64.wrap ((BitVec.ofInt IntKind.i64.bits ((x.toNat >>> n : Nat) : Int) &&& BitVec.ofInt IntKind.i64.bits 1).toNat : Int) = 1 := i_bitv h0 hn true hb
theorem i_bit0 {x : Int} {n : Nat} (h0 : s8 x) (hn : n ≤ 64) (hb : bi x n = false) :
    x.fdiv (2 ^ min ((n : Int)).toNat IntKind.i64.bits) = ((x.toNat >>> n : Nat) : Int) ∧ IntKind.i64.wrap ((BitVec.ofInt IntKind.i64.bits ((x.toNat >>> n : Nat) : Int) &&& BitVec.ofInt IntKind.i64.bits 1).toNat : Int) = 0 := i_bitv h0 hn false hb
abbrev rw_ (x : Int) (n : Nat) : Int := IntKind.i64.wrap ((BitVec.ofInt IntKind.i64.bits x &&& ~~~BitVec.ofInt IntKind.i64.bits ((alls n : Nat) : Int)).toNat : Int)
theorem wrap_bv (b : BitVec 64) : IntKind.i64.wrap (b.toNat : Int) = b.toInt := by
  simp only [IntKind.wrap, IntKind.bits, IntKind.signed, BitVec.toInt]
  simp
  have := b.isLt
  split <;> omega
theorem rw_0 {x : Int} {n : Nat} (hn : n ≤ 8) (hx : i64 x) : rw_ x n = 0 ↔ 0 ≤ x ∧ x < ((2 ^ n : Nat) : Int) := by
  have p6 : 2 ^ n ≤ 2 ^ 8 := Nat.pow_le_pow_right (by decide) hn
  have p0 := Nat.two_pow_pos n
  have e : rw_ x n = (BitVec.ofInt 64 x &&& ~~~BitVec.ofInt 64 ((alls n : Nat) : Int)).toInt := wrap_bv _
  rw [e]
  have hm : (BitVec.ofInt 64 ((alls n : Nat) : Int)).toNat = alls n := by
    rw [BitVec.toNat_ofInt]; simp only [alls]; omega
  constructor
  · intro h
    have h0 : BitVec.ofInt 64 x &&& ~~~BitVec.ofInt 64 ((alls n : Nat) : Int) = 0#64 := BitVec.eq_of_toInt_eq (by rw [h]; rfl)
    have h1 : BitVec.ofInt 64 x &&& BitVec.ofInt 64 ((alls n : Nat) : Int) = BitVec.ofInt 64 x := by
      ext i hi
      have := congrArg (fun b => b.getLsbD i) h0
      simp only [BitVec.getLsbD_and, BitVec.getLsbD_not, hi, decide_true, Bool.true_and, BitVec.getLsbD_zero] at this
      simp only [BitVec.getElem_and]
      rw [← BitVec.getLsbD_eq_getElem, ← BitVec.getLsbD_eq_getElem]
      cases p : (BitVec.ofInt 64 x).getLsbD i <;> cases q : (BitVec.ofInt 64 ((alls n : Nat) : Int)).getLsbD i <;> simp_all
    have h2 := congrArg BitVec.toNat h1
    rw [BitVec.toNat_and, hm] at h2
    have h3 : (BitVec.ofInt 64 x).toNat ≤ alls n := by rw [← h2]; exact Nat.and_le_right
    rw [BitVec.toNat_ofInt] at h3
    simp only [alls] at h3
    omega
  · rintro ⟨h1, h2⟩
    obtain ⟨a, rfl⟩ : ∃ a : Nat, x = a := ⟨x.toNat, by omega⟩
    have ha : a < 2 ^ n := by omega
    have := i_andn (a := a) (b := alls n) (by omega)
    rw [← e]
    show rw_ _ _ = 0
    rw [rw_, this]
    have : andn a (alls n) = 0 := by
      apply Nat.eq_of_testBit_eq; intro i
      rw [andn_bit (by omega), alls_bit, Nat.zero_testBit]
      by_cases q : i < n
      · simp [q]
      · rw [Nat.testBit_lt_two_pow (Nat.lt_of_lt_of_le ha (Nat.pow_le_pow_right (by decide) (by omega)))]; rfl
    rw [this]; rfl

/-! ### tournaments -/
abbrev inI (o : List Int) : Prop := ∀ i, i < o.length → i64 (ia o i)
abbrev q1 (t : List Int) (i : Nat) : Prop := 0 ≤ ia t i ∧ ia t i < ((2 ^ t.length : Nat) : Int)
abbrev q2 (t : List Int) (i : Nat) : Prop := bi (ia t i) i = false
abbrev q3 (t : List Int) (i j : Nat) : Prop := bi (ia t i) j ≠ bi (ia t j) i
abbrev q4 (t : List Int) (i : Nat) : Prop := ∀ j, j < i → q3 t i j
abbrev q5 (t : List Int) (i : Nat) : Prop := (q1 t i ∧ q2 t i) ∧ q4 t i
abbrev sz (t : List Int) : Prop := 1 ≤ t.length ∧ t.length ≤ 8
structure Tn (t : List Int) : Prop where
  s : sz t
  q : ∀ i, i < t.length → q5 t i
open Classical in
noncomputable def tnB (t : List Int) : Bool := decide (Tn t)
theorem tn_t {t : List Int} (h : Tn t) : tnB t = true := by simp only [tnB, decide_eq_true_eq]; exact h
theorem tn_f {t : List Int} (h : ¬ Tn t) : tnB t = false := by simp only [tnB, decide_eq_false_iff_not]; exact h
theorem pow8 {n : Nat} (h : n ≤ 8) : 2 ^ n ≤ 256 := Nat.pow_le_pow_right (by decide) h
theorem q1_s8 {t : List Int} {i : Nat} (hs : t.length ≤ 8) (h : q1 t i) : s8 (ia t i) := ⟨h.1, by have := pow8 hs; have := h.2; omega⟩
theorem Tn.s8 {t : List Int} (h : Tn t) (i : Nat) : s8 (ia t i) := by
  rcases Nat.lt_or_ge i t.length with q | q
  · exact q1_s8 h.s.2 (h.q i q).1.1
  · have : ia t i = 0 := by simp [ia, List.getD_eq_getElem?_getD, List.getElem?_eq_none q, i0]
    rw [this]; decide
theorem ia_out {t : List Int} {i : Nat} (q : t.length ≤ i) : ia t i = 0 := by simp [ia, List.getD_eq_getElem?_getD, List.getElem?_eq_none q, i0]
abbrev bt (t : List Int) (i j : Nat) : Bool := bi (ia t i) j
theorem Tn.lt {t : List Int} (h : Tn t) {i j : Nat} (k : bt t i j = true) : i < t.length ∧ j < t.length := by
  rcases Nat.lt_or_ge i t.length with q | q
  · refine ⟨q, ?_⟩
    have := (h.q i q).1.1
    rcases Nat.lt_or_ge j t.length with q2 | q2
    · exact q2
    · have h1 : (ia t i).toNat < 2 ^ j := by
        have : 2 ^ t.length ≤ 2 ^ j := Nat.pow_le_pow_right (by decide) q2
        omega
      have := Nat.testBit_lt_two_pow h1
      have k : (ia t i).toNat.testBit j = true := k
      rw [this] at k; cases k
  · have k : (ia t i).toNat.testBit j = true := k
    rw [ia_out q] at k
    simp at k
theorem Tn.irr {t : List Int} (h : Tn t) (i : Nat) : bt t i i = false := by
  rcases Nat.lt_or_ge i t.length with q | q
  · exact (h.q i q).1.2
  · show (ia t i).toNat.testBit i = false
    rw [ia_out q]; simp
theorem Tn.tot {t : List Int} (h : Tn t) {i j : Nat} (hi : i < t.length) (hj : j < t.length) (hne : i ≠ j) : bt t i j = !bt t j i := by
  rcases Nat.lt_or_ge j i with q | q
  · have := (h.q i hi).2 j q
    show bi (ia t i) j = !bi (ia t j) i
    revert this
    simp only [q3]
    cases bi (ia t i) j <;> cases bi (ia t j) i <;> simp
  · have := (h.q j hj).2 i (by omega)
    show bi (ia t i) j = !bi (ia t j) i
    revert this
    simp only [q3]
    cases bi (ia t i) j <;> cases bi (ia t j) i <;> simp
end Go.Proofs.Rnk

