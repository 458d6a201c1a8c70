/- Layer 4: sets of concepts as lists. -/
import Derived.Test.YtdnidpojcocklaaDoorLnF
import Derived.Test.YtdnidpojcocklaaDoorLnH
import Derived.KernelRfl
set_option linter.unusedSimpArgs false
set_option linter.unusedVariables false
set_option linter.unnecessarySimpa false
set_option maxHeartbeats 4000000
set_option maxRecDepth 100000
namespace Go.Proofs.Lrn
open Go Go.VM

theorem shr_nat (n j : Nat) (h : j ≤ 64) : (n : Int).fdiv (2 ^ min ((j : Int)).toNat IntKind.i64.bits) = ((n / 2 ^ j : Nat) : Int) := by
  have e : min ((j : Int)).toNat IntKind.i64.bits = j := by
    have : IntKind.i64.bits = 64 := rfl
    rw [this]; simp; omega
  rw [e]
  have e2 : (2 : Int) ^ j = ((2 ^ j : Nat) : Int) := by simp
  rw [e2]
  exact fd n (2 ^ j)
theorem and1 {n : Nat} (h : n < 18446744073709551616) : IntKind.i64.wrap ((BitVec.ofInt IntKind.i64.bits (n : Int) &&& BitVec.ofInt IntKind.i64.bits (1 : Int)).toNat : Int) = ((n % 2 : Nat) : Int) := by
  have e : (BitVec.ofInt IntKind.i64.bits (n : Int) &&& BitVec.ofInt IntKind.i64.bits (1 : Int)).toNat = n % 2 := by
    show (BitVec.ofInt 64 (n : Int) &&& BitVec.ofInt 64 (1 : Int)).toNat = _
    have e1 : (BitVec.ofInt 64 (n : Int)).toNat = n := by
      simp
      omega
    rw [BitVec.toNat_and, e1]
    exact Nat.and_two_pow_sub_one_eq_mod n 1
  rw [e]
  exact wr _ (by omega) (by omega)
theorem hv_all : ((List.range 5).all fun x => (List.range 32).all fun c => (hv (x : Int)).getLsbD c == c.testBit x) = true := by kernel_rfl
theorem hv_bit {x c : Nat} (hx : x < 5) (hc : c < 32) : (hv (x : Int)).getLsbD c = c.testBit x := by
  have := List.all_eq_true.1 (List.all_eq_true.1 hv_all x (List.mem_range.2 hx)) c (List.mem_range.2 hc)
  simpa using this
theorem bt_bit {c : Int} (h0 : 0 ≤ c) (h1 : c < 32) {i : Nat} (hi : i < 32) : (bt c).getLsbD i = decide ((i : Int) = c) := by
  obtain ⟨n, rfl⟩ : ∃ n : Nat, c = n := ⟨c.toNat, by omega⟩
  simp only [bt, Int.toNat_natCast, BitVec.getLsbD_ofNat, Nat.testBit_two_pow]
  simp [hi]
  omega
theorem fold_bit {i : Nat} (hi : i < 32) : ∀ (l : List Int) (s : BitVec 32), (∀ c ∈ l, 0 ≤ c ∧ c < 32) → (l.foldl (fun s c => s ||| bt c) s).getLsbD i = (s.getLsbD i || decide ((i : Int) ∈ l))
  | [], s, _ => by simp
  | c :: l, s, h => by
    rw [List.foldl_cons, fold_bit hi l _ (fun d hd => h d (by simp [hd])), BitVec.getLsbD_or]
    have hc := h c (by simp)
    rw [bt_bit hc.1 hc.2 hi]
    simp only [List.mem_cons, Bool.decide_or, Bool.or_assoc]
/-- a concept is in the set where it is in the list -/
theorem sOf_bit {l : List Int} (h : ∀ c ∈ l, 0 ≤ c ∧ c < 32) {i : Nat} (hi : i < 32) : (sOf l).getLsbD i = decide ((i : Int) ∈ l) := by
  rw [sOf, fold_bit hi l _ h]; simp
theorem pt_bit {b : BitVec 32} {x c : Nat} {y : Int} (hx : x < 5) (hc : c < 32) (hy : y = 0 ∨ y = 1) : (pt b (x : Int) y).getLsbD c = (b.getLsbD c && decide (((c / 2 ^ x % 2 : Nat) : Int) = y)) := by
  have hb := hv_bit hx hc
  rw [Nat.testBit_eq_decide_div_mod_eq] at hb
  rcases hy with rfl | rfl
  · have e : pt b (x : Int) 0 = b &&& ~~~ hv x := rfl
    rw [e, BitVec.getLsbD_and, BitVec.getLsbD_not, hb]
    have h2 : c / 2 ^ x % 2 < 2 := Nat.mod_lt _ (by decide)
    simp only [hc, decide_true, Bool.true_and]
    congr 1
    by_cases h : c / 2 ^ x % 2 = 1
    · simp [h]
    · have : c / 2 ^ x % 2 = 0 := by omega
      simp [this]
  · have e : pt b (x : Int) 1 = b &&& hv x := rfl
    rw [e, BitVec.getLsbD_and, hb]
    congr 1
    apply decide_eq_decide.2
    omega
theorem cls_in {p : Int} {l : List Int} (h : cls p l) : ∀ c ∈ l, 0 ≤ c ∧ c < 32 := by
  intro c hc
  obtain ⟨i, h1, rfl⟩ := mem_iff.1 hc
  have := (h.2.2.2 i h1).1
  have := tw_bd (p := p)
  obtain ⟨_, _⟩ := (h.2.2.2 i h1).1
  omega
theorem cb_one {k : Nat} : ∀ n, cb (fun i => decide (i = k)) n = if k < n then 1 else 0
  | 0 => rfl
  | n + 1 => by
    simp only [cb]
    rw [cb_one n]
    by_cases h : n = k
    · subst h; simp
    · by_cases h2 : k < n
      · simp [h, h2]; omega
      · have : ¬ k < n + 1 := by omega
        simp [h, h2, this]
end Go.Proofs.Lrn

