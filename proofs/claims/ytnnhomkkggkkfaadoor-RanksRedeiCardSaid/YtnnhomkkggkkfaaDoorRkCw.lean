/- Joined: RkCw, RkP. -/
import Derived.Test.YtnnhomkkggkkfaaDoorRkCu
import Derived.Test.YtnnhomkkggkkfaaDoorRkM
import Derived.Test.YtnnhomkkggkkfaaDoorVm9
import Derived.Test.YtnnhomkkggkkfaaDoorRows
import Derived.KernelRfl
set_option linter.unusedSimpArgs false
set_option linter.unusedVariables false
set_option linter.unnecessarySimpa false
section
set_option maxHeartbeats 4000000
set_option maxRecDepth 100000
namespace Go.Proofs.Rnk
def pb (x : Nat) : Bool := decide (x % 2 = 1)
theorem pb_add (a b : Nat) : pb (a + b) = (pb a).xor (pb b) := by
  simp only [pb]
  rcases Nat.mod_two_eq_zero_or_one a with h | h <;> rcases Nat.mod_two_eq_zero_or_one b with g | g <;> simp [Nat.add_mod, h, g]
theorem wsF_pb {A : Nat → Nat} {n f : Nat} {fr : Int} {m : Nat} : ∀ k, pb (wsF A n f fr m k) = xs (fun i => nxt A fr m i && pb (wsM A n f (i : Int) (m ||| 2 ^ i))) k
  | 0 => rfl
  | k + 1 => by
    rw [wsF, pb_add, wsF_pb k, xs]
    congr 1
    cases nxt A fr m k <;> simp [pb]
abbrev dgA (A : Nat → Nat) (x y : Nat) : Bool := (A x).testBit y
theorem xs_more {g : Nat → Bool} {n : Nat} (hn : n ≤ 8) (h : ∀ i, n ≤ i → g i = false) : xs g n = xs g 8 := by
  have key : ∀ k, xs g (n + k) = xs g n := fun k => by
    induction k with
    | zero => rfl
    | succ k ih => rw [← Nat.add_assoc, xs, ih, h (n + k) (by omega)]; simp
  rw [← key (8 - n), show n + (8 - n) = 8 by omega]
theorem ws_wp {A : Nat → Nat} {n : Nat} (hn : n ≤ 8) : ∀ (f a m S : Nat), a < 8 → S < 256 → pc S = f → S.testBit a = false → m.testBit a = true → (∀ i, S.testBit i = true ↔ i < n ∧ m.testBit i = false) → pb (wsM A n f (a : Int) m) = wp (dgA A) f (S ||| 2 ^ a) a
  | 0, a, m, S, ha, hS, hp1, h1, _, _ => by
    have : S = 0 := pc_zero hS hp1
    subst this
    simp [wsM, pb, wp]
  | f + 1, a, m, S, ha, hS, hp1, h1, hma, hb => by
    have e1 : (S ||| 2 ^ a).testBit a = true := by simp
    rw [wsM_go, wsF_pb, wp, e1, or_xor h1, Bool.true_and]
    have key : ∀ i, i < n → (nxt A (a : Int) m i && pb (wsM A n f (i : Int) (m ||| 2 ^ i))) = (dgA A a i && wp (dgA A) f S i) := fun i hi => by
      have h0 : decide ((a : Int) < 0) = false := by simp
      rw [nxt, h0, Bool.false_or, Int.toNat_natCast]
      cases c : S.testBit i
      · have hm : m.testBit i = true := by
          cases d : m.testBit i
          · have := (hb i).2 ⟨hi, d⟩; rw [c] at this; cases this
          · rfl
        have hw : wp (dgA A) f S i = false := by
          cases d : wp (dgA A) f S i
          · rfl
          · have := wp_in d; rw [c] at this; cases this
        rw [hm, hw]; simp
      · have hm := ((hb i).1 c).2
        have hi8 := bit_lt8 hS c
        have hx : S ^^^ 2 ^ i < 256 := Nat.xor_lt_two_pow (n := 8) hS (Nat.pow_lt_pow_right (by decide) hi8)
        have hxm : (S ^^^ 2 ^ i).testBit i = false := by rw [Nat.testBit_xor, Nat.testBit_two_pow, c]; simp
        have hor : (S ^^^ 2 ^ i) ||| 2 ^ i = S := by
          apply Nat.eq_of_testBit_eq
          intro k
          rw [Nat.testBit_or, Nat.testBit_xor, Nat.testBit_two_pow]
          by_cases d : i = k
          · subst d; rw [c]; simp
          · simp [d]
        have hpc := pc_add hx hi8 hxm
        rw [hor] at hpc
        have := ws_wp (A := A) hn f i (m ||| 2 ^ i) (S ^^^ 2 ^ i) hi8 hx (by omega) hxm (by simp) fun k => by
          rw [Nat.testBit_xor, Nat.testBit_or, Nat.testBit_two_pow]
          have hk := hb k
          by_cases d : i = k
          · subst d; rw [c]; simp
          · simp [d]; exact hk
        rw [this, hor, hm]; simp
    rw [xs_congr key]
    exact xs_more hn fun i hi => by
      cases d : wp (dgA A) f S i
      · simp
      · have := ((hb i).1 (wp_in d)).1; omega
theorem odd_ways : OddWays := fun t h => by
  have h8 := h.s.2
  have h1 := h.s.1
  have hA := alls_lt h8
  obtain ⟨f, hf⟩ : ∃ f, t.length = f + 1 := ⟨t.length - 1, by omega⟩
  have hpc := pc_allsY t.length (by omega)
  have hodd := odd_hp f (dgA (sn t)) (alls t.length) hA (by omega) fun x y hx hy hne => by
    rw [alls_bit] at hx hy
    exact h.tot (by simpa using hx) (by simpa using hy) hne
  have key : pb (waysR t) = hp (dgA (sn t)) f (alls t.length) := by
    have e : waysR t = wsF (sn t) t.length f (-1) 0 t.length := by
      show wsM (sn t) t.length t.length (-1) 0 = _
      conv => lhs; arg 3; rw [hf]
      rw [wsM_go]
    rw [e, wsF_pb, hp, ← xs_more h8 (g := fun a => wp (dgA (sn t)) f (alls t.length) a) fun i hi => by
      cases d : wp (dgA (sn t)) f (alls t.length) i
      · rfl
      · have := wp_in d; rw [alls_bit] at this; simp at this; omega]
    refine xs_congr fun i hi => ?_
    have hi8 : i < 8 := by omega
    have c : (alls t.length).testBit i = true := by rw [alls_bit]; simpa using hi
    have hx : alls t.length ^^^ 2 ^ i < 256 := Nat.xor_lt_two_pow (n := 8) hA (Nat.pow_lt_pow_right (by decide) hi8)
    have hxm : (alls t.length ^^^ 2 ^ i).testBit i = false := by rw [Nat.testBit_xor, Nat.testBit_two_pow, c]; simp
    have hor : (alls t.length ^^^ 2 ^ i) ||| 2 ^ i = alls t.length := by
      apply Nat.eq_of_testBit_eq
      intro k
      rw [Nat.testBit_or, Nat.testBit_xor, Nat.testBit_two_pow]
      by_cases d : i = k
      · subst d; rw [c]; simp
      · simp [d]
    have hpc2 := pc_add hx hi8 hxm
    rw [hor] at hpc2
    have := ws_wp (A := sn t) h8 f i (0 ||| 2 ^ i) (alls t.length ^^^ 2 ^ i) hi8 hx (by omega) hxm (by simp) fun k => by
      rw [Nat.testBit_xor, Nat.testBit_two_pow, alls_bit]
      by_cases d : i = k
      · subst d; simp [hi]
      · simp [d]
    rw [this, hor]
    simp [nxt]
  rw [hodd] at key
  simpa [pb] using key
end Go.Proofs.Rnk
end
section
set_option maxRecDepth 100000
namespace Go.Proofs.Rnk
open Go Go.VM

theorem globs_ok {W : World} (h : laidMet Tryd.prog [("math/bits.deBruijn32tab", YtnnhomkkggkkfaaDoor.Rows.laid_math_bits_deBruijn32tab), ("math/bits.deBruijn64tab", YtnnhomkkggkkfaaDoor.Rows.laid_math_bits_deBruijn64tab)] W) : GlobOk (.ofCells (Go.VM.seen W)) := by
  obtain ⟨ps, hL, _, _⟩ := h
  have h1 := laid_ints (zs := [0, 1, 28, 2, 29, 14, 24, 3, 30, 22, 20, 15, 25, 17, 4, 8, 31, 27, 13, 23, 21, 19, 16, 7, 26, 12, 18, 6, 11, 5, 10, 9]) (k := .u8) (rest := [("math/bits.deBruijn64tab", YtnnhomkkggkkfaaDoor.Rows.laid_math_bits_deBruijn64tab)]) (e := 5) (t := 108) (g := 0) hL (by kernel_rfl) (by kernel_rfl) (by kernel_rfl) (by kernel_rfl) (by kernel_rfl)
  obtain ⟨_, qs, hL2⟩ := h1
  have h2 := laid_ints (zs := [0, 1, 56, 2, 57, 49, 28, 3, 61, 58, 42, 50, 38, 29, 17, 4, 62, 47, 59, 36, 45, 43, 51, 22, 53, 39, 33, 30, 24, 18, 12, 5, 63, 55, 48, 27, 60, 41, 37, 16, 46, 35, 44, 21, 52, 32, 23, 11, 54, 26, 40, 15, 34, 20, 31, 10, 25, 14, 19, 9, 13, 8, 7, 6]) (k := .u8) (rest := []) (e := 5) (t := 109) (g := 1) hL2 (by kernel_rfl) (by kernel_rfl) (by kernel_rfl) (by kernel_rfl) (by kernel_rfl)
  intro g i v hv
  match g with
  | 1 => exact h2.1 i v hv
  | 0 => cases hv
  | g + 2 => cases hv
end Go.Proofs.Rnk
end
