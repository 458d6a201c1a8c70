/- The law of pans, led through. -/
import Derived.Test.YtbadfaiepgfpdaaTryPf
import Derived.Test.YtbadfaiepgfpdaaVmT
namespace Go.Proofs.Wei
open Go Go.VM

noncomputable def E9 : Env := ⟨Try.prog, sl9, np, ⟨0, 0, 0⟩, 2000⟩
theorem e9p : E9.P = Try.prog := rfl
theorem e9s : E9.S = sl9 := rfl
abbrev sl9s : List Nat := [0, 3, 5, 7, 8, 58, 59, 60]
theorem ps_succ (a : List Int) (j : Nat) : ps a (j + 1) = ps a j + a.getD j 0 * 3 ^ j := rfl
theorem pow_bnd (j : Nat) (h : j ≤ 8) : (0 : Int) < 3 ^ j ∧ (3 : Int) ^ j ≤ 6561 := by
  have h1 : (3 : Int) ^ j ≤ 3 ^ 8 := by exact_mod_cast Nat.pow_le_pow_right (n := 3) (by omega) h
  exact ⟨Int.pow_pos (by omega), by simpa using h1⟩

def I9 (n : Int) (a b : List Int) (ra rb : Room) (h : H) (j : Nat) (vs : List AV) (h' : H) : Prop :=
  h' = h ∧ vs = [I n, .sl (ints a) a.length ra, .sl (ints b) b.length rb, I (ps a j), I (3 ^ j), .sl (ints a) a.length ra, I a.length, I j]
theorem loop9 (n : Int) (a b : List Int) (ra rb : Room) (h : H) (ha : a ≠ [] → ra ≠ .nil) (hb : b ≠ [] → rb ≠ .nil) (hba : b = a.map (fun x => -x)) (hl : a.length ≤ 7) (hx : ∀ x ∈ a, -1 ≤ x ∧ x ≤ 1) (hs : ps a a.length = n) :
    LoopOk E9 (loopAt Try.f9 0) 86 sl9s [I n, .sl (ints a) a.length ra, .sl (ints b) b.length rb, I 0, I 1, .sl (ints a) a.length ra, I a.length, I 0] h (.exit 0) [0, 7] [I n, I n] h := by
  refine loop_led (I9 n a b ra rb h) a.length ⟨rfl, by simp [ps]⟩ (show a.length < 2000 by omega) ?_
  rintro j vs h' hj ⟨rfl, rfl⟩
  have hbl : b.length = a.length := by rw [hba]; simp
  by_cases hz : j < a.length
  · have hane : a ≠ [] := by rintro rfl; simp at hz
    have hbne : b ≠ [] := by rintro rfl; simp at hbl; omega
    have hg : -1 ≤ a.getD j 0 ∧ a.getD j 0 ≤ 1 := by
      rw [List.getD_eq_getElem?_getD, List.getElem?_eq_getElem hz]
      exact hx _ (List.getElem_mem hz)
    have hbg : b.getD j 0 = - a.getD j 0 := by
      rw [hba, List.getD_eq_getElem?_getD, List.getD_eq_getElem?_getD, List.getElem?_map, List.getElem?_eq_getElem hz]; rfl
    have hp := ps_bnd a hx j
    have hp1 := ps_bnd a hx (j + 1)
    have hw := pow_bnd j (by omega)
    have hw1 := pow_bnd (j + 1) (by omega)
    rw [ps_succ] at hp1
    have he : (3 : Int) ^ (j + 1) = 3 ^ j * 3 := Int.pow_succ 3 j
    refine ⟨[.b true, .val 63 (.cptr (ints (a.drop j))) h', .val 64 (I (a.getD j 0)) h', .val 68 (.cptr (ints (b.drop j))) h', .val 69 (I (b.getD j 0)) h', .b false], [], fun u => ?_⟩
    refine of_eq (Hd E9 [Cd.lt j a.length, Cd.idx 56 (.sl (ints a) a.length ra) (I j) (.cptr (ints (a.drop j))), Cd.load 3 (ints (a.drop j)) (I (a.getD j 0)), Cd.idx 56 (.sl (ints b) b.length rb) (I j) (.cptr (ints (b.drop j))), Cd.load 3 (ints (b.drop j)) (I (b.getD j 0)), Cd.rng IntKind.i64 (0 - b.getD j 0), Cd.eq (a.getD j 0) (0 - b.getD j 0), Cd.rng IntKind.i64 (a.getD j 0 * 3 ^ j), Cd.rng IntKind.i64 (ps a j + a.getD j 0 * 3 ^ j), Cd.rng IntKind.i64 (3 ^ j * 3), Cd.rng IntKind.i64 (j + 1)] ∧
      Nxt (I9 n a b ra rb h') 86 a.length j (AX.exit 0) [I n, I n] h' AX.normal 86 [I n, .sl (ints a) a.length ra, .sl (ints b) b.length rb, I (ps a j + a.getD j 0 * 3 ^ j), I (3 ^ j * 3), .sl (ints a) a.length ra, I a.length, I (j + 1)] [I n, I (ps a j + a.getD j 0 * 3 ^ j)] h') (by kernel_rfl) (And.intro ?_ (And.intro rfl (Or.inl (And.intro rfl (And.intro hz (And.intro rfl ?_))))))
    · simp only [hd_cons, hd_nil, Cd.holds, and_true, e9p]
      refine ⟨by omega, ix56 a _ _ _ j hz (ha hane), ?_, ix56 b _ _ _ j (by omega) (hb hbne), ?_, w64 _ (by omega) (by omega), by omega, w64 _ ?_ ?_, w64 _ (by omega) (by omega), w64 _ (by omega) (by omega), w64 _ (by omega) (by omega)⟩
      · rw [ld3]; simp [hz]
      · have : j < b.length := by omega
        rw [ld3]; simp [this]
      · have := hp1; omega
      · have := hp1; omega
    · rw [ps_succ, he]; rfl
  · have hj' : j = a.length := by omega
    refine ⟨[.b false], [], fun u => ?_⟩
    refine of_eq (Hd E9 [Cd.le a.length j] ∧ Nxt (I9 n a b ra rb h') 86 a.length j (AX.exit 0) [I n, I n] h' (AX.exit 0) 86 [I n, .sl (ints a) a.length ra, .sl (ints b) b.length rb, I (ps a j), I (3 ^ j), .sl (ints a) a.length ra, I a.length, I j] [I n, I (ps a j)] h') (by kernel_rfl) (And.intro ?_ (And.intro rfl (Or.inr (And.intro (by simp) (And.intro rfl (And.intro ?_ rfl))))))
    · simp only [hd_cons, hd_nil, Cd.holds, and_true]; omega
    · rw [hj', hs]
end Go.Proofs.Wei
