/- Layer 1: the reference's search against the other one. -/
import Derived.Test.YtbadfaiepgfpdaaWgPs
import Derived.Test.YtbadfaiepgfpdaaWgZa
import Derived.KernelRfl
set_option linter.unusedSimpArgs false
set_option linter.unusedVariables false
set_option linter.unnecessarySimpa false
set_option maxHeartbeats 4000000
set_option maxRecDepth 100000
namespace Go.Proofs.Weg
open Go Go.VM

def trp (k : Int) (x : Int) : Nat → List Row
  | 0 => []
  | d + 1 => if df k x = 1 then ([d0 k x, d1 k x, d2 k x], RK.l) :: trp k (x + 1) d else trp k (x + 1) d
theorem trp_sg (k : Int) : ∀ (d : Nat) (x : Int), ∀ r ∈ trp k x d, sg r.1
  | 0, _, r, h => by simp [trp] at h
  | d + 1, x, r, h => by
    simp only [trp] at h
    obtain ⟨b0, b1, b2⟩ := dgs_bd k x
    split at h
    · rcases List.mem_cons.1 h with rfl | h
      · intro y hy
        simp only [List.mem_cons, List.not_mem_nil, or_false] at hy
        rcases hy with rfl | rfl | rfl
        · exact b0
        · exact b1
        · exact b2
      · exact trp_sg k d (x + 1) r h
    · exact trp_sg k d (x + 1) r h
theorem psb_fl (k : Int) : ∀ (d n : Nat) (x a b c : Int), psb k d n x a b c = (fl (trp k x d) n a b c).isSome
  | d, 0, x, a, b, c => by
    have e : fl (trp k x d) 0 a b c = if a = 0 ∧ b = 0 ∧ c = 0 then some [] else none := by cases trp k x d <;> rfl
    rw [e]
    have e2 : psb k d 0 x a b c = (a == 0 && (b == 0 && (c == 0 && true))) := by cases d <;> rfl
    rw [e2]
    by_cases h : a = 0 ∧ b = 0 ∧ c = 0
    · rw [if_pos h]; simp [h]
    · rw [if_neg h]
      cases q : (a == 0 && (b == 0 && (c == 0 && true)))
      · rfl
      · simp at q; exact absurd q h
  | 0, n + 1, x, a, b, c => rfl
  | d + 1, n + 1, x, a, b, c => by
    have ih1 := psb_fl k d n (x + 1)
    have ih2 := psb_fl k d (n + 1) (x + 1) a b c
    simp only [psb, trp]
    by_cases hf : df k x = 1
    · rw [if_pos hf, decide_eq_true hf, Bool.true_and, ih2, ih1, ih1]
      have hs : ∀ r ∈ trp k (x + 1) d, sg r.1 := trp_sg k d (x + 1)
      have rng : ∀ p q r : Int, (decide (inR ((n + 1 : Nat) : Int) p q r) && (fl (trp k (x + 1) d) n p q r).isSome) = (fl (trp k (x + 1) d) n p q r).isSome := by
        intro p q r
        cases hq : fl (trp k (x + 1) d) n p q r with
        | none => simp
        | some l =>
          have := fl_bound _ _ _ _ _ _ hs hq
          rw [decide_eq_true (by simp only [inR]; omega)]; rfl
      rw [rng, rng]
      have e : fl (([d0 k x, d1 k x, d2 k x], RK.l) :: trp k (x + 1) d) (n + 1) a b c =
        match fl (trp k (x + 1) d) n (a + 1 * d0 k x) (b + 1 * d1 k x) (c + 1 * d2 k x) with
        | some p => some (p ++ [(tms 1 [d0 k x, d1 k x, d2 k x], RK.l)])
        | none =>
          match fl (trp k (x + 1) d) n (a + (-1) * d0 k x) (b + (-1) * d1 k x) (c + (-1) * d2 k x) with
          | some p => some (p ++ [(tms (-1) [d0 k x, d1 k x, d2 k x], RK.l)])
          | none => fl (trp k (x + 1) d) (n + 1) a b c := rfl
      rw [e]
      cases fl (trp k (x + 1) d) n (a + 1 * d0 k x) (b + 1 * d1 k x) (c + 1 * d2 k x) <;> cases fl (trp k (x + 1) d) n (a + (-1) * d0 k x) (b + (-1) * d1 k x) (c + (-1) * d2 k x) <;> simp
    · rw [if_neg hf, decide_eq_false hf, Bool.false_and, Bool.false_or, ih2]
def chkp (t : List Row) (most : Nat) : Bool := (List.range 13).all fun i => (fp t (i + 1) 0 0 0).isSome == decide (3 ≤ i + 1 ∧ i + 1 ≤ most)
def T1 : List Row := [([1, 0, 0], .l)]
theorem T1_eq : trp 1 1 2 = T1 := by kernel_rfl
theorem chkp1 : chkp T1 0 = true := by kernel_rfl
theorem hvt1 : hvb T1 = true := by kernel_rfl
def T2 : List Row := [([1, 0, 0], .l), ([0, 1, 0], .l), ([1, 1, 0], .l), ([1, -1, 0], .l)]
theorem T2_eq : trp 2 1 8 = T2 := by kernel_rfl
theorem chkp2 : chkp T2 3 = true := by kernel_rfl
theorem hvt2 : hvb T2 = true := by kernel_rfl
def T3 : List Row := [([1, 0, 0], .l), ([0, 1, 0], .l), ([1, 1, 0], .l), ([1, -1, 0], .l), ([0, 0, 1], .l), ([1, 0, 1], .l), ([0, 1, 1], .l), ([1, 1, 1], .l), ([1, -1, 1], .l), ([1, 0, -1], .l), ([0, 1, -1], .l), ([1, 1, -1], .l), ([1, -1, -1], .l)]
theorem T3_eq : trp 3 1 26 = T3 := by kernel_rfl
theorem chkp3 : chkp T3 12 = true := by kernel_rfl
theorem hvt3 : hvb T3 = true := by kernel_rfl
def dk (k : Int) : Nat := if k = 1 then 2 else if k = 2 then 8 else 26
theorem poss_of {t : List Row} {most : Nat} (h : chkp t most = true) (hs : hv t) {n : Nat} (h1 : 1 ≤ n) (h2 : n ≤ 13) : (fl t n 0 0 0).isSome = decide (3 ≤ n ∧ n ≤ most) := by
  have hc := List.all_eq_true.1 h (n - 1) (by simp; omega)
  rw [show n - 1 + 1 = n by omega, fp_eq _ _ _ _ _ (sgL hs)] at hc
  simpa using hc
theorem poss_is {k : Int} (hk : k = 1 ∨ k = 2 ∨ k = 3) {n : Nat} (h1 : 1 ≤ n) (h2 : n ≤ 13) : psb k (dk k) n 1 0 0 0 = decide (3 ≤ n ∧ n ≤ mst k) := by
  rw [psb_fl]
  rcases hk with rfl | rfl | rfl
  · rw [show dk 1 = 2 from rfl, T1_eq, mst1]; exact poss_of chkp1 (hvb_of hvt1) h1 h2
  · rw [show dk 2 = 8 from rfl, T2_eq, mst2]; exact poss_of chkp2 (hvb_of hvt2) h1 h2
  · rw [show dk 3 = 26 from rfl, T3_eq, mst3]; exact poss_of chkp3 (hvb_of hvt3) h1 h2
end Go.Proofs.Weg
