/- Layer 2: how many cycles there are, counted in two ways. -/
import Derived.Test.YtnnhomkkggkkfaaDoorRkT
import Derived.Test.YtnnhomkkggkkfaaDoorRkR
set_option linter.unusedSimpArgs false
set_option linter.unusedVariables false
set_option linter.unnecessarySimpa false
set_option maxRecDepth 100000
namespace Go.Proofs.Rnk
open Go Go.VM

/-! ### sums -/
def sm (f : Nat → Nat) : Nat → Nat
  | 0 => 0
  | n + 1 => sm f n + f n
theorem sm_congr {f g : Nat → Nat} : ∀ {n : Nat}, (∀ i, i < n → f i = g i) → sm f n = sm g n
  | 0, _ => rfl
  | n + 1, h => by simp only [sm]; rw [sm_congr (fun i hi => h i (by omega)), h n (by omega)]
theorem sm_add (f g : Nat → Nat) : ∀ n, sm (fun i => f i + g i) n = sm f n + sm g n
  | 0 => rfl
  | n + 1 => by simp only [sm]; rw [sm_add f g n]; omega
theorem sm_zero : ∀ n, sm (fun _ => 0) n = 0
  | 0 => rfl
  | n + 1 => by simp only [sm]; rw [sm_zero n]
theorem sm_mul (c : Nat) (f : Nat → Nat) : ∀ n, sm (fun i => c * f i) n = c * sm f n
  | 0 => rfl
  | n + 1 => by simp only [sm]; rw [sm_mul c f n, Nat.mul_add]
def ps2 (g : Nat → Nat → Nat) (n : Nat) : Nat := sm (fun y => sm (fun x => g x y) y) n
theorem ps2_congr {f g : Nat → Nat → Nat} {n : Nat} (h : ∀ x y, x < y → y < n → f x y = g x y) : ps2 f n = ps2 g n := sm_congr fun y hy => sm_congr fun x hx => h x y hx hy
theorem ps2_add (f g : Nat → Nat → Nat) (n : Nat) : ps2 (fun x y => f x y + g x y) n = ps2 f n + ps2 g n := by
  unfold ps2
  rw [← sm_add]
  exact sm_congr fun y _ => sm_add _ _ _
theorem dbl (g : Nat → Nat → Nat) : ∀ n, sm (fun v => sm (fun j => g v j) n) n = ps2 (fun x y => g x y + g y x) n + sm (fun v => g v v) n
  | 0 => rfl
  | n + 1 => by
    have ih := dbl g n
    have e1 : sm (fun v => sm (fun j => g v j) (n + 1)) (n + 1) = sm (fun v => sm (fun j => g v j) n) n + sm (fun v => g v n) n + (sm (fun j => g n j) n + g n n) := by
      show sm (fun v => sm (fun j => g v j) (n + 1)) n + sm (fun j => g n j) (n + 1) = _
      have : sm (fun v => sm (fun j => g v j) (n + 1)) n = sm (fun v => sm (fun j => g v j) n) n + sm (fun v => g v n) n := by rw [← sm_add]; rfl
      rw [this]; rfl
    have e2 : ps2 (fun x y => g x y + g y x) (n + 1) = ps2 (fun x y => g x y + g y x) n + (sm (fun x => g x n) n + sm (fun x => g n x) n) := by
      show ps2 _ n + sm (fun x => g x n + g n x) n = _
      rw [sm_add]
    have e3 : sm (fun v => g v v) (n + 1) = sm (fun v => g v v) n + g n n := rfl
    omega
def c2 : Nat → Nat
  | 0 => 0
  | k + 1 => c2 k + k
def c3 : Nat → Nat
  | 0 => 0
  | k + 1 => c3 k + c2 k
theorem ps2_one : ∀ n, ps2 (fun _ _ => 1) n = c2 n
  | 0 => rfl
  | n + 1 => by
    show ps2 _ n + sm (fun _ => 1) n = c2 n + n
    have : ∀ n, sm (fun _ => 1) n = n := fun n => by
      induction n with
      | zero => rfl
      | succ n ih => simp only [sm]; rw [ih]
    rw [ps2_one n, this]
theorem c2_sum {f : Nat → Nat} (h : ∀ i, f i = 0 ∨ f i = 1) : ∀ n, c2 (sm f n) = ps2 (fun x y => f x * f y) n
  | 0 => rfl
  | n + 1 => by
    show c2 (sm f n + f n) = ps2 _ n + sm (fun x => f x * f n) n
    rw [← c2_sum h n]
    have e : sm (fun x => f x * f n) n = f n * sm f n := by
      rw [← sm_mul]; exact sm_congr fun i _ => Nat.mul_comm _ _
    rw [e]
    rcases h n with q | q
    · rw [q]; simp
    · rw [q]; simp only [c2]; omega
/-! ### a tournament's numbers -/
abbrev ee (t : List Int) (i j : Nat) : Nat := (bt t i j).toNat
theorem ee01 (t : List Int) (i j : Nat) : ee t i j = 0 ∨ ee t i j = 1 := by simp only [ee]; cases bt t i j <;> simp
abbrev ss (t : List Int) (v n : Nat) : Nat := sm (fun j => ee t v j) n
abbrev hh (t : List Int) (a b c : Nat) : Nat := (decide (a < b)).toNat * ((decide (a < c)).toNat * (ee t a b * (ee t b c * ee t c a)))
abbrev cn (t : List Int) (n : Nat) : Nat := sm (fun a => sm (fun b => sm (fun c => hh t a b c) n) n) n
theorem low (k : Nat → Nat → Nat) (n : Nat) : sm (fun a => sm (fun b => (decide (a < b)).toNat * k a b) n) n = ps2 k n := by
  rw [dbl]
  have e1 : sm (fun v => (decide (v < v)).toNat * k v v) n = 0 := by
    rw [← sm_zero n]; exact sm_congr fun i _ => by simp
  rw [e1, Nat.add_zero]
  refine ps2_congr fun x y hx _ => ?_
  have : ¬ y < x := by omega
  simp [hx, this]
theorem cn_step {t : List Int} (h : Tn t) (n : Nat) : cn t (n + 1) = cn t n + ps2 (fun x y => ee t x n * (ee t n y * ee t y x) + ee t x y * (ee t y n * ee t n x)) n := by
  have z0 : ∀ b c, b ≤ n → hh t n b c = 0 := fun b c hb => by
    have : ¬ n < b := by omega
    simp [hh, this]
  have z1 : ∀ a, hh t a n n = 0 := fun a => by simp [hh, ee, h.irr n]
  have e1 : cn t (n + 1) = sm (fun a => sm (fun b => sm (fun c => hh t a b c) (n + 1)) (n + 1)) n := by
    show sm (fun a => sm (fun b => sm (fun c => hh t a b c) (n + 1)) (n + 1)) n + sm (fun b => sm (fun c => hh t n b c) (n + 1)) (n + 1) = _
    have : sm (fun b => sm (fun c => hh t n b c) (n + 1)) (n + 1) = 0 := by
      rw [← sm_zero (n + 1)]
      refine sm_congr fun b hb => ?_
      rw [← sm_zero (n + 1)]
      exact sm_congr fun c _ => z0 b c (by omega)
    omega
  have e2 : ∀ a, sm (fun b => sm (fun c => hh t a b c) (n + 1)) (n + 1) = sm (fun b => sm (fun c => hh t a b c) n) n + sm (fun b => hh t a b n) n + sm (fun c => hh t a n c) n := fun a => by
    show sm (fun b => sm (fun c => hh t a b c) (n + 1)) n + (sm (fun c => hh t a n c) n + hh t a n n) = _
    have : sm (fun b => sm (fun c => hh t a b c) (n + 1)) n = sm (fun b => sm (fun c => hh t a b c) n) n + sm (fun b => hh t a b n) n := by rw [← sm_add]; rfl
    rw [this, z1 a]; omega
  rw [e1, sm_congr (fun a _ => e2 a), sm_add, sm_add]
  have e3 : sm (fun a => sm (fun b => hh t a b n) n) n = ps2 (fun x y => ee t x y * (ee t y n * ee t n x)) n := by
    rw [← low]
    refine sm_congr fun a ha => sm_congr fun b _ => ?_
    simp [hh, ha]
  have e4 : sm (fun a => sm (fun c => hh t a n c) n) n = ps2 (fun x y => ee t x n * (ee t n y * ee t y x)) n := by
    rw [← low]
    refine sm_congr fun a ha => sm_congr fun c _ => ?_
    simp [hh, ha]
  rw [e3, e4, ps2_add]
  have e5 : sm (fun a => sm (fun b => sm (fun c => hh t a b c) n) n) n = cn t n := rfl
  omega
theorem triples {t : List Int} (h : Tn t) : ∀ n, n ≤ t.length → cn t n + sm (fun v => c2 (ss t v n)) n = c3 n
  | 0, _ => rfl
  | n + 1, hn => by
    have ih := triples h n (by omega)
    have e1 := cn_step h n
    have e2 : sm (fun v => c2 (ss t v (n + 1))) (n + 1) = sm (fun v => c2 (ss t v n)) n + ps2 (fun x y => ee t x n * ee t x y + ee t y n * ee t y x) n + ps2 (fun x y => ee t n x * ee t n y) n := by
      show sm (fun v => c2 (ss t v (n + 1))) n + c2 (ss t n (n + 1)) = _
      have a1 : ss t n (n + 1) = ss t n n := by
        show ss t n n + ee t n n = _
        simp [ee, h.irr n]
      have a2 : ∀ v, c2 (ss t v (n + 1)) = c2 (ss t v n) + ee t v n * ss t v n := fun v => by
        show c2 (ss t v n + ee t v n) = _
        rcases ee01 t v n with q | q
        · rw [q]; simp
        · rw [q]; simp only [c2]; omega
      rw [a1, sm_congr (fun v _ => a2 v), sm_add, ← c2_sum (f := fun j => ee t n j) (fun i => ee01 t n i)]
      have a3 : sm (fun v => ee t v n * ss t v n) n = ps2 (fun x y => ee t x n * ee t x y + ee t y n * ee t y x) n := by
        have b1 : sm (fun v => ee t v n * ss t v n) n = sm (fun v => sm (fun j => ee t v n * ee t v j) n) n := sm_congr fun v _ => (sm_mul _ _ _).symm
        rw [b1, dbl]
        have b2 : sm (fun v => ee t v n * ee t v v) n = 0 := by
          rw [← sm_zero n]; exact sm_congr fun i _ => by simp [ee, h.irr i]
        rw [b2, Nat.add_zero]
      rw [a3]
    have e3 : ps2 (fun x y => ee t x n * (ee t n y * ee t y x) + ee t x y * (ee t y n * ee t n x)) n + (ps2 (fun x y => ee t x n * ee t x y + ee t y n * ee t y x) n + ps2 (fun x y => ee t n x * ee t n y) n) = c2 n := by
      rw [← ps2_add, ← ps2_add, ← ps2_one]
      refine ps2_congr fun x y hx hy => ?_
      have t1 := h.tot (i := x) (j := y) (by omega) (by omega) (by omega)
      have t2 := h.tot (i := x) (j := n) (by omega) (by omega) (by omega)
      have t3 := h.tot (i := y) (j := n) (by omega) (by omega) (by omega)
      simp only [ee, t1, t2, t3]
      cases bt t y x <;> cases bt t n x <;> cases bt t n y <;> rfl
    show cn t (n + 1) + sm (fun v => c2 (ss t v (n + 1))) (n + 1) = c3 n + c2 n
    omega
/-! ### what the program counts -/
theorem pc_sm (s : Nat) : pc s = sm (fun b => (s.testBit b).toNat) 8 := by
  have e : List.range 8 = [0, 1, 2, 3, 4, 5, 6, 7] := by decide
  simp only [pc, e, sm, List.filter_cons, List.filter_nil]
  cases s.testBit 0 <;> cases s.testBit 1 <;> cases s.testBit 2 <;> cases s.testBit 3 <;> cases s.testBit 4 <;> cases s.testBit 5 <;> cases s.testBit 6 <;> cases s.testBit 7 <;> rfl
/-! ### sorted or not, the sums are the same -/
end Go.Proofs.Rnk

