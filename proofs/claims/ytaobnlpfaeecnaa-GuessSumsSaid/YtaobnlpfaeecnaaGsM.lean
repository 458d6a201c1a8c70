/- Layer 6: marks of pegs: the mathematics. -/
import Derived.Test.YtaobnlpfaeecnaaVm6
set_option linter.unusedSimpArgs false
set_option linter.unusedVariables false
set_option linter.unnecessarySimpa false
set_option maxHeartbeats 4000000
set_option maxRecDepth 100000
namespace Go.Proofs.Gss
open Go Go.VM

/-- what is left of a code behind some holes, and a hole's colour -/
def qt (c a j : Nat) : Nat := a / c ^ j
def dg (c a j : Nat) : Nat := qt c a j % c
theorem qt_0 (c a : Nat) : qt c a 0 = a := by simp [qt]
theorem qt_succ (c a j : Nat) : qt c a j / c = qt c a (j + 1) := by simp [qt, Nat.div_div_eq_div_mul, Nat.pow_succ]
theorem dg_lt {c : Nat} (h : 1 ≤ c) (a j : Nat) : dg c a j < c := Nat.mod_lt _ h
theorem qt_le (c a j : Nat) : qt c a j ≤ a := Nat.div_le_self _ _

/-- black marks -/
def bl (f g : Nat → Nat) : Nat → Nat
  | 0 => 0
  | j + 1 => bl f g j + if f j = g j then 1 else 0
/-- holes of a colour -/
def ct (f : Nat → Nat) (k : Nat) : Nat → Nat
  | 0 => 0
  | j + 1 => ct f k j + if f j = k then 1 else 0
/-- holes of a colour, without the black ones -/
def gs (f g : Nat → Nat) (k : Nat) : Nat → Nat
  | 0 => 0
  | j + 1 => gs f g k j + if f j ≠ g j ∧ f j = k then 1 else 0
/-- black ones of a colour -/
def bk (f g : Nat → Nat) (k : Nat) : Nat → Nat
  | 0 => 0
  | j + 1 => bk f g k j + if f j = g j ∧ f j = k then 1 else 0
theorem bl_le (f g : Nat → Nat) : ∀ j, bl f g j ≤ j
  | 0 => Nat.le_refl 0
  | j + 1 => by have := bl_le f g j; simp only [bl]; split <;> omega
theorem ct_le (f : Nat → Nat) (k : Nat) : ∀ j, ct f k j ≤ j
  | 0 => Nat.le_refl 0
  | j + 1 => by have := ct_le f k j; simp only [ct]; split <;> omega
theorem gs_le (f g : Nat → Nat) (k : Nat) : ∀ j, gs f g k j ≤ j
  | 0 => Nat.le_refl 0
  | j + 1 => by have := gs_le f g k j; simp only [gs]; split <;> omega
theorem ct_eq (f g : Nat → Nat) (k : Nat) : ∀ j, ct f k j = gs f g k j + bk f g k j
  | 0 => rfl
  | j + 1 => by
    have := ct_eq f g k j
    simp only [ct, gs, bk]
    by_cases h2 : f j = g j
    · rw [if_neg (c := f j ≠ g j ∧ f j = k) (fun h => h.1 h2)]
      by_cases h1 : f j = k
      · rw [if_pos h1, if_pos ⟨h2, h1⟩]; omega
      · rw [if_neg h1, if_neg (fun h => h1 h.2)]; omega
    · rw [if_neg (c := f j = g j ∧ f j = k) (fun h => h2 h.1)]
      by_cases h1 : f j = k
      · rw [if_pos h1, if_pos ⟨h2, h1⟩]; omega
      · rw [if_neg h1, if_neg (fun h => h1 h.2)]; omega
theorem bk_comm (f g : Nat → Nat) (k : Nat) : ∀ j, bk f g k j = bk g f k j
  | 0 => rfl
  | j + 1 => by
    have := bk_comm f g k j
    simp only [bk]
    by_cases h2 : f j = g j
    · simp only [h2, true_and]; omega
    · rw [if_neg (fun h => h2 h.1), if_neg (fun h => h2 h.1.symm)]; omega
/-- a sum over colours -/
def sm (F : Nat → Nat) : Nat → Nat
  | 0 => 0
  | k + 1 => sm F k + F k
theorem sm_add (F G : Nat → Nat) : ∀ k, sm (fun i => F i + G i) k = sm F k + sm G k
  | 0 => rfl
  | k + 1 => by simp only [sm, sm_add F G k]; omega
theorem sm_congr {F G : Nat → Nat} : ∀ {k}, (∀ i, i < k → F i = G i) → sm F k = sm G k
  | 0, _ => rfl
  | k + 1, h => by simp only [sm, sm_congr (k := k) (fun i hi => h i (by omega)), h k (by omega)]
theorem sm_le {F G : Nat → Nat} : ∀ {k}, (∀ i, i < k → F i ≤ G i) → sm F k ≤ sm G k
  | 0, _ => Nat.le_refl 0
  | k + 1, h => by
    have := sm_le (k := k) (fun i hi => h i (by omega))
    have := h k (by omega)
    simp only [sm]; omega
theorem sm_one {n x : Nat} : ∀ {k}, sm (fun i => if x = i then n else 0) k = if x < k then n else 0
  | 0 => by simp [sm]
  | k + 1 => by
    simp only [sm, sm_one (k := k)]
    by_cases h1 : x < k
    · rw [if_pos h1, if_neg (by omega), if_pos (by omega)]; rfl
    · by_cases h2 : x = k
      · subst h2; rw [if_neg h1, if_pos rfl, if_pos (by omega)]; omega
      · rw [if_neg h1, if_neg h2, if_neg (by omega)]
theorem sm_bk {f g : Nat → Nat} {n : Nat} (hf : ∀ i, f i < n) : ∀ j, sm (fun k => bk f g k j) n = bl f g j
  | 0 => by
    have : ∀ n, sm (fun _ => 0) n = 0 := fun n => by induction n with
      | zero => rfl
      | succ n ih => simp [sm, ih]
    exact this n
  | j + 1 => by
    have ih := sm_bk (g := g) hf j
    simp only [bk, bl]
    rw [sm_add, ih]
    by_cases h : f j = g j
    · have : sm (fun i => if f j = g j ∧ f j = i then 1 else 0) n = sm (fun i => if f j = i then 1 else 0) n := sm_congr fun i _ => by simp [h]
      rw [this, sm_one, if_pos (hf j), if_pos h]
    · have : sm (fun i => if f j = g j ∧ f j = i then 1 else 0) n = sm (fun i => if n = i then 1 else 0) n := sm_congr fun i hi => by simp [h]; omega
      rw [this, sm_one, if_neg (by omega), if_neg h]
theorem sm_gs {f g : Nat → Nat} {n : Nat} (hf : ∀ i, f i < n) : ∀ j, sm (fun k => gs f g k j) n + bl f g j = j
  | 0 => by
    have : ∀ n, sm (fun _ => 0) n = 0 := fun n => by induction n with
      | zero => rfl
      | succ n ih => simp [sm, ih]
    have := this n
    simp only [gs, bl] at *; omega
  | j + 1 => by
    have ih := sm_gs (g := g) hf j
    simp only [gs, bl]
    rw [sm_add]
    by_cases h : f j = g j
    · have : sm (fun i => if f j ≠ g j ∧ f j = i then 1 else 0) n = sm (fun i => if n = i then 1 else 0) n := sm_congr fun i hi => by simp [h]; omega
      rw [this, sm_one, if_neg (by omega), if_pos h]; omega
    · have : sm (fun i => if f j ≠ g j ∧ f j = i then 1 else 0) n = sm (fun i => if f j = i then 1 else 0) n := sm_congr fun i _ => by simp [h]
      rw [this, sm_one, if_pos (hf j), if_neg h]; omega
/-- white marks: by what is not black, and by all -/
def wh (f g : Nat → Nat) (p k : Nat) : Nat := sm (fun i => min (gs f g i p) (gs g f i p)) k
def al (f g : Nat → Nat) (p k : Nat) : Nat := sm (fun i => min (ct f i p) (ct g i p)) k
theorem al_wh {f g : Nat → Nat} {n : Nat} (hf : ∀ i, f i < n) (p : Nat) : al f g p n = wh f g p n + bl f g p := by
  rw [← sm_bk (g := g) hf, wh, ← sm_add]
  refine sm_congr fun i _ => ?_
  rw [ct_eq f g, ct_eq g f, bk_comm g f]
  omega
theorem wh_le {f g : Nat → Nat} {n : Nat} (hf : ∀ i, f i < n) (p : Nat) : wh f g p n + bl f g p ≤ p := by
  have h1 := sm_gs (g := g) hf p
  have h2 : wh f g p n ≤ sm (fun k => gs f g k p) n := sm_le fun i _ => Nat.min_le_left _ _
  omega
end Go.Proofs.Gss

