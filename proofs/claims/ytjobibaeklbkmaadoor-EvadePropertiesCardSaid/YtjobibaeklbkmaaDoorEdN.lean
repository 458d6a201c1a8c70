/- Layer 8: how many elements must be asked; the same with a memory. -/
import Derived.Test.YtjobibaeklbkmaaDoorEdM
set_option linter.unusedSimpArgs false
set_option linter.unusedVariables false
set_option linter.unnecessarySimpa false
set_option maxRecDepth 100000
namespace Go.Proofs.Evd
open Go.Proofs.Sur (W mem_bits andn andn_bit andn_le lsU lsU_mem)

/-- the number of elements of a set -/
def pc (s : Nat) : Nat := (s.testBit 0).toNat + (s.testBit 1).toNat + (s.testBit 2).toNat + (s.testBit 3).toNat + (s.testBit 4).toNat + (s.testBit 5).toNat
theorem pc_le (s : Nat) : pc s ≤ 6 := by
  have h : ∀ b : Bool, b.toNat ≤ 1 := fun b => by cases b <;> decide
  have := h (s.testBit 0); have := h (s.testBit 1); have := h (s.testBit 2); have := h (s.testBit 3); have := h (s.testBit 4); have := h (s.testBit 5)
  simp only [pc]; omega
/-- a set without an element -/
abbrev rst (r x : Nat) : Nat := andn r (2 ^ x)
theorem rst_tab : ∀ x, x < 6 → ∀ r, r < 64 → r.testBit x = true → pc r = pc (r - 2 ^ x) + 1 := by decide
theorem rst_sub_tab : ∀ x, x < 6 → ∀ r, r < 64 → r.testBit x = true → ∀ i, i < 6 → (r - 2 ^ x).testBit i = (r.testBit i && !(2 ^ x).testBit i) := by decide
theorem rst_eq {r x : Nat} (hx : x < 6) (hr : r < 64) (h : r.testBit x = true) : rst r x = r - 2 ^ x := by
  apply Nat.eq_of_testBit_eq; intro i
  by_cases hi : i < 6
  · rw [rst_sub_tab x hx r hr h i hi, andn_bit (by omega)]
  · have f : ∀ a, a < 64 → a.testBit i = false := fun a ha => Nat.testBit_lt_two_pow (Nat.lt_of_lt_of_le ha (Nat.pow_le_pow_right (by decide : 0 < 2) (by omega : 6 ≤ i)))
    rw [f (r - 2 ^ x) (Nat.lt_of_le_of_lt (Nat.sub_le _ _) hr), f (rst r x) (Nat.lt_of_le_of_lt (andn_le (by omega)) hr)]
theorem rst_lt {r x : Nat} (hr : r < 64) : rst r x < 64 := Nat.lt_of_le_of_lt (andn_le (by omega)) hr
theorem pc_rst {r x : Nat} (hx : x < 6) (hr : r < 64) (h : r.testBit x = true) : pc r = pc (rst r x) + 1 := by
  rw [rst_eq hx hr h]; exact rst_tab x hx r hr h
theorem pc_zero {r : Nat} (hr : r < 64) (h : pc r = 0) : r = 0 := by
  have t : ∀ r, r < 64 → pc r = 0 → r = 0 := by decide
  exact t r hr h
theorem pc_some {r : Nat} (hr : r < 64) (h : r ≠ 0) : ∃ x, x < 6 ∧ r.testBit x = true := by
  have t : ∀ r, r < 64 → r ≠ 0 → ∃ x, x < 6 ∧ r.testBit x = true := by decide
  exact t r hr h
/-- all sets are in, or none -/
def stl (r : Nat) (F : W) : Bool := hs F r || !hs F 0
theorem stl_zero (F : W) : stl 0 F = true := by simp only [stl]; cases hs F 0 <;> rfl
/-- the first of the best, and how good it is -/
def bst (g : Nat → Nat) (r : Nat) : Nat → Nat × Nat
  | 0 => (0, 7)
  | k + 1 => if r.testBit k = true then (if g k < (bst g r k).2 then (k, g k) else bst g r k) else bst g r k
theorem bst_congr {g g' : Nat → Nat} {r : Nat} (h : ∀ x, x < 6 → r.testBit x = true → g x = g' x) : ∀ k, k ≤ 6 → bst g r k = bst g' r k
  | 0, _ => rfl
  | k + 1, hk => by
    have ih := bst_congr h k (by omega)
    simp only [bst]
    split
    · rename_i q; rw [ih, h k (by omega) q]
    · exact ih
theorem bst_le {g : Nat → Nat} {r : Nat} : ∀ k x, x < k → r.testBit x = true → (bst g r k).2 ≤ g x
  | k + 1, x, h, hx => by
    simp only [bst]
    by_cases e : x = k
    · subst e
      rw [if_pos hx]
      split
      · exact Nat.le_refl _
      · omega
    · have := bst_le (g := g) k x (by omega) hx
      split
      · split
        · simp only; omega
        · exact this
      · exact this
/-- after an element is asked -/
abbrev go (a : Nat → W → Nat) (r : Nat) (F : W) (x : Nat) : Nat := 1 + max (a (rst r x) (wot F x)) (a (rst r x) (lnk F x))
def askF : Nat → Nat → W → Nat
  | 0, _, _ => 0
  | m + 1, r, F => if stl r F = true then 0 else (bst (go (askF m) r F) r 6).2
/-- how many must be asked -/
def ask (r : Nat) (F : W) : Nat := askF (pc r) r F
theorem ask_stl {r : Nat} {F : W} (h : stl r F = true) : ask r F = 0 := by
  rw [ask]; cases pc r
  · rfl
  · simp [askF, h]
theorem pc_pos {r : Nat} {F : W} (hr : r < 64) (h : stl r F ≠ true) : ∃ m, pc r = m + 1 := by
  cases hp : pc r with
  | zero => exact absurd (pc_zero hr hp ▸ stl_zero F) h
  | succ m => exact ⟨m, rfl⟩
theorem ask_eq {r : Nat} {F : W} (hr : r < 64) (h : stl r F ≠ true) : ask r F = (bst (go ask r F) r 6).2 := by
  obtain ⟨m, hm⟩ := pc_pos hr h
  rw [ask, hm, askF, if_neg h]
  congr 1
  refine bst_congr (fun x hx hb => ?_) 6 (Nat.le_refl _)
  have : pc (rst r x) = m := by have := pc_rst hx hr hb; omega
  simp only [go, ask, this]
theorem ask_le : ∀ (m r : Nat) (F : W), r < 64 → pc r = m → ask r F ≤ m
  | 0, r, F, hr, h => by rw [pc_zero hr h, ask_stl (stl_zero F)]; exact Nat.le_refl _
  | m + 1, r, F, hr, h => by
    by_cases hst : stl r F = true
    · rw [ask_stl hst]; omega
    · rw [ask_eq hr hst]
      obtain ⟨x, hx, hb⟩ := pc_some hr (r := r) (fun e => by subst e; exact hst (stl_zero F))
      have h1 := bst_le (g := go ask r F) 6 x hx hb
      have h2 := pc_rst hx hr hb
      have h3 := ask_le m (rst r x) (wot F x) (rst_lt hr) (by omega)
      have h4 := ask_le m (rst r x) (lnk F x) (rst_lt hr) (by omega)
      simp only [go] at h1
      omega
theorem ask_pc {r : Nat} {F : W} (hr : r < 64) : ask r F ≤ pc r := ask_le _ r F hr rfl
theorem ask_6 {r : Nat} {F : W} (hr : r < 64) : ask r F ≤ 6 := Nat.le_trans (ask_pc hr) (pc_le r)
/-- what is known -/
abbrev Mem := List ((Nat × W) × Nat)
def look (M : Mem) (k : Nat × W) : Option Nat := (M.find? (fun e => decide (k = e.1))).map (·.2)
def put (M : Mem) (k : Nat × W) (v : Nat) : Mem := if M.any (fun e => decide (k = e.1)) = true then M.map (fun e => if decide (k = e.1) = true then (k, v) else e) else M ++ [(k, v)]
def loopM (g : Nat → Mem → Nat × Mem) (r : Nat) (M : Mem) : Nat → (Nat × Nat) × Mem
  | 0 => ((0, 7), M)
  | k + 1 => if r.testBit k = true then (if (g k (loopM g r M k).2).1 < (loopM g r M k).1.2 then (k, (g k (loopM g r M k).2).1) else (loopM g r M k).1, (g k (loopM g r M k).2).2) else loopM g r M k
abbrev goM (a : Nat → W → Mem → Nat × Mem) (r : Nat) (F : W) (x : Nat) (M : Mem) : Nat × Mem :=
  (1 + max (a (rst r x) (wot F x) M).1 (a (rst r x) (lnk F x) (a (rst r x) (wot F x) M).2).1, (a (rst r x) (lnk F x) (a (rst r x) (wot F x) M).2).2)
def needM : Nat → Nat → W → Mem → Nat × Mem
  | 0, _, _, M => (0, M)
  | m + 1, r, F, M => if stl r F = true then (0, M) else
    match look M (r, F) with
    | some v => (v, M)
    | none => ((loopM (goM (needM m) r F) r M 6).1.2, put (loopM (goM (needM m) r F) r M 6).2 (r, F) (loopM (goM (needM m) r F) r M 6).1.2)
/-- all that is known is so -/
def Snd (M : Mem) : Prop := ∀ e ∈ M, e.1.1 < 64 ∧ e.2 = ask e.1.1 e.1.2
theorem snd_nil : Snd [] := fun e h => by cases h
theorem snd_look {M : Mem} (h : Snd M) {r : Nat} {F : W} {v : Nat} (q : look M (r, F) = some v) : v = ask r F := by
  simp only [look, Option.map_eq_some_iff] at q
  obtain ⟨e, q1, q2⟩ := q
  have h1 := List.mem_of_find?_eq_some q1
  have h2 := List.find?_some q1
  simp only [decide_eq_true_eq] at h2
  have h3 := (h e h1).2
  rw [← h2] at h3
  rw [← q2]; exact h3
theorem snd_put {M : Mem} (h : Snd M) {r : Nat} {F : W} (hr : r < 64) {v : Nat} (hv : v = ask r F) : Snd (put M (r, F) v) := by
  intro e he
  simp only [put] at he
  split at he
  · rw [List.mem_map] at he
    obtain ⟨a, ha, rfl⟩ := he
    split
    · exact ⟨hr, hv⟩
    · exact h a ha
  · rw [List.mem_append, List.mem_singleton] at he
    rcases he with he | rfl
    · exact h e he
    · exact ⟨hr, hv⟩
theorem loop_ok {m r : Nat} {F : W} (hr : r < 64) (hm : pc r = m + 1) (ih : ∀ r' F' M', r' < 64 → pc r' = m → Snd M' → (needM m r' F' M').1 = ask r' F' ∧ Snd (needM m r' F' M').2) {M : Mem} (hM : Snd M) :
    ∀ k, k ≤ 6 → (loopM (goM (needM m) r F) r M k).1 = bst (go ask r F) r k ∧ Snd (loopM (goM (needM m) r F) r M k).2
  | 0, _ => ⟨rfl, hM⟩
  | k + 1, hk => by
    obtain ⟨h1, h2⟩ := loop_ok hr hm ih hM k (by omega)
    simp only [loopM, bst]
    split
    · rename_i hb
      have hp := pc_rst (show k < 6 by omega) hr hb
      have a1 := ih (rst r k) (wot F k) _ (rst_lt hr) (by omega) h2
      have a2 := ih (rst r k) (lnk F k) _ (rst_lt hr) (by omega) a1.2
      refine ⟨?_, a2.2⟩
      simp only [goM, go, h1, a1.1, a2.1]
    · exact ⟨h1, h2⟩
theorem need_ok : ∀ (m r : Nat) (F : W) (M : Mem), r < 64 → pc r = m → Snd M → (needM m r F M).1 = ask r F ∧ Snd (needM m r F M).2
  | 0, r, F, M, hr, hm, hM => by
    have := pc_zero hr hm
    subst this
    exact ⟨(ask_stl (stl_zero F)).symm, hM⟩
  | m + 1, r, F, M, hr, hm, hM => by
    simp only [needM]
    split
    · rename_i h; exact ⟨(ask_stl h).symm, hM⟩
    · rename_i h
      cases hl : look M (r, F) with
      | some v => exact ⟨snd_look hM hl, hM⟩
      | none =>
        obtain ⟨h1, h2⟩ := loop_ok (F := F) hr hm (fun r' F' M' a b c => need_ok m r' F' M' a b c) hM 6 (Nat.le_refl _)
        have e : (loopM (goM (needM m) r F) r M 6).1.2 = ask r F := by rw [h1, ask_eq hr h]
        exact ⟨e, snd_put h2 hr e⟩
end Go.Proofs.Evd

