/- Joined: RkCk, RkCl. -/
import Derived.Test.YtnnhomkkggkkfaaDoorRkCj
set_option linter.unusedSimpArgs false
set_option linter.unusedVariables false
set_option linter.unnecessarySimpa false
section
set_option maxHeartbeats 4000000
set_option maxRecDepth 100000
namespace Go.Proofs.Rnk
open Go Go.VM
theorem fRw_all {A : Nat → Nat} {n : Nat} {rd : Bool} {f : Nat} {b : List Int} {m : Nat} : ∀ k, fRw A n rd f b m k = none → ∀ i, i < k → fol A b m i = true → wyM A n rd f (b ++ [(i : Int)]) (m ||| 2 ^ i) = none
  | 0, _, i, hi, _ => by omega
  | k + 1, h, i, hi, hf => by
    rw [fRw] at h
    cases hq : fRw A n rd f b m k with
    | some l => rw [hq] at h; cases h
    | none =>
      rw [hq] at h
      have h : (if fol A b m k = true then wyM A n rd f (b ++ [(k : Int)]) (m ||| 2 ^ k) else none) = none := h
      by_cases e : i = k
      · subst e; rwa [if_pos hf] at h
      · exact fRw_all k hq i (by omega) hf
theorem wsF_pos {A : Nat → Nat} {n f : Nat} {fr : Int} {m : Nat} : ∀ k, wsF A n f fr m k ≠ 0 → ∃ i, i < k ∧ nxt A fr m i = true ∧ wsM A n f (i : Int) (m ||| 2 ^ i) ≠ 0
  | 0, h => absurd rfl h
  | k + 1, h => by
    rw [wsF] at h
    by_cases c : wsF A n f fr m k = 0
    · rw [c, Nat.zero_add] at h
      split at h
      · rename_i hn; exact ⟨k, by omega, hn, h⟩
      · exact absurd rfl h
    · obtain ⟨i, h1, h2⟩ := wsF_pos k c
      exact ⟨i, by omega, h2⟩
theorem ws_wy {A : Nat → Nat} {n : Nat} : ∀ (f : Nat) (b : List Int) (fr : Int) (m : Nat), (∀ i, nxt A fr m i = fol A b m i) → wsM A n f fr m ≠ 0 → ∃ l, wyM A n false f b m = some l
  | 0, b, _, _, _, _ => ⟨b, by rw [wyM]; rfl⟩
  | f + 1, b, fr, m, hb, h => by
    rw [wsM_go] at h
    obtain ⟨i, h1, h2, h3⟩ := wsF_pos n h
    rw [hb] at h2
    have hx : ∀ x, nxt A (i : Int) (m ||| 2 ^ i) x = fol A (b ++ [(i : Int)]) (m ||| 2 ^ i) x := fun x => by
      have e1 : decide ((i : Int) < 0) = false := by simp
      have e2 : decide (b ++ [(i : Int)] = []) = false := by simp
      rw [nxt, fol, last_app, e1, e2, Int.toNat_natCast]
    obtain ⟨l, hl⟩ := ws_wy f (b ++ [(i : Int)]) (i : Int) _ hx h3
    rw [wyM_go]
    cases hq : fRw A n false f b m n with
    | some l' => exact ⟨l', rfl⟩
    | none =>
      have := fRw_all n hq i h1 h2
      rw [this] at hl; cases hl
theorem way_some {t : List Int} (h : waysR t ≠ 0) : ∃ l, rowR t t.length false = some l := ws_wy t.length [] (-1) 0 (fun i => by simp [nxt, fol]) h
/-- what is left of the law of ways -/
def OddWays : Prop := ∀ t, Tn t → waysR t % 2 = 1
theorem redei_ok (ho : OddWays) (t : List Int) (q : RK) (h1 : t.length ≤ Go.maxLen) (h2 : q.mt = true → t = []) (h3 : inI t) : CallOk Tryd.prog 11 [ls t (rr q)] .nil (.bool true) .nil := by
  have hp := pL_rr h1 h2 h3
  by_cases h : Tn t
  · have hodd := ho t h
    obtain ⟨l, hl⟩ := way_some (t := t) (by omega)
    exact (r11t t l _ hp h hl hodd).run ok11 ct11 rfl
  · exact (r11f t _ hp h).run ok11 (.pure _ (.pure _ (.pure _ .nil))) rfl
end Go.Proofs.Rnk
end
section
set_option maxHeartbeats 4000000
set_option maxRecDepth 100000
namespace Go.Proofs.Rnk
/-- the sum modulo 2 of the first n -/
def xs (f : Nat → Bool) : Nat → Bool
  | 0 => false
  | n + 1 => (xs f n).xor (f n)
theorem xs_congr {f g : Nat → Bool} : ∀ {n : Nat}, (∀ i, i < n → f i = g i) → xs f n = xs g n
  | 0, _ => rfl
  | n + 1, h => by rw [xs, xs, xs_congr fun i hi => h i (by omega), h n (by omega)]
theorem xs_false : ∀ n, xs (fun _ => false) n = false
  | 0 => rfl
  | n + 1 => by rw [xs, xs_false n]; rfl
theorem xs_xor (f g : Nat → Bool) : ∀ n, xs (fun i => (f i).xor (g i)) n = (xs f n).xor (xs g n)
  | 0 => rfl
  | n + 1 => by
    rw [xs, xs, xs, xs_xor f g n]
    cases xs f n <;> cases xs g n <;> cases f n <;> cases g n <;> rfl
theorem xs_and (c : Bool) (f : Nat → Bool) : ∀ n, xs (fun i => c && f i) n = (c && xs f n)
  | 0 => by simp [xs]
  | n + 1 => by
    rw [xs, xs, xs_and c f n]
    cases c <;> cases xs f n <;> cases f n <;> rfl
theorem xs_swap (f : Nat → Nat → Bool) (m : Nat) : ∀ n, xs (fun i => xs (fun j => f i j) m) n = xs (fun j => xs (fun i => f i j) n) m
  | 0 => by simp only [xs]; exact (xs_false m).symm
  | n + 1 => by
    rw [xs, xs_swap f m n, ← xs_xor]
    exact xs_congr fun j _ => rfl
theorem xs_one {f : Nat → Bool} {p : Nat} : ∀ {n : Nat}, p < n → (∀ i, i < n → i ≠ p → f i = false) → xs f n = f p
  | 0, h, _ => by omega
  | n + 1, h, hf => by
    rw [xs]
    by_cases c : p = n
    · subst c
      rw [xs_congr (g := fun _ => false) fun i hi => hf i (by omega) (by omega), xs_false]
      simp
    · rw [xs_one (by omega) fun i hi hp => hf i (by omega) hp, hf n (by omega) fun e => c e.symm]
      simp
/-- the parity of the paths through a set from one of it: f + 1 players -/
def wp (D : Nat → Nat → Bool) : Nat → Nat → Nat → Bool
  | 0, S, a => decide (S = 2 ^ a)
  | f + 1, S, a => S.testBit a && xs (fun y => D a y && wp D f (S ^^^ 2 ^ a) y) 8
theorem wp_in {D : Nat → Nat → Bool} {f S a : Nat} (h : wp D f S a = true) : S.testBit a = true := by
  cases f with
  | zero =>
    rw [wp, decide_eq_true_eq] at h
    rw [h]; simp
  | succ f =>
    rw [wp, Bool.and_eq_true] at h
    exact h.1
/-- the parity of all paths through a set -/
def hp (D : Nat → Nat → Bool) (f S : Nat) : Bool := xs (fun a => wp D f S a) 8
end Go.Proofs.Rnk
end
