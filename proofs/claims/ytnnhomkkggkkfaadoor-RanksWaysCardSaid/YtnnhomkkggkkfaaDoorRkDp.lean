/- Layer 2: every tournament has a way. -/
import Derived.Test.YtnnhomkkggkkfaaDoorRkCi
set_option linter.unusedSimpArgs false
set_option linter.unusedVariables false
set_option linter.unnecessarySimpa false
set_option maxHeartbeats 4000000
set_option maxRecDepth 100000
namespace Go.Proofs.Rnk
open Go Go.VM
def chn (t : List Int) (a : Nat) : List Nat → Prop
  | [] => True
  | b :: m => bt t a b = true ∧ chn t b m
theorem chn_ins {t : List Int} {w : Nat} : ∀ (m : List Nat) (a : Nat), chn t a m → bt t a w = true → (∀ x ∈ m, bt t x w = true ∨ bt t w x = true) → ∃ m', chn t a m' ∧ m'.Perm (w :: m)
  | [], a, _, h1, _ => ⟨[w], ⟨h1, trivial⟩, .refl _⟩
  | b :: m, a, h, h1, hm => by
    by_cases c : bt t w b = true
    · exact ⟨w :: b :: m, ⟨h1, c, h.2⟩, .refl _⟩
    · obtain ⟨m', g1, g2⟩ := chn_ins m b h.2 ((hm b (by simp)).resolve_right c) fun x hx => hm x (by simp [hx])
      exact ⟨b :: m', ⟨h.1, g1⟩, (List.Perm.cons b g2).trans (.swap w b m)⟩
theorem chn_all {t : List Int} (h : Tn t) : ∀ k, k + 1 ≤ t.length → ∃ a m, chn t a m ∧ (a :: m).Perm (List.range (k + 1))
  | 0, _ => ⟨0, [], trivial, .refl _⟩
  | k + 1, hk => by
    obtain ⟨a, m, g1, g2⟩ := chn_all h k (by omega)
    have hr : List.range (k + 1 + 1) = List.range (k + 1) ++ [k + 1] := List.range_succ
    have hp : ((k + 1) :: a :: m).Perm (List.range (k + 1 + 1)) := by
      rw [hr]
      exact (List.Perm.cons _ g2).trans (List.perm_append_singleton _ _).symm
    have tot : ∀ x ∈ a :: m, bt t x (k + 1) = true ∨ bt t (k + 1) x = true := fun x hx => by
      have hx := List.mem_range.1 (g2.mem_iff.1 hx)
      have := h.tot (i := x) (j := k + 1) (by omega) (by omega) (by omega)
      cases c : bt t (k + 1) x
      · rw [c] at this; exact .inl this
      · exact .inr rfl
    by_cases c : bt t (k + 1) a = true
    · exact ⟨k + 1, a :: m, ⟨c, g1⟩, hp⟩
    · obtain ⟨m', q1, q2⟩ := chn_ins m a g1 ((tot a (by simp)).resolve_right c) fun x hx => tot x (by simp [hx])
      exact ⟨a, m', q1, ((List.Perm.cons a q2).trans (.swap _ _ _)).trans hp⟩
theorem chn_row {t : List Int} : ∀ (l : List Nat) (b : List Int) (m : Nat), (b = [] → ∀ x y, l = x :: y → chn t x y) → (b ≠ [] → chn t (lastN b) l) → (∀ x ∈ l, x < t.length ∧ m.testBit x = false) → l.Nodup → ∃ r, wyM (sn t) t.length false l.length b m = some r
  | [], b, m, _, _, _, _ => ⟨b, by rw [List.length_nil, wyM]; rfl⟩
  | i :: l, b, m, h0, hb, hx, hn => by
    obtain ⟨k1, k2⟩ := hx i (by simp)
    have hl : lastN (b ++ [(i : Int)]) = i := by simp [lastN, List.getD_eq_getElem?_getD]
    have hc : chn t i l := by
      by_cases e : b = []
      · exact h0 e i l rfl
      · exact (hb e).2
    obtain ⟨r, hr⟩ := chn_row l (b ++ [(i : Int)]) (m ||| 2 ^ i) (fun e => by simp at e) (fun _ => by rw [hl]; exact hc) (fun y hy => by
      obtain ⟨g1, g2⟩ := hx y (by simp [hy])
      have : y ≠ i := fun e => (List.nodup_cons.1 hn).1 (e ▸ hy)
      refine ⟨g1, ?_⟩
      rw [Nat.testBit_or, g2, Nat.testBit_two_pow]
      simp; omega) (List.nodup_cons.1 hn).2
    have hf : fol (sn t) b m i = true := by
      by_cases e : b = []
      · simp [fol, k2, e]
      · have : (sn t (lastN b)).testBit i = true := (hb e).1
        simp [fol, k2, this]
    rw [List.length_cons, wyM_go]
    cases c : fRw (sn t) t.length false l.length b m i with
    | some r' =>
      have := fRw_some c (t.length - i)
      rw [show i + (t.length - i) = t.length by omega] at this
      exact ⟨r', this⟩
    | none =>
      have h4 : fRw (sn t) t.length false l.length b m (i + 1) = some r := by rw [fRw, c, if_pos hf, hr]; rfl
      have := fRw_some h4 (t.length - (i + 1))
      rw [show i + 1 + (t.length - (i + 1)) = t.length by omega] at this
      exact ⟨r, this⟩
theorem tn_way {t : List Int} (h : Tn t) : ∃ l, rowR t t.length false = some l := by
  have h1 := h.s.1
  obtain ⟨a, m, g1, g2⟩ := chn_all h (t.length - 1) (by omega)
  rw [show t.length - 1 + 1 = t.length by omega] at g2
  have hl : (a :: m).length = t.length := by rw [g2.length_eq, List.length_range]
  have := chn_row (t := t) (a :: m) [] 0 (fun _ x y e => by cases e; exact g1) (fun e => absurd rfl e) (fun x hx => ⟨List.mem_range.1 (g2.mem_iff.1 hx), by simp⟩) (g2.nodup_iff.2 List.nodup_range)
  rwa [hl] at this
end Go.Proofs.Rnk

