/- Joined: RkCg, RkCh, RkCi. -/
import Derived.Test.YtnnhomkkggkkfaaDoorRkCe
import Derived.KernelRfl
import Derived.Test.YtnnhomkkggkkfaaDoorRkD
import Derived.Test.YtnnhomkkggkkfaaDoorRkAr
set_option linter.unusedSimpArgs false
set_option linter.unusedVariables false
set_option linter.unnecessarySimpa false
section
set_option maxHeartbeats 4000000
set_option maxRecDepth 100000
namespace Go.Proofs.Rnk
open Go Go.VM
open Go.Proofs.Sur (andn andn_bit andn_le i_wrap i_and i_or i_xor i_andn i_shl i_shr bit_01)
theorem k70g (t : List Int) (r : Room) (h : t.length ≤ 8 ∧ rok t r) : callable Tryd.prog 70 = true ∧ ∀ h, CallOk Tryd.prog 70 [ls t r] h (I (alls t.length : Nat)) h := c70.ok (t, r) h
section
attribute [local instance] wrI
noncomputable def d70g : PCtr Tryd.prog where
  f := 70
  X := List Int × Room
  args x := [ls x.1 x.2]
  pre x := x.1.length ≤ 8 ∧ rok x.1 x.2
  v x := I (alls x.1.length : Nat)
  det := by
    rintro ⟨t, r⟩ ⟨t', r'⟩ e _ _
    simp only [List.cons.injEq, AV.sl.injEq, and_true] at e
    rw [ints_inj e.1]
  ok x hx := ⟨(k70g x.1 x.2 hx).1, fun h => CallOk.up (fun _ => rfl) ((k70g x.1 x.2 hx).2 h)⟩
theorem ok64w : FokM Tryd.prog M94 64 Tryd.f64 := ok64
end
end Go.Proofs.Rnk
end
section
set_option maxHeartbeats 4000000
set_option maxRecDepth 100000
namespace Go.Proofs.Rnk
open Go Go.VM
theorem wyM_len {A : Nat → Nat} {n : Nat} {rd : Bool} : ∀ (f : Nat) (b : List Int) (m : Nat) (l : List Int), wyM A n rd f b m = some l → l.length = b.length + f
  | 0, b, m, l, h => by
    rw [wyM] at h
    split at h
    · cases h
    · cases h; rfl
  | f + 1, b, m, l, h => by
    rw [wyM_go] at h
    have key : ∀ k, fRw A n rd f b m k = some l → l.length = b.length + (f + 1) := fun k => by
      induction k with
      | zero => intro h; cases h
      | succ k ih =>
        intro h
        rw [fRw] at h
        cases hq : fRw A n rd f b m k with
        | some l' => rw [hq] at h; cases h; exact ih hq
        | none =>
          rw [hq] at h
          have h : (if fol A b m k = true then wyM A n rd f (b ++ [(k : Int)]) (m ||| 2 ^ k) else none) = some l := h
          split at h
          · have := wyM_len f _ _ l h
            simp only [List.length_append, List.length_cons, List.length_nil] at this
            omega
          · cases h
    exact key n h
end Go.Proofs.Rnk
end
section
set_option maxHeartbeats 4000000
set_option maxRecDepth 100000
namespace Go.Proofs.Rnk
open Go Go.VM
structure RowP (A : Nat → Nat) (n : Nat) (b : List Int) (m : Nat) : Prop where
  h : ∀ j, j < b.length → 0 ≤ b.getD j i0 ∧ b.getD j i0 < (n : Int) ∧ m.testBit (b.getD j i0).toNat = true
  d : ∀ i j, i < j → j < b.length → b.getD i i0 ≠ b.getD j i0
  w : ∀ j, j + 1 < b.length → (A (b.getD j i0).toNat).testBit (b.getD (j + 1) i0).toNat = true
theorem getD_app {b : List Int} {x : Int} {j : Nat} (h : j < b.length) : (b ++ [x]).getD j i0 = b.getD j i0 := by
  simp only [List.getD_eq_getElem?_getD, List.getElem?_append_left h]
theorem getD_end {b : List Int} {x : Int} : (b ++ [x]).getD b.length i0 = x := by simp [List.getD_eq_getElem?_getD]
theorem RowP.next {A : Nat → Nat} {n : Nat} {b : List Int} {m i : Nat} (h : RowP A n b m) (hi : i < n) (hf : fol A b m i = true) : RowP A n (b ++ [(i : Int)]) (m ||| 2 ^ i) := by
  rw [fol, Bool.and_eq_true, Bool.not_eq_true', Bool.or_eq_true, decide_eq_true_eq] at hf
  obtain ⟨h1, h2⟩ := hf
  have hl : (b ++ [(i : Int)]).length = b.length + 1 := by simp
  refine ⟨fun j hj => ?_, fun a c hac hc => ?_, fun j hj => ?_⟩
  · rw [hl] at hj
    by_cases c : j < b.length
    · rw [getD_app c]
      obtain ⟨g1, g2, g3⟩ := h.h j c
      exact ⟨g1, g2, by rw [Nat.testBit_or, g3]; rfl⟩
    · have e : j = b.length := by omega
      subst e
      rw [getD_end]
      exact ⟨by omega, by omega, by simp⟩
  · rw [hl] at hc
    by_cases c1 : c < b.length
    · rw [getD_app c1, getD_app (show a < b.length by omega)]
      exact h.d a c hac c1
    · have e : c = b.length := by omega
      subst e
      rw [getD_end, getD_app hac]
      intro e2
      have g3 := (h.h a hac).2.2
      rw [e2, Int.toNat_natCast, h1] at g3
      cases g3
  · rw [hl] at hj
    have hj1 : j < b.length := by omega
    rw [getD_app hj1]
    by_cases c : j + 1 < b.length
    · rw [getD_app c]; exact h.w j c
    · have e : j + 1 = b.length := by omega
      rw [e, getD_end]
      rcases h2 with q | q
      · rw [q] at hj1; simp at hj1
      · have : lastN b = (b.getD j i0).toNat := by rw [lastN, ← e]; rfl
        rw [← this]; simpa using q
theorem wyM_row {A : Nat → Nat} {n : Nat} {rd : Bool} : ∀ (f : Nat) (b : List Int) (m : Nat) (l : List Int), RowP A n b m → wyM A n rd f b m = some l → ∃ m', RowP A n l m'
  | 0, b, m, l, hb, h => by
    rw [wyM] at h
    split at h
    · cases h
    · cases h; exact ⟨m, hb⟩
  | f + 1, b, m, l, hb, h => by
    rw [wyM_go] at h
    have key : ∀ k, k ≤ n → fRw A n rd f b m k = some l → ∃ m', RowP A n l m' := fun k => by
      induction k with
      | zero => intro _ h; cases h
      | succ k ih =>
        intro hk h
        rw [fRw] at h
        cases hq : fRw A n rd f b m k with
        | some l' => rw [hq] at h; cases h; exact ih (by omega) hq
        | none =>
          rw [hq] at h
          have h : (if fol A b m k = true then wyM A n rd f (b ++ [(k : Int)]) (m ||| 2 ^ k) else none) = some l := h
          split at h
          · rename_i hf
            exact wyM_row f _ _ l (hb.next (by omega) hf) h
          · cases h
    exact key n (Nat.le_refl n) h
theorem row_nil (A : Nat → Nat) (n : Nat) : RowP A n [] 0 := ⟨fun j hj => by simp at hj, fun i j _ hj => by simp at hj, fun j hj => by simp at hj⟩
end Go.Proofs.Rnk
end
