/- Layer 2: Way, the reference's Way and Round as contracts; a row found is a row. -/
import Derived.Test.YtnnhomkkggkkfaaDoorRkCh
import Derived.Test.YtnnhomkkggkkfaaDoorRkAr
import Derived.KernelRfl
set_option linter.unusedSimpArgs false
set_option linter.unusedVariables false
set_option linter.unnecessarySimpa false
set_option maxHeartbeats 4000000
set_option maxRecDepth 100000
namespace Go.Proofs.Rnk
open Go Go.VM
noncomputable def c28t : PCtr Tryd.prog := sctr ok28w (X := (List Int × Room) × List Int) (fun x => [ls x.1.1 x.1.2]) (fun x => (Tn x.1.1 ∧ rok x.1.1 x.1.2 ∧ em x.1.1 x.1.2) ∧ rowR x.1.1 x.1.1.length false = some x.2) (fun x => .tup [ls x.2 .no, I 0])
  (by
    rintro ⟨⟨t, r⟩, l⟩ ⟨⟨t', r'⟩, l'⟩ e ⟨_, p⟩ ⟨_, p'⟩
    simp only [List.cons.injEq, AV.sl.injEq, and_true] at e
    have e1 := ints_inj e.1
    subst e1
    have := p.symm.trans p'
    cases this; rfl) (fun x => by simp [AV.bnds, AV.bnd, AV.wk, rm_wk_bnd]) (fun x => by simp [AV.bnd, AV.bnds, Room.bnd]) (fun x hx => ⟨_, _, _, .pure _ (.pure _ .nil), r28t x.1.1 x.1.2.wk hx.1.1 (by simpa using hx.1.2.1) (em_wk hx.1.2.2) x.2 hx.2⟩)
noncomputable def c28f : PCtr Tryd.prog := sctr ok28w (X := List Int × Room) (fun x => [ls x.1 x.2]) (fun x => (lim x.1.length ∧ rok x.1 x.2 ∧ inI x.1) ∧ ¬ Tn x.1) (fun _ => .tup [.sl [] 0 .nil, I 2])
  (by intro x y e _ _; rfl) (fun x => by simp [AV.bnds, AV.bnd, AV.wk, rm_wk_bnd]) (fun x => by simp [AV.bnd, AV.bnds, Room.bnd]) (fun x hx => ⟨_, _, _, .pure _ .nil, r28f x.1 x.2.wk (by simp only [rok_wk]; exact hx)⟩)
noncomputable def c30 : PCtr Tryd.prog := sctr ok30 (X := (List Int × Room) × List Int) (fun x => [ls x.1.1 x.1.2]) (fun x => (Tn x.1.1 ∧ rok x.1.1 x.1.2) ∧ rowR x.1.1 x.1.1.length false = some x.2) (fun x => ls x.2 .no)
  (by
    rintro ⟨⟨t, r⟩, l⟩ ⟨⟨t', r'⟩, l'⟩ e ⟨_, p⟩ ⟨_, p'⟩
    simp only [List.cons.injEq, AV.sl.injEq, and_true] at e
    have e1 := ints_inj e.1
    subst e1
    have := p.symm.trans p'
    cases this; rfl) (fun x => by simp [AV.bnds, AV.bnd, AV.wk, rm_wk_bnd]) (fun x => by simp [AV.bnd, AV.bnds, Room.bnd]) (fun x hx => ⟨_, _, _, .pure _ .nil, r30 x.1.1 x.1.2.wk hx.1.1 (by simpa using hx.1.2) x.2 hx.2⟩)
structure RowP (A : Nat → Nat) (n : Nat) (b : List Int) (m : Nat) : Prop where
  h : ∀ j, j < b.length → 0 ≤ b.getD j i0 ∧ b.getD j i0 < (n : Int) ∧ m.testBit (b.getD j i0).toNat = true
  d : ∀ i j, i < j → j < b.length → b.getD i i0 ≠ b.getD j i0
  w : ∀ j, j + 1 < b.length → (A (b.getD j i0).toNat).testBit (b.getD (j + 1) i0).toNat = true
theorem getD_app {b : List Int} {x : Int} {j : Nat} (h : j < b.length) : (b ++ [x]).getD j i0 = b.getD j i0 := by
  simp only [List.getD_eq_getElem?_getD, List.getElem?_append_left h]
theorem getD_end {b : List Int} {x : Int} : (b ++ [x]).getD b.length i0 = x := by simp [List.getD_eq_getElem?_getD]
theorem RowP.next {A : Nat → Nat} {n : Nat} {b : List Int} {m i : Nat} (h : RowP A n b m) (hi : i < n) (hf : fol A b m i = true) : RowP A n (b ++ [(i : Int)]) (m ||| 2 ^ i) := by
  rw [fol, Bool.and_eq_true, Bool.not_eq_true', Bool.or_eq_true, decide_eq_true_eq] at hf
  obtain ⟨h1, h2⟩ := hf
  have hl : (b ++ [(i : Int)]).length = b.length + 1 := by simp
  refine ⟨fun j hj => ?_, fun a c hac hc => ?_, fun j hj => ?_⟩
  · rw [hl] at hj
    by_cases c : j < b.length
    · rw [getD_app c]
      obtain ⟨g1, g2, g3⟩ := h.h j c
      exact ⟨g1, g2, by rw [Nat.testBit_or, g3]; rfl⟩
    · have e : j = b.length := by omega
      subst e
      rw [getD_end]
      exact ⟨by omega, by omega, by simp⟩
  · rw [hl] at hc
    by_cases c1 : c < b.length
    · rw [getD_app c1, getD_app (show a < b.length by omega)]
      exact h.d a c hac c1
    · have e : c = b.length := by omega
      subst e
      rw [getD_end, getD_app hac]
      intro e2
      have g3 := (h.h a hac).2.2
      rw [e2, Int.toNat_natCast, h1] at g3
      cases g3
  · rw [hl] at hj
    have hj1 : j < b.length := by omega
    rw [getD_app hj1]
    by_cases c : j + 1 < b.length
    · rw [getD_app c]; exact h.w j c
    · have e : j + 1 = b.length := by omega
      rw [e, getD_end]
      rcases h2 with q | q
      · rw [q] at hj1; simp at hj1
      · have : lastN b = (b.getD j i0).toNat := by rw [lastN, ← e]; rfl
        rw [← this]; simpa using q
end Go.Proofs.Rnk

