/- Joined: RkDp, RkDh. -/
import Derived.Test.YtnnhomkkggkkfaaDoorRkCg
import Derived.Test.YtnnhomkkggkkfaaDoorRkDg
import Derived.Test.YtnnhomkkggkkfaaDoorRkAj
import Derived.KernelRfl
set_option linter.unusedSimpArgs false
set_option linter.unusedVariables false
set_option linter.unnecessarySimpa false
section
set_option maxHeartbeats 4000000
set_option maxRecDepth 100000
namespace Go.Proofs.Rnk
open Go Go.VM
end Go.Proofs.Rnk
end
section
set_option maxHeartbeats 4000000
set_option maxRecDepth 100000
namespace Go.Proofs.Rnk
open Go Go.VM
noncomputable def c19v : PCtr Tryd.prog where
  f := 19
  X := List Int × Room
  args x := [ls x.1 x.2]
  pre x := ((lim x.1.length ∧ rok x.1 x.2 ∧ em x.1 x.2) ∧ x.1.length ≤ 11) ∧ x.1 ≠ []
  v x := ls x.1 .no
  det := by
    rintro ⟨l, r⟩ ⟨l', r'⟩ e _ _
    simp at e
    simp [e]
  ok := by
    rintro ⟨l, r⟩ ⟨h1, h2⟩
    have := c19s.ok (l, r) h1
    have e : c19s.v (l, r) = ls l .no := by
      show ls l (rcl r) = _
      have hr := h1.1.2.1 h2
      cases r <;> first | rfl | exact absurd rfl hr
    rw [e] at this
    exact this
theorem k29s (t : List Int) (k : Nat) (l : List Int) (h : Tn t) (h3 : 3 ≤ k) (hk : k ≤ t.length) (hl : rowR t k true = some l) : CallOk Tryd.prog 29 [ls t .no, I k] .nil (.tup [ls l .no, I 0]) .nil := by
  have h8 := h.s.2
  have hlen := wyM_len _ _ _ _ hl
  exact @CallOk.up wrI instInhabitedGlobs (fun _ => rfl) _ _ _ _ _ _ (r29s t k l h (fun i _ => by have := h.s8 i; simp only [s8] at this; simp only [i64]; omega) h3 hk hl (by simp only [List.length_nil] at hlen; omega))
theorem k29n (t : List Int) (k : Nat) (h : Tn t) (h3 : 3 ≤ k) (hk : k ≤ t.length) (hl : rowR t k true = none) : CallOk Tryd.prog 29 [ls t .no, I k] .nil (.tup [.sl [] 0 .nil, I 4]) .nil :=
  @CallOk.up wrI instInhabitedGlobs (fun _ => rfl) _ _ _ _ _ _ (r29n t k h (fun i _ => by have := h.s8 i; simp only [s8] at this; simp only [i64]; omega) h3 hk hl)
theorem ok29d : callable Tryd.prog 29 = true := by kernel_rfl
theorem wk_ls {t : List Int} {r : Room} (h : Tn t) (hr : rok t r) (hem : em t r) : AV.wk (ls t r) = ls t .no := by
  have hne : t ≠ [] := fun e => by have h1 : 1 ≤ t.length := h.s.1; rw [e] at h1; simp at h1
  have hq' := hr hne
  cases r with
  | nil => exact absurd rfl hq'
  | e => exact absurd (hem rfl) hne
  | _ => rfl
noncomputable def c29s : PCtr Tryd.prog where
  f := 29
  X := ((List Int × Room) × Nat) × List Int
  args x := [ls x.1.1.1 x.1.1.2, I x.1.2]
  pre x := ((Tn x.1.1.1 ∧ rok x.1.1.1 x.1.1.2 ∧ em x.1.1.1 x.1.1.2) ∧ 3 ≤ x.1.2 ∧ x.1.2 ≤ x.1.1.1.length) ∧ rowR x.1.1.1 x.1.2 true = some x.2
  v x := .tup [ls x.2 .no, I 0]
  det := by
    rintro ⟨⟨⟨t, r⟩, k⟩, l⟩ ⟨⟨⟨t', r'⟩, k'⟩, l'⟩ e ⟨_, p⟩ ⟨_, p'⟩
    simp only [List.cons.injEq, AV.sl.injEq, AV.int.injEq, and_true] at e
    have e1 := ints_inj e.1.1
    have e2 : k = k' := by omega
    subst e1 e2
    have := p.symm.trans p'
    cases this; rfl
  ok := by
    rintro ⟨⟨⟨t, r⟩, k⟩, l⟩ ⟨⟨⟨h, hr, hem⟩, h3, hk⟩, hl⟩
    refine ⟨ok29d, fun H => ?_⟩
    have k2 := pure_call (k29s t k l h h3 hk hl) (by simp [AV.bnds, AV.bnd, Room.bnd]) (by simp [AV.bnd, AV.bnds, Room.bnd]) H
    have k3 : CallOk Tryd.prog 29 [AV.wk (ls t r), AV.wk (I k)] H (.tup [ls l .no, I 0]) H := by rw [wk_ls h hr hem]; exact k2
    exact k3.wk
noncomputable def c29n : PCtr Tryd.prog where
  f := 29
  X := (List Int × Room) × Nat
  args x := [ls x.1.1 x.1.2, I x.2]
  pre x := ((Tn x.1.1 ∧ rok x.1.1 x.1.2 ∧ em x.1.1 x.1.2) ∧ 3 ≤ x.2 ∧ x.2 ≤ x.1.1.length) ∧ rowR x.1.1 x.2 true = none
  v x := .tup [.sl [] 0 .nil, I 4]
  det _ _ _ _ _ := rfl
  ok := by
    rintro ⟨⟨t, r⟩, k⟩ ⟨⟨⟨h, hr, hem⟩, h3, hk⟩, hl⟩
    refine ⟨ok29d, fun H => ?_⟩
    have k2 := pure_call (k29n t k h h3 hk hl) (by simp [AV.bnds, AV.bnd, Room.bnd]) rfl H
    have k3 : CallOk Tryd.prog 29 [AV.wk (ls t r), AV.wk (I k)] H (.tup [.sl [] 0 .nil, I 4]) H := by rw [wk_ls h hr hem]; exact k2
    exact k3.wk
end Go.Proofs.Rnk
end
