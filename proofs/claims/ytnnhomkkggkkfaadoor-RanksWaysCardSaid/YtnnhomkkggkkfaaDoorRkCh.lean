/- Layer 2: Way, as a contract. -/
import Derived.Test.YtnnhomkkggkkfaaDoorRkCg
import Derived.Test.YtnnhomkkggkkfaaDoorRkD
import Derived.KernelRfl
set_option linter.unusedSimpArgs false
set_option linter.unusedVariables false
set_option linter.unnecessarySimpa false
set_option maxHeartbeats 4000000
set_option maxRecDepth 100000
namespace Go.Proofs.Rnk
open Go Go.VM
theorem wyM_len {A : Nat → Nat} {n : Nat} {rd : Bool} : ∀ (f : Nat) (b : List Int) (m : Nat) (l : List Int), wyM A n rd f b m = some l → l.length = b.length + f
  | 0, b, m, l, h => by
    rw [wyM] at h
    split at h
    · cases h
    · cases h; rfl
  | f + 1, b, m, l, h => by
    rw [wyM_go] at h
    have key : ∀ k, fRw A n rd f b m k = some l → l.length = b.length + (f + 1) := fun k => by
      induction k with
      | zero => intro h; cases h
      | succ k ih =>
        intro h
        rw [fRw] at h
        cases hq : fRw A n rd f b m k with
        | some l' => rw [hq] at h; cases h; exact ih hq
        | none =>
          rw [hq] at h
          have h : (if fol A b m k = true then wyM A n rd f (b ++ [(k : Int)]) (m ||| 2 ^ k) else none) = some l := h
          split at h
          · have := wyM_len f _ _ l h
            simp only [List.length_append, List.length_cons, List.length_nil] at this
            omega
          · cases h
    exact key n h
theorem k64w (t : List Int) (h : Tn t) (l : List Int) (hl : rowR t t.length false = some l) : CallOk Tryd.prog 64 [ls t .no, I t.length, .fn (.func 65) [] []] .nil (.tup [ls l .no, .bool true]) .nil := by
  have h1 := h.s.1
  have h8 := h.s.2
  obtain ⟨j0, g0, g1, g2⟩ := rowR_first (f := t.length - 1) h8 (by omega) hl
  have hlen := wyM_len _ _ _ _ hl
  have hl8 : l.length ≤ 8 := by simp only [List.length_nil] at hlen; omega
  exact @CallOk.up wrI instInhabitedGlobs (fun _ => rfl) _ _ _ _ _ _ (r64w (t.length - 1) t j0 l ⟨h, by omega, h8⟩ hl8 g0 g2 g1)
theorem ok64d : callable Tryd.prog 64 = true := by kernel_rfl
noncomputable def c64 : PCtr Tryd.prog where
  f := 64
  X := (List Int × Room) × List Int
  args x := [ls x.1.1 x.1.2, I x.1.1.length, .fn (.func 65) [] []]
  pre x := (Tn x.1.1 ∧ rok x.1.1 x.1.2 ∧ em x.1.1 x.1.2) ∧ rowR x.1.1 x.1.1.length false = some x.2
  v x := .tup [ls x.2 .no, .bool true]
  det := by
    rintro ⟨⟨t, r⟩, l⟩ ⟨⟨t', r'⟩, l'⟩ e ⟨_, p⟩ ⟨_, p'⟩
    simp only [List.cons.injEq, AV.sl.injEq, and_true] at e
    have e1 := ints_inj e.1.1
    subst e1
    have := p.symm.trans p'
    cases this; rfl
  ok := by
    rintro ⟨⟨t, r⟩, l⟩ ⟨⟨h, hr, hem⟩, hl⟩
    refine ⟨ok64d, fun H => ?_⟩
    have hne : t ≠ [] := fun e => by have h1 : 1 ≤ t.length := h.s.1; rw [e] at h1; simp at h1
    have k1 := k64w t h l hl
    have k2 := pure_call k1 (by simp [AV.bnds, AV.bnd, Room.bnd]) (by simp [AV.bnd, AV.bnds, Room.bnd]) H
    have : AV.wk (ls t r) = ls t .no := by
      have hq' := hr hne
      cases r with
      | nil => exact absurd rfl hq'
      | e => exact absurd (hem rfl) hne
      | _ => rfl
    have k3 : CallOk Tryd.prog 64 [AV.wk (ls t r), AV.wk (I t.length), AV.wk (.fn (.func 65) [] [])] H (.tup [ls l .no, .bool true]) H := by rw [this]; exact k2
    exact k3.wk
theorem ok28w : FokM Tryd.prog none1 28 Tryd.f28 := ⟨mixed, by kernel_rfl, by kernel_rfl, by kernel_rfl, by kernel_rfl⟩
theorem r28t (t : List Int) (r : Room) (h : Tn t) (hr : rok t r) (hem : em t r) (l : List Int) (hl : rowR t t.length false = some l) : Body (En6 [c56.to, c64.to]) none1 Tryd.f28 [ls t r] .nil (.tup [ls l .no, I 0], .nil) := by
  have h8 := h.s.2
  have hb := tn_t h
  have p56 : (lim t.length ∧ rok t r) ∧ inI t := ⟨⟨by simp only [lim]; omega, hr⟩, fun i _ => by have := h.s8 i; simp only [s8] at this; simp only [i64]; omega⟩
  have p64 : (Tn t ∧ rok t r ∧ em t r) ∧ rowR t t.length false = some l := ⟨⟨h, hr, hem⟩, hl⟩
  have hc : aCall (Sof [c56.to, c64.to]) (.fn (.func 64) [] []) [ls t r, I t.length, .fn (.func 65) [] []] .nil = some (.tup [ls l .no, .bool true], .nil) := acall_hit (c := c64.to) ((t, r), l) _ rfl p64
  refine body_s ([Ans.o (Orc.val 7 (AV.bool true) (H.mk [] [] [])), Ans.o (Orc.val 13 (AV.tup [ls l Room.no, AV.bool true]) (H.mk [] [] []))]) (aCall (Sof [c56.to, c64.to]) (AV.fn (Fn.func 56) [] []) [ls t r] (H.mk [] [] []) = some (AV.bool true, H.mk [] [] []) ∧ aCall (Sof [c56.to, c64.to]) (AV.fn (Fn.func 64) [] []) [ls t r, I (↑t.length : Int), AV.fn (Fn.func 65) [] []] (H.mk [] [] []) = some (AV.tup [ls l Room.no, AV.bool true], H.mk [] [] []) ∧ leave (Base.mk H.nil.blk.length H.nil.toks.length H.nil.maps.length) (AV.tup [ls l Room.no, I 0]) (H.mk [] [] []) = (AV.tup [ls l Room.no, I 0], H.mk [] [] [])) (by kernel_rfl) ?_
  refine ⟨acall_b (acall_hit (c := c56.to) (t, r) _ rfl p56) hb, ?_⟩
  refine ⟨hc, ?_⟩
  exact leaveW2 _ _
theorem r28f (t : List Int) (r : Room) (hp : (lim t.length ∧ rok t r ∧ inI t) ∧ ¬ Tn t) : Body (En6 [c56.to]) none1 Tryd.f28 [ls t r] .nil (.tup [.sl [] 0 .nil, I 2], .nil) := by
  obtain ⟨⟨h1, hr, h3⟩, hn⟩ := hp
  have hb := tn_f hn
  have p56 : (lim t.length ∧ rok t r) ∧ inI t := ⟨⟨h1, hr⟩, h3⟩
  refine body_s ([Ans.o (Orc.val 7 (AV.bool false) (H.mk [] [] []))]) (aCall (Sof [c56.to]) (AV.fn (Fn.func 56) [] []) [ls t r] (H.mk [] [] []) = some (AV.bool false, H.mk [] [] []) ∧ (AV.tup [AV.sl [] (0 : Nat) Room.nil, I 2], H.mk [] [] []) = (AV.tup [AV.sl [] (0 : Nat) Room.nil, I 2], H.mk [] [] [])) (by kernel_rfl) ?_
  refine ⟨acall_b (acall_hit (c := c56.to) (t, r) _ rfl p56) hb, ?_⟩
  first | with_reducible rfl | (refine bleaf_t ?_; omega) | (refine bleaf_f ?_; omega) | (refine ileaf ?_; omega) | rfl | (exfalso; omega)
end Go.Proofs.Rnk

