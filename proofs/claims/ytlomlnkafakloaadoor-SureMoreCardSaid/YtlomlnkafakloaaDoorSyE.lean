/- Layer 5: a list that is copied is new. -/
import Derived.Test.YtlomlnkafakloaaDoorSuI
import Derived.KernelRfl
set_option linter.unusedSimpArgs false
set_option linter.unusedVariables false
set_option linter.unnecessarySimpa false
set_option maxHeartbeats 4000000
set_option maxRecDepth 100000
namespace Go.Proofs.Sur
open Go Go.VM

/-! a list that is copied is new -/
noncomputable def c49t : Ctr Tryd.prog where
  f := 49
  X := List Int × Nat
  args x := [.sl (ints x.1) x.2 .no]
  pre x _ := x.1 ≠ [] ∧ x.1.length = x.2 ∧ x.2 ≤ 1000000000
  res x h := (.sl (ints x.1) x.2 (.tok h.toks.length 1), ⟨h.blk, h.toks ++ [x.2], h.maps⟩)
  det := by
    rintro ⟨l, n⟩ ⟨l', n'⟩ h e _ _
    simp at e
    obtain ⟨e1, e2⟩ := e
    subst e1 e2
    rfl
  ok := by
    rintro ⟨l, n⟩ h ⟨h1, h2, h3⟩
    refine ⟨ok49.call, ?_⟩
    simp only at h1 h2 h3
    have hc : CallOk Tryd.prog 49 [.sl (ints l) n .no] .nil (.sl (ints l) n (.tok 0 1)) ⟨[], [n], []⟩ := by
      cases l with
      | nil => exact absurd rfl h1
      | cons x l => exact (r49 x l n h2 h3).run ok49 .nil rfl
    have := frame_call (ts := [n]) (ms := []) hc (by simp [AV.bnds, AV.bnd, Room.bnd]) h
    have e : (AV.sl (ints l) n (.tok 0 1)).shift h.toks.length h.maps.length = .sl (ints l) n (.tok h.toks.length 1) := by
      have := AV.shifts_pure (dt := h.toks.length) (dm := h.maps.length) (ints l) (by simp)
      simp [AV.shift, Room.shift, this]
    rw [e] at this
    simpa using this
abbrev M49 : FuncId → Bool := (· == 49)
theorem ok19t : FokM Tryd.prog M49 19 Tryd.f19 := ⟨mixed, by kernel_rfl, by kernel_rfl, by kernel_rfl, by kernel_rfl⟩
theorem r19t (l : List Int) (hb : lim l.length) (hne : l ≠ []) : Body (En6 [c49t]) M49 Tryd.f19 [ls l .no] .nil (.sl (ints (cut l)) (cut l).length (.tok 0 1), ⟨[], [(cut l).length], []⟩) := by
  have hk : (l.take (pick2 false (l.length : Int) 80).toNat) = cut l ∧ (pick2 false (l.length : Int) 80).toNat = (cut l).length ∧ 0 ≤ pick2 false (l.length : Int) 80 ∧ pick2 false (l.length : Int) 80 ≤ 80 ∧ pick2 false (l.length : Int) 80 ≤ l.length := by
    simp only [pick2, Bool.false_eq_true, if_false, cut, List.length_take]
    by_cases h : (80 : Int) < l.length
    · rw [if_pos h]; refine ⟨rfl, by simp; omega, by omega, by omega, by omega⟩
    · rw [if_neg h]
      have : l.length ≤ 80 := by omega
      refine ⟨?_, by simp; omega, by omega, by omega, by omega⟩
      rw [List.take_of_length_le this, List.take_of_length_le (by simp)]
  have hc : cut l ≠ [] := fun e => by
    have h1 : (cut l).length = min 80 l.length := by simp [cut]
    rw [e] at h1
    have := List.length_pos_iff.2 hne
    simp at h1; omega
  have p49 : l.take (pick2 false (l.length : Int) 80).toNat ≠ [] ∧ (l.take (pick2 false (l.length : Int) 80).toNat).length = (pick2 false (l.length : Int) 80).toNat ∧ (pick2 false (l.length : Int) 80).toNat ≤ 1000000000 := ⟨by rw [hk.1]; exact hc, by rw [hk.1, hk.2.1], by omega⟩
  refine body_s ([Ans.o (Orc.val 7 (AV.sl (ints (List.take (pick2 false (↑l.length : Int) (80 : Int)).toNat l)) (pick2 false (↑l.length : Int) (80 : Int)).toNat Room.no) H.nil), Ans.o (Orc.val 8 (AV.sl (ints (List.take (pick2 false (↑l.length : Int) (80 : Int)).toNat l)) (pick2 false (↑l.length : Int) (80 : Int)).toNat (Room.tok 0 1)) (H.mk [] [(pick2 false (↑l.length : Int) (80 : Int)).toNat] []))]) (aSlice Tryd.prog (22 : Nat) (AV.sl (ints l) l.length Room.no) none (some (I (pick2 false (↑l.length : Int) (80 : Int)))) none (H.mk [] [] []) = some (AV.sl (ints (List.take (pick2 false (↑l.length : Int) (80 : Int)).toNat l)) (pick2 false (↑l.length : Int) (80 : Int)).toNat Room.no) ∧ aCall (Sof [c49t]) (AV.fn (Fn.func (49 : Nat)) [] []) [AV.sl (ints (List.take (pick2 false (↑l.length : Int) (80 : Int)).toNat l)) (pick2 false (↑l.length : Int) (80 : Int)).toNat Room.no] (H.mk [] [] []) = some (AV.sl (ints (List.take (pick2 false (↑l.length : Int) (80 : Int)).toNat l)) (pick2 false (↑l.length : Int) (80 : Int)).toNat (Room.tok 0 1), H.mk [] [(pick2 false (↑l.length : Int) (80 : Int)).toNat] []) ∧ leave (Base.mk H.nil.blk.length H.nil.toks.length H.nil.maps.length) (AV.sl (ints (List.take (pick2 false (↑l.length : Int) (80 : Int)).toNat l)) (pick2 false (↑l.length : Int) (80 : Int)).toNat (Room.tok 0 1)) (H.mk [] [(pick2 false (↑l.length : Int) (80 : Int)).toNat] []) = (AV.sl (ints (cut l)) (cut l).length (Room.tok 0 1), H.mk [] [(cut l).length] [])) (by kernel_rfl) ?_
  refine ⟨sl_ints (by kernel_rfl) hk.2.2.1 hk.2.2.2.2, ?_⟩
  refine ⟨acall_hit (c := c49t) (l.take (pick2 false (l.length : Int) 80).toNat, (pick2 false (l.length : Int) 80).toNat) _ rfl p49, ?_⟩
  (rw [hk.1, hk.2.1]; exact leave_ints (cut l) _)
end Go.Proofs.Sur

