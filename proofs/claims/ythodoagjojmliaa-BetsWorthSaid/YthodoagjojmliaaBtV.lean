/- Layer 9: races: copies of lists; what a race is, by the program and by the reference. -/
import Derived.Test.YthodoagjojmliaaBtS
import Derived.KernelRfl
set_option linter.unusedSimpArgs false
set_option linter.unusedVariables false
set_option linter.unnecessarySimpa false
set_option maxHeartbeats 4000000
set_option maxRecDepth 100000
namespace Go.Proofs.Bts
open Go Go.VM
open Go.Proofs.Sur (i_and i_shl i_shr bit_01)

theorem ok62 : FokM Try.prog none1 62 Try.f62 := ⟨mixed, by kernel_rfl, by kernel_rfl, by kernel_rfl, by kernel_rfl⟩
theorem r62 (x : Int) (l : List Int) (n : Nat) (hn : (x :: l).length = n) (hb : n ≤ 1000000000) : Body (En6 []) none1 Try.f62 [.sl (ints (x :: l)) n .no] .nil (.sl (ints (x :: l)) n (.tok 0 1), ⟨[], [n], []⟩) := by
  have h0 : n ≠ 0 := by subst hn; simp
  refine body_s ([Ans.o (Orc.val 7 (AV.sl (ints (x :: l)) n (Room.tok 0 1)) (H.mk [] [n] []))]) (aAppend Try.prog (36 : Nat) (36 : Nat) (AV.sl [] (0 : Nat) Room.full) (AV.sl (ints (x :: l)) n Room.no) (H.mk [] [] []) = some (AV.sl (ints (x :: l)) n (Room.tok 0 1), H.mk [] [n] []) ∧ leave (Base.mk H.nil.blk.length H.nil.toks.length H.nil.maps.length) (AV.sl (ints (x :: l)) n (Room.tok 0 1)) (H.mk [] [n] []) = (AV.sl (ints (x :: l)) n (Room.tok 0 1), H.mk [] [n] [])) (by kernel_rfl) ?_
  refine ⟨app_new (by kernel_rfl) h0 (by simpa using hn) (ints_one _) (by omega), ?_⟩
  exact leave_ints _ _
theorem r62z : Body (En6 []) none1 Try.f62 [.sl (ints []) 0 .no] .nil (.sl [] 0 .full, .nil) := by
  refine body_s ([]) ((AV.sl [] (0 : Nat) Room.full, H.mk [] [] []) = (AV.sl [] (0 : Nat) Room.full, H.mk [] [] [])) (by kernel_rfl) ?_
  first | with_reducible rfl | (refine bleaf_t ?_; omega) | (refine bleaf_f ?_; omega) | (refine ileaf ?_; omega) | rfl | (exfalso; omega)
theorem r62e : Body (En6 []) none1 Try.f62 [.sl (ints []) 0 .e] .nil (.sl [] 0 .full, .nil) := by
  refine body_s ([]) ((AV.sl [] (0 : Nat) Room.full, H.mk [] [] []) = (AV.sl [] (0 : Nat) Room.full, H.mk [] [] [])) (by kernel_rfl) ?_
  first | with_reducible rfl | (refine bleaf_t ?_; omega) | (refine bleaf_f ?_; omega) | (refine ileaf ?_; omega) | rfl | (exfalso; omega)
theorem r62n : Body (En6 []) none1 Try.f62 [.sl (ints []) 0 .nil] .nil (.sl [] 0 .nil, .nil) := by
  refine body_s ([]) ((AV.sl [] (0 : Nat) Room.nil, H.mk [] [] []) = (AV.sl [] (0 : Nat) Room.nil, H.mk [] [] [])) (by kernel_rfl) ?_
  first | with_reducible rfl | (refine bleaf_t ?_; omega) | (refine bleaf_f ?_; omega) | (refine ileaf ?_; omega) | rfl | (exfalso; omega)
abbrev em (l : List Int) (r : Room) : Prop := r = .e → l = []
theorem clonei_no (l : List Int) (n : Nat) (hn : l.length = n) (hb : n ≤ 1000000000) (H : H) : CallOk Try.prog 62 [.sl (ints l) n .no] H (.sl (ints l) n .no) H := by
  subst hn
  cases l with
  | nil => exact pure_call ((r62z.run ok62 .nil rfl).drop rfl) rfl rfl H
  | cons x l =>
    have := ((r62 x l _ rfl hb).run ok62 .nil rfl).drop (by show AV.plains (ints (x :: l)) = true; exact plains_ints _)
    simp only [AV.wkd, wkds_ints, Room.wk] at this
    exact pure_call this (by simp [AV.bnds, AV.bnd, Room.bnd, -ints_cons]) (by simp [AV.bnd, Room.bnd, -ints_cons]) H
/-- 'Clone' -/
noncomputable def c62 : PCtr Try.prog where
  f := 62
  X := List Int × Room × Nat
  args x := [.sl (ints x.1) x.2.2 x.2.1]
  pre x := x.1.length = x.2.2 ∧ x.2.2 ≤ 1000000000 ∧ rok x.1 x.2.1 ∧ em x.1 x.2.1
  v x := .sl (ints x.1) x.2.2 (rcl x.2.1)
  det := by
    rintro ⟨l, r, n⟩ ⟨l', r', n'⟩ e _ _
    simp at e
    simp [e]
  ok := by
    rintro ⟨l, r, n⟩ ⟨hn, hb, hr, he⟩
    refine ⟨ok62.call, fun H => ?_⟩
    have hno := clonei_no l n hn hb H
    cases r with
    | nil =>
      have : l = [] := Classical.byContradiction fun h => hr h rfl
      subst this
      simp at hn; subst hn
      exact pure_call ((r62n.run ok62 .nil rfl).drop rfl) rfl rfl H
    | e =>
      have := he rfl
      subst this
      simp at hn; subst hn
      exact pure_call ((r62e.run ok62 .nil rfl).drop rfl) rfl rfl H
    | no => exact hno
    | full => exact CallOk.wk (args := [.sl (ints l) n .full]) hno
    | tok t z => exact CallOk.wk (args := [.sl (ints l) n (.tok t z)]) hno
noncomputable def c62n : PCtr Try.prog := at1 c62 ([], .nil, 0) ⟨rfl, by decide, fun h => absurd rfl h, fun _ => rfl⟩ [.sl [] 0 .nil] (.sl [] 0 .nil) rfl rfl
noncomputable def c62e : PCtr Try.prog := at1 c62 ([], .e, 0) ⟨rfl, by decide, fun h => absurd rfl h, fun _ => rfl⟩ [.sl [] 0 .e] (.sl [] 0 .no) rfl rfl
abbrev cuti (l : List Int) : List Int := l.take 8
theorem ok40 : FokM Try.prog none1 40 Try.f40 := ⟨mixed, by kernel_rfl, by kernel_rfl, by kernel_rfl, by kernel_rfl⟩
theorem r40 (l : List Int) (hb : lim l.length) : Body (En6 [c62.to]) none1 Try.f40 [ls l .no] .nil (ls (cuti l) .no, .nil) := by
  have hk : (l.take (pick2 false (l.length : Int) 8).toNat) = cuti l ∧ (pick2 false (l.length : Int) 8).toNat = (cuti l).length ∧ 0 ≤ pick2 false (l.length : Int) 8 ∧ pick2 false (l.length : Int) 8 ≤ 8 ∧ pick2 false (l.length : Int) 8 ≤ l.length := by
    simp only [pick2, Bool.false_eq_true, if_false, cuti, List.length_take]
    by_cases h : (8 : Int) < l.length
    · rw [if_pos h]; refine ⟨rfl, by simp; omega, by omega, by omega, by omega⟩
    · rw [if_neg h]
      have : l.length ≤ 8 := by omega
      refine ⟨?_, by simp; omega, by omega, by omega, by omega⟩
      rw [List.take_of_length_le this, List.take_of_length_le (by simp)]
  have p62 : (l.take (pick2 false (l.length : Int) 8).toNat).length = (pick2 false (l.length : Int) 8).toNat ∧ (pick2 false (l.length : Int) 8).toNat ≤ 1000000000 ∧ rok (l.take (pick2 false (l.length : Int) 8).toNat) .no ∧ em (l.take (pick2 false (l.length : Int) 8).toNat) .no := ⟨by rw [hk.1, hk.2.1], by omega, fun _ => no_ne, fun h => by cases h⟩
  refine body_s ([Ans.o (Orc.val 7 (AV.sl (ints (List.take (pick2 false (↑l.length : Int) (8 : Int)).toNat l)) (pick2 false (↑l.length : Int) (8 : Int)).toNat Room.no) H.nil), Ans.o (Orc.val 8 (AV.sl (ints (List.take (pick2 false (↑l.length : Int) (8 : Int)).toNat l)) (pick2 false (↑l.length : Int) (8 : Int)).toNat Room.no) (H.mk [] [] []))]) (aSlice Try.prog (36 : Nat) (AV.sl (ints l) l.length Room.no) none (some (I (pick2 false (↑l.length : Int) (8 : Int)))) none (H.mk [] [] []) = some (AV.sl (ints (List.take (pick2 false (↑l.length : Int) (8 : Int)).toNat l)) (pick2 false (↑l.length : Int) (8 : Int)).toNat Room.no) ∧ aCall (Sof [c62.to]) (AV.fn (Fn.func (62 : Nat)) [] []) [AV.sl (ints (List.take (pick2 false (↑l.length : Int) (8 : Int)).toNat l)) (pick2 false (↑l.length : Int) (8 : Int)).toNat Room.no] (H.mk [] [] []) = some (AV.sl (ints (List.take (pick2 false (↑l.length : Int) (8 : Int)).toNat l)) (pick2 false (↑l.length : Int) (8 : Int)).toNat Room.no, H.mk [] [] []) ∧ leave (Base.mk H.nil.blk.length H.nil.toks.length H.nil.maps.length) (AV.sl (ints (List.take (pick2 false (↑l.length : Int) (8 : Int)).toNat l)) (pick2 false (↑l.length : Int) (8 : Int)).toNat Room.no) (H.mk [] [] []) = (AV.sl (ints (cuti l)) (cuti l).length Room.no, H.mk [] [] [])) (by kernel_rfl) ?_
  refine ⟨sl_ints (by kernel_rfl) hk.2.2.1 hk.2.2.2.2, ?_⟩
  refine ⟨acall_hit (c := c62.to) (l.take (pick2 false (l.length : Int) 8).toNat, .no, (pick2 false (l.length : Int) 8).toNat) _ rfl p62, ?_⟩
  (rw [hk.1, hk.2.1]; exact leave_bs [] (by simp [AV.bnd, Room.bnd]))
theorem r40n : Body (En6 [c62n.to]) none1 Try.f40 [ls [] .nil] .nil (ls [] .nil, .nil) := by
  refine body_s ([Ans.o (Orc.val 8 (AV.sl [] (0 : Nat) Room.nil) (H.mk [] [] []))]) (aCall (Sof [c62n.to]) (AV.fn (Fn.func (62 : Nat)) [] []) [AV.sl [] (0 : Nat) Room.nil] (H.mk [] [] []) = some (AV.sl [] (0 : Nat) Room.nil, H.mk [] [] []) ∧ (AV.sl [] (0 : Nat) Room.nil, H.mk [] [] []) = (AV.sl (ints []) (0 : Nat) Room.nil, H.mk [] [] [])) (by kernel_rfl) ?_
  refine ⟨acall_hit (c := c62n.to) () _ rfl trivial, ?_⟩
  first | with_reducible rfl | (refine bleaf_t ?_; omega) | (refine bleaf_f ?_; omega) | (refine ileaf ?_; omega) | rfl | (exfalso; omega)
theorem r40e : Body (En6 [c62e.to]) none1 Try.f40 [ls [] .e] .nil (ls [] .no, .nil) := by
  refine body_s ([Ans.o (Orc.val 8 (AV.sl [] (0 : Nat) Room.no) (H.mk [] [] []))]) (aCall (Sof [c62e.to]) (AV.fn (Fn.func (62 : Nat)) [] []) [AV.sl [] (0 : Nat) Room.e] (H.mk [] [] []) = some (AV.sl [] (0 : Nat) Room.no, H.mk [] [] []) ∧ (AV.sl [] (0 : Nat) Room.no, H.mk [] [] []) = (AV.sl (ints []) (0 : Nat) Room.no, H.mk [] [] [])) (by kernel_rfl) ?_
  refine ⟨acall_hit (c := c62e.to) () _ rfl trivial, ?_⟩
  first | with_reducible rfl | (refine bleaf_t ?_; omega) | (refine bleaf_f ?_; omega) | (refine ileaf ?_; omega) | rfl | (exfalso; omega)
/-- 'list' -/
noncomputable def c40 : PCtr Try.prog where
  f := 40
  X := List Int × Room
  args x := [ls x.1 x.2]
  pre x := lim x.1.length ∧ rok x.1 x.2 ∧ em x.1 x.2
  v x := ls (cuti x.1) (rcl x.2)
  det := by
    rintro ⟨l, r⟩ ⟨l', r'⟩ e _ _
    simp at e
    simp [e]
  ok := by
    rintro ⟨l, r⟩ ⟨hb, hr, he⟩
    refine ⟨ok40.call, fun H => ?_⟩
    have hno : CallOk Try.prog 40 [ls l .no] H (ls (cuti l) .no) H := pure_call ((r40 l hb).run ok40 (.pure _ .nil) rfl) (by simp [AV.bnds, AV.bnd, Room.bnd]) (by simp [AV.bnd, Room.bnd]) H
    cases r with
    | nil =>
      have : l = [] := Classical.byContradiction fun h => hr h rfl
      subst this
      exact pure_call (r40n.run ok40 (.pure _ .nil) rfl) rfl rfl H
    | e =>
      have := he rfl
      subst this
      exact pure_call (r40e.run ok40 (.pure _ .nil) rfl) rfl rfl H
    | no => exact hno
    | full => exact CallOk.wk (args := [ls l .full]) hno
    | tok t z => exact CallOk.wk (args := [ls l (.tok t z)]) hno
theorem cuti_id {l : List Int} (h : l.length ≤ 8) : cuti l = l := List.take_of_length_le h
end Go.Proofs.Bts

