/- Layer 2: pairs copied. -/
import Derived.Test.YtnnhomkkggkkfaaDoorRkAi
import Derived.KernelRfl
set_option linter.unusedSimpArgs false
set_option linter.unusedVariables false
set_option linter.unnecessarySimpa false
set_option maxHeartbeats 4000000
set_option maxRecDepth 100000
namespace Go.Proofs.Rnk
open Go Go.VM
open Go.Proofs.Sur (andn andn_bit andn_le i_wrap i_and i_or i_andn i_shl i_shr bit_01)

theorem ok82 : FokM Tryd.prog none1 82 Tryd.f82 := ⟨mixed, by kernel_rfl, by kernel_rfl, by kernel_rfl, by kernel_rfl⟩
theorem r82 (x : Pr) (l : List Pr) (n : Nat) (hn : (x :: l).length = n) (hb : n ≤ 1000000000) : Body (En6 []) none1 Tryd.f82 [.sl (pairsA (x :: l)) n .no] .nil (.sl (pairsA (x :: l)) n (.tok 0 2), ⟨[], [n], []⟩) := by
  have h0 : n ≠ 0 := by subst hn; simp
  refine body_s ([Ans.o (Orc.val 7 (AV.sl (pairsA (x :: l)) n (Room.tok 0 2)) (H.mk [] [n] []))]) (aAppend Tryd.prog (45 : Nat) (45 : Nat) (AV.sl [] (0 : Nat) Room.full) (AV.sl (pairsA (x :: l)) n Room.no) (H.mk [] [] []) = some (AV.sl (pairsA (x :: l)) n (Room.tok 0 2), H.mk [] [n] []) ∧ leave (Base.mk H.nil.blk.length H.nil.toks.length H.nil.maps.length) (AV.sl (pairsA (x :: l)) n (Room.tok 0 2)) (H.mk [] [n] []) = (AV.sl (pairsA (x :: l)) n (Room.tok 0 2), H.mk [] [n] [])) (by kernel_rfl) ?_
  refine ⟨app_new2 (by kernel_rfl) h0 hn (by omega), ?_⟩
  exact leave_pairs _ _
theorem r82z : Body (En6 []) none1 Tryd.f82 [.sl (pairsA []) 0 .no] .nil (.sl [] 0 .full, .nil) := by
  refine body_s ([]) ((AV.sl [] (0 : Nat) Room.full, H.mk [] [] []) = (AV.sl [] (0 : Nat) Room.full, H.mk [] [] [])) (by kernel_rfl) ?_
  first | with_reducible rfl | (refine bleaf_t ?_; omega) | (refine bleaf_f ?_; omega) | (refine ileaf ?_; omega) | rfl | (exfalso; omega)
theorem r82e : Body (En6 []) none1 Tryd.f82 [.sl (pairsA []) 0 .e] .nil (.sl [] 0 .full, .nil) := by
  refine body_s ([]) ((AV.sl [] (0 : Nat) Room.full, H.mk [] [] []) = (AV.sl [] (0 : Nat) Room.full, H.mk [] [] [])) (by kernel_rfl) ?_
  first | with_reducible rfl | (refine bleaf_t ?_; omega) | (refine bleaf_f ?_; omega) | (refine ileaf ?_; omega) | rfl | (exfalso; omega)
theorem r82n : Body (En6 []) none1 Tryd.f82 [.sl (pairsA []) 0 .nil] .nil (.sl [] 0 .nil, .nil) := by
  refine body_s ([]) ((AV.sl [] (0 : Nat) Room.nil, H.mk [] [] []) = (AV.sl [] (0 : Nat) Room.nil, H.mk [] [] [])) (by kernel_rfl) ?_
  first | with_reducible rfl | (refine bleaf_t ?_; omega) | (refine bleaf_f ?_; omega) | (refine ileaf ?_; omega) | rfl | (exfalso; omega)
theorem clone_nop (l : List Pr) (n : Nat) (hn : l.length = n) (hb : n ≤ 1000000000) (H : H) : CallOk Tryd.prog 82 [.sl (pairsA l) n .no] H (.sl (pairsA l) n .no) H := by
  subst hn
  cases l with
  | nil => exact pure_call ((r82z.run ok82 .nil rfl).drop rfl) rfl rfl H
  | cons x l =>
    have := ((r82 x l _ rfl hb).run ok82 .nil rfl).drop (by show AV.plains (pairsA (x :: l)) = true; exact plains_pairs _)
    simp only [AV.wkd, wkds_pairs, Room.wk] at this
    exact pure_call this (by simp [AV.bnds, AV.bnd, Room.bnd, -pairsA_cons]) (by simp [AV.bnd, Room.bnd, -pairsA_cons]) H
/-- 'Clone' of pairs -/
noncomputable def c82 : PCtr Tryd.prog where
  f := 82
  X := List Pr × Room × Nat
  args x := [.sl (pairsA x.1) x.2.2 x.2.1]
  pre x := x.1.length = x.2.2 ∧ x.2.2 ≤ 1000000000 ∧ rok x.1 x.2.1 ∧ emp x.1 x.2.1
  v x := .sl (pairsA x.1) x.2.2 (rcl x.2.1)
  det := by
    rintro ⟨l, r, n⟩ ⟨l', r', n'⟩ e _ _
    simp only [List.cons.injEq, AV.sl.injEq, and_true] at e
    obtain ⟨e1, rfl, rfl⟩ := e
    rw [pairsA_inj e1]
  ok := by
    rintro ⟨l, r, n⟩ ⟨hn, hb, hr, he⟩
    refine ⟨ok82.call, fun H => ?_⟩
    have hno := clone_nop l n hn hb H
    cases r with
    | nil =>
      have : l = [] := Classical.byContradiction fun h => hr h rfl
      subst this
      simp at hn; subst hn
      exact pure_call ((r82n.run ok82 .nil rfl).drop rfl) rfl rfl H
    | e =>
      have := he rfl
      subst this
      simp at hn; subst hn
      exact pure_call ((r82e.run ok82 .nil rfl).drop rfl) rfl rfl H
    | no => exact hno
    | full => exact CallOk.wk (args := [.sl (pairsA l) n .full]) hno
    | tok t z => exact CallOk.wk (args := [.sl (pairsA l) n (.tok t z)]) hno
noncomputable def c82n : PCtr Tryd.prog := at1 c82 ([], .nil, 0) ⟨rfl, by decide, fun h => absurd rfl h, fun _ => rfl⟩ [.sl [] 0 .nil] (.sl [] 0 .nil) rfl rfl
noncomputable def c82e : PCtr Tryd.prog := at1 c82 ([], .e, 0) ⟨rfl, by decide, fun h => absurd rfl h, fun _ => rfl⟩ [.sl [] 0 .e] (.sl [] 0 .no) rfl rfl
abbrev cutp (l : List Pr) : List Pr := l.take 32
theorem ok48 : FokM Tryd.prog none1 48 Tryd.f48 := ⟨mixed, by kernel_rfl, by kernel_rfl, by kernel_rfl, by kernel_rfl⟩
theorem r48 (l : List Pr) (hb : lim l.length) : Body (En6 [c82.to]) none1 Tryd.f48 [pz l .no] .nil (pz (cutp l) .no, .nil) := by
  have hk : (l.take (pick2 false (l.length : Int) 32).toNat) = cutp l ∧ (pick2 false (l.length : Int) 32).toNat = (cutp l).length ∧ 0 ≤ pick2 false (l.length : Int) 32 ∧ pick2 false (l.length : Int) 32 ≤ 32 ∧ pick2 false (l.length : Int) 32 ≤ l.length := by
    simp only [pick2, Bool.false_eq_true, if_false, cutp, List.length_take]
    by_cases h : (32 : Int) < l.length
    · rw [if_pos h]; refine ⟨rfl, by simp; omega, by omega, by omega, by omega⟩
    · rw [if_neg h]
      have : l.length ≤ 32 := by omega
      refine ⟨?_, by simp; omega, by omega, by omega, by omega⟩
      rw [List.take_of_length_le this, List.take_of_length_le (by simp)]
  have p82 : (l.take (pick2 false (l.length : Int) 32).toNat).length = (pick2 false (l.length : Int) 32).toNat ∧ (pick2 false (l.length : Int) 32).toNat ≤ 1000000000 ∧ rok (l.take (pick2 false (l.length : Int) 32).toNat) .no ∧ emp (l.take (pick2 false (l.length : Int) 32).toNat) .no := ⟨by rw [hk.1, hk.2.1], by omega, fun _ => no_ne, fun h => by cases h⟩
  refine body_s ([Ans.o (Orc.val 7 (AV.sl (pairsA (List.take (pick2 false (↑l.length : Int) (32 : Int)).toNat l)) (pick2 false (↑l.length : Int) (32 : Int)).toNat Room.no) H.nil), Ans.o (Orc.val 8 (AV.sl (pairsA (List.take (pick2 false (↑l.length : Int) (32 : Int)).toNat l)) (pick2 false (↑l.length : Int) (32 : Int)).toNat Room.no) (H.mk [] [] []))]) (aSlice Tryd.prog (45 : Nat) (AV.sl (pairsA l) l.length Room.no) none (some (I (pick2 false (↑l.length : Int) (32 : Int)))) none (H.mk [] [] []) = some (AV.sl (pairsA (List.take (pick2 false (↑l.length : Int) (32 : Int)).toNat l)) (pick2 false (↑l.length : Int) (32 : Int)).toNat Room.no) ∧ aCall (Sof [c82.to]) (AV.fn (Fn.func (82 : Nat)) [] []) [AV.sl (pairsA (List.take (pick2 false (↑l.length : Int) (32 : Int)).toNat l)) (pick2 false (↑l.length : Int) (32 : Int)).toNat Room.no] (H.mk [] [] []) = some (AV.sl (pairsA (List.take (pick2 false (↑l.length : Int) (32 : Int)).toNat l)) (pick2 false (↑l.length : Int) (32 : Int)).toNat Room.no, H.mk [] [] []) ∧ leave (Base.mk H.nil.blk.length H.nil.toks.length H.nil.maps.length) (AV.sl (pairsA (List.take (pick2 false (↑l.length : Int) (32 : Int)).toNat l)) (pick2 false (↑l.length : Int) (32 : Int)).toNat Room.no) (H.mk [] [] []) = (AV.sl (pairsA (cutp l)) (cutp l).length Room.no, H.mk [] [] [])) (by kernel_rfl) ?_
  refine ⟨sl_pairs (by kernel_rfl) hk.2.2.1 hk.2.2.2.2, ?_⟩
  refine ⟨acall_hit (c := c82.to) (l.take (pick2 false (l.length : Int) 32).toNat, .no, (pick2 false (l.length : Int) 32).toNat) _ rfl p82, ?_⟩
  (rw [hk.1, hk.2.1]; exact leave_bs [] (by simp [AV.bnd, Room.bnd]))
theorem r48n : Body (En6 [c82n.to]) none1 Tryd.f48 [pz [] .nil] .nil (pz [] .nil, .nil) := by
  refine body_s ([Ans.o (Orc.val 8 (AV.sl [] (0 : Nat) Room.nil) (H.mk [] [] []))]) (aCall (Sof [c82n.to]) (AV.fn (Fn.func (82 : Nat)) [] []) [AV.sl [] (0 : Nat) Room.nil] (H.mk [] [] []) = some (AV.sl [] (0 : Nat) Room.nil, H.mk [] [] []) ∧ (AV.sl [] (0 : Nat) Room.nil, H.mk [] [] []) = (AV.sl (pairsA []) (0 : Nat) Room.nil, H.mk [] [] [])) (by kernel_rfl) ?_
  refine ⟨acall_hit (c := c82n.to) () _ rfl trivial, ?_⟩
  first | with_reducible rfl | (refine bleaf_t ?_; omega) | (refine bleaf_f ?_; omega) | (refine ileaf ?_; omega) | rfl | (exfalso; omega)
theorem r48e : Body (En6 [c82e.to]) none1 Tryd.f48 [pz [] .e] .nil (pz [] .no, .nil) := by
  refine body_s ([Ans.o (Orc.val 8 (AV.sl [] (0 : Nat) Room.no) (H.mk [] [] []))]) (aCall (Sof [c82e.to]) (AV.fn (Fn.func (82 : Nat)) [] []) [AV.sl [] (0 : Nat) Room.e] (H.mk [] [] []) = some (AV.sl [] (0 : Nat) Room.no, H.mk [] [] []) ∧ (AV.sl [] (0 : Nat) Room.no, H.mk [] [] []) = (AV.sl (pairsA []) (0 : Nat) Room.no, H.mk [] [] [])) (by kernel_rfl) ?_
  refine ⟨acall_hit (c := c82e.to) () _ rfl trivial, ?_⟩
  first | with_reducible rfl | (refine bleaf_t ?_; omega) | (refine bleaf_f ?_; omega) | (refine ileaf ?_; omega) | rfl | (exfalso; omega)
/-- 'pairs' -/
noncomputable def c48 : PCtr Tryd.prog where
  f := 48
  X := List Pr × Room
  args x := [pz x.1 x.2]
  pre x := lim x.1.length ∧ rok x.1 x.2 ∧ emp x.1 x.2
  v x := pz (cutp x.1) (rcl x.2)
  det := by
    rintro ⟨l, r⟩ ⟨l', r'⟩ e _ _
    simp only [List.cons.injEq, AV.sl.injEq, and_true] at e
    obtain ⟨e1, _, rfl⟩ := e
    rw [pairsA_inj e1]
  ok := by
    rintro ⟨l, r⟩ ⟨hb, hr, he⟩
    refine ⟨ok48.call, fun H => ?_⟩
    have hno : CallOk Tryd.prog 48 [pz l .no] H (pz (cutp l) .no) H := pure_call ((r48 l hb).run ok48 (.pure _ .nil) rfl) (by simp [AV.bnds, AV.bnd, Room.bnd]) (by simp [AV.bnd, Room.bnd]) H
    cases r with
    | nil =>
      have : l = [] := Classical.byContradiction fun h => hr h rfl
      subst this
      exact pure_call (r48n.run ok48 (.pure _ .nil) rfl) rfl rfl H
    | e =>
      have := he rfl
      subst this
      exact pure_call (r48e.run ok48 (.pure _ .nil) rfl) rfl rfl H
    | no => exact hno
    | full => exact CallOk.wk (args := [pz l .full]) hno
    | tok t z => exact CallOk.wk (args := [pz l (.tok t z)]) hno
theorem cutp_id {l : List Pr} (h : l.length ≤ 32) : cutp l = l := List.take_of_length_le h
theorem cutp_PB {n : Nat} {l : List Pr} : PB n (cutp l) ↔ PB n l := by
  by_cases h : l.length ≤ 32
  · rw [cutp_id h]
  · constructor
    · intro k
      have := k.le
      simp only [cutp, List.length_take] at this
      omega
    · intro k
      have := k.le
      omega
end Go.Proofs.Rnk

