/- Layer 7: pairs, copied and judged; slices compared. -/
import Derived.Test.YtmgbglnljnlapaaOrS
import Derived.Test.YtmgbglnljnlapaaVm6
import Derived.KernelRfl
set_option linter.unusedSimpArgs false
set_option linter.unusedVariables false
set_option linter.unnecessarySimpa false
set_option maxHeartbeats 4000000
set_option maxRecDepth 100000
namespace Go.Proofs.Ord
open Go Go.VM
open Go.Proofs.Sur (andn andn_bit andn_le i_wrap i_and i_or i_andn i_shl i_shr bit_01)

abbrev emp (l : List Pr) (r : Room) : Prop := r = .e → l = []
theorem ok63 : FokM Try.prog none1 63 Try.f63 := ⟨mixed, by kernel_rfl, by kernel_rfl, by kernel_rfl, by kernel_rfl⟩
theorem r63 (x : Pr) (l : List Pr) (n : Nat) (hn : (x :: l).length = n) (hb : n ≤ 1000000000) : Body (En6 []) none1 Try.f63 [.sl (pairsA (x :: l)) n .no] .nil (.sl (pairsA (x :: l)) n (.tok 0 2), ⟨[], [n], []⟩) := by
  have h0 : n ≠ 0 := by subst hn; simp
  refine body_s ([Ans.o (Orc.val 7 (AV.sl (pairsA (x :: l)) n (Room.tok 0 2)) (H.mk [] [n] []))]) (aAppend Try.prog (22 : Nat) (22 : Nat) (AV.sl [] (0 : Nat) Room.full) (AV.sl (pairsA (x :: l)) n Room.no) (H.mk [] [] []) = some (AV.sl (pairsA (x :: l)) n (Room.tok 0 2), H.mk [] [n] []) ∧ leave (Base.mk H.nil.blk.length H.nil.toks.length H.nil.maps.length) (AV.sl (pairsA (x :: l)) n (Room.tok 0 2)) (H.mk [] [n] []) = (AV.sl (pairsA (x :: l)) n (Room.tok 0 2), H.mk [] [n] [])) (by kernel_rfl) ?_
  refine ⟨app_new2 (by kernel_rfl) h0 hn (by omega), ?_⟩
  exact leave_pairs _ _
theorem r63z : Body (En6 []) none1 Try.f63 [.sl (pairsA []) 0 .no] .nil (.sl [] 0 .full, .nil) := by
  refine body_s ([]) ((AV.sl [] (0 : Nat) Room.full, H.mk [] [] []) = (AV.sl [] (0 : Nat) Room.full, H.mk [] [] [])) (by kernel_rfl) ?_
  first | with_reducible rfl | (refine bleaf_t ?_; omega) | (refine bleaf_f ?_; omega) | (refine ileaf ?_; omega) | rfl | (exfalso; omega)
theorem r63e : Body (En6 []) none1 Try.f63 [.sl (pairsA []) 0 .e] .nil (.sl [] 0 .full, .nil) := by
  refine body_s ([]) ((AV.sl [] (0 : Nat) Room.full, H.mk [] [] []) = (AV.sl [] (0 : Nat) Room.full, H.mk [] [] [])) (by kernel_rfl) ?_
  first | with_reducible rfl | (refine bleaf_t ?_; omega) | (refine bleaf_f ?_; omega) | (refine ileaf ?_; omega) | rfl | (exfalso; omega)
theorem r63n : Body (En6 []) none1 Try.f63 [.sl (pairsA []) 0 .nil] .nil (.sl [] 0 .nil, .nil) := by
  refine body_s ([]) ((AV.sl [] (0 : Nat) Room.nil, H.mk [] [] []) = (AV.sl [] (0 : Nat) Room.nil, H.mk [] [] [])) (by kernel_rfl) ?_
  first | with_reducible rfl | (refine bleaf_t ?_; omega) | (refine bleaf_f ?_; omega) | (refine ileaf ?_; omega) | rfl | (exfalso; omega)
theorem clone_nop (l : List Pr) (n : Nat) (hn : l.length = n) (hb : n ≤ 1000000000) (H : H) : CallOk Try.prog 63 [.sl (pairsA l) n .no] H (.sl (pairsA l) n .no) H := by
  subst hn
  cases l with
  | nil => exact pure_call ((r63z.run ok63 .nil rfl).drop rfl) rfl rfl H
  | cons x l =>
    have := ((r63 x l _ rfl hb).run ok63 .nil rfl).drop (by show AV.plains (pairsA (x :: l)) = true; exact plains_pairs _)
    simp only [AV.wkd, wkds_pairs, Room.wk] at this
    exact pure_call this (by simp [AV.bnds, AV.bnd, Room.bnd, -pairsA_cons]) (by simp [AV.bnd, Room.bnd, -pairsA_cons]) H
/-- 'Clone' of pairs -/
noncomputable def c63 : PCtr Try.prog where
  f := 63
  X := List Pr × Room × Nat
  args x := [.sl (pairsA x.1) x.2.2 x.2.1]
  pre x := x.1.length = x.2.2 ∧ x.2.2 ≤ 1000000000 ∧ rok x.1 x.2.1 ∧ emp x.1 x.2.1
  v x := .sl (pairsA x.1) x.2.2 (rcl x.2.1)
  det := by
    rintro ⟨l, r, n⟩ ⟨l', r', n'⟩ e _ _
    simp only [List.cons.injEq, AV.sl.injEq, and_true] at e
    obtain ⟨e1, rfl, rfl⟩ := e
    rw [pairsA_inj e1]
  ok := by
    rintro ⟨l, r, n⟩ ⟨hn, hb, hr, he⟩
    refine ⟨ok63.call, fun H => ?_⟩
    have hno := clone_nop l n hn hb H
    cases r with
    | nil =>
      have : l = [] := Classical.byContradiction fun h => hr h rfl
      subst this
      simp at hn; subst hn
      exact pure_call ((r63n.run ok63 .nil rfl).drop rfl) rfl rfl H
    | e =>
      have := he rfl
      subst this
      simp at hn; subst hn
      exact pure_call ((r63e.run ok63 .nil rfl).drop rfl) rfl rfl H
    | no => exact hno
    | full => exact CallOk.wk (args := [.sl (pairsA l) n .full]) hno
    | tok t z => exact CallOk.wk (args := [.sl (pairsA l) n (.tok t z)]) hno
noncomputable def c63n : PCtr Try.prog := at1 c63 ([], .nil, 0) ⟨rfl, by decide, fun h => absurd rfl h, fun _ => rfl⟩ [.sl [] 0 .nil] (.sl [] 0 .nil) rfl rfl
noncomputable def c63e : PCtr Try.prog := at1 c63 ([], .e, 0) ⟨rfl, by decide, fun h => absurd rfl h, fun _ => rfl⟩ [.sl [] 0 .e] (.sl [] 0 .no) rfl rfl
abbrev cutp (l : List Pr) : List Pr := l.take 35
theorem ok18 : FokM Try.prog none1 18 Try.f18 := ⟨mixed, by kernel_rfl, by kernel_rfl, by kernel_rfl, by kernel_rfl⟩
theorem r18 (l : List Pr) (hb : lim l.length) : Body (En6 [c63.to]) none1 Try.f18 [pz l .no] .nil (pz (cutp l) .no, .nil) := by
  have hk : (l.take (pick2 false (l.length : Int) 35).toNat) = cutp l ∧ (pick2 false (l.length : Int) 35).toNat = (cutp l).length ∧ 0 ≤ pick2 false (l.length : Int) 35 ∧ pick2 false (l.length : Int) 35 ≤ 35 ∧ pick2 false (l.length : Int) 35 ≤ l.length := by
    simp only [pick2, Bool.false_eq_true, if_false, cutp, List.length_take]
    by_cases h : (35 : Int) < l.length
    · rw [if_pos h]; refine ⟨rfl, by simp; omega, by omega, by omega, by omega⟩
    · rw [if_neg h]
      have : l.length ≤ 35 := by omega
      refine ⟨?_, by simp; omega, by omega, by omega, by omega⟩
      rw [List.take_of_length_le this, List.take_of_length_le (by simp)]
  have p63 : (l.take (pick2 false (l.length : Int) 35).toNat).length = (pick2 false (l.length : Int) 35).toNat ∧ (pick2 false (l.length : Int) 35).toNat ≤ 1000000000 ∧ rok (l.take (pick2 false (l.length : Int) 35).toNat) .no ∧ emp (l.take (pick2 false (l.length : Int) 35).toNat) .no := ⟨by rw [hk.1, hk.2.1], by omega, fun _ => no_ne, fun h => by cases h⟩
  refine body_s ([Ans.o (Orc.val 7 (AV.sl (pairsA (List.take (pick2 false (↑l.length : Int) (35 : Int)).toNat l)) (pick2 false (↑l.length : Int) (35 : Int)).toNat Room.no) H.nil), Ans.o (Orc.val 8 (AV.sl (pairsA (List.take (pick2 false (↑l.length : Int) (35 : Int)).toNat l)) (pick2 false (↑l.length : Int) (35 : Int)).toNat Room.no) (H.mk [] [] []))]) (aSlice Try.prog (22 : Nat) (AV.sl (pairsA l) l.length Room.no) none (some (I (pick2 false (↑l.length : Int) (35 : Int)))) none (H.mk [] [] []) = some (AV.sl (pairsA (List.take (pick2 false (↑l.length : Int) (35 : Int)).toNat l)) (pick2 false (↑l.length : Int) (35 : Int)).toNat Room.no) ∧ aCall (Sof [c63.to]) (AV.fn (Fn.func (63 : Nat)) [] []) [AV.sl (pairsA (List.take (pick2 false (↑l.length : Int) (35 : Int)).toNat l)) (pick2 false (↑l.length : Int) (35 : Int)).toNat Room.no] (H.mk [] [] []) = some (AV.sl (pairsA (List.take (pick2 false (↑l.length : Int) (35 : Int)).toNat l)) (pick2 false (↑l.length : Int) (35 : Int)).toNat Room.no, H.mk [] [] []) ∧ leave (Base.mk H.nil.blk.length H.nil.toks.length H.nil.maps.length) (AV.sl (pairsA (List.take (pick2 false (↑l.length : Int) (35 : Int)).toNat l)) (pick2 false (↑l.length : Int) (35 : Int)).toNat Room.no) (H.mk [] [] []) = (AV.sl (pairsA (cutp l)) (cutp l).length Room.no, H.mk [] [] [])) (by kernel_rfl) ?_
  refine ⟨sl_pairs (by kernel_rfl) hk.2.2.1 hk.2.2.2.2, ?_⟩
  refine ⟨acall_hit (c := c63.to) (l.take (pick2 false (l.length : Int) 35).toNat, .no, (pick2 false (l.length : Int) 35).toNat) _ rfl p63, ?_⟩
  (rw [hk.1, hk.2.1]; exact leave_bs [] (by simp [AV.bnd, Room.bnd]))
theorem r18n : Body (En6 [c63n.to]) none1 Try.f18 [pz [] .nil] .nil (pz [] .nil, .nil) := by
  refine body_s ([Ans.o (Orc.val 8 (AV.sl [] (0 : Nat) Room.nil) (H.mk [] [] []))]) (aCall (Sof [c63n.to]) (AV.fn (Fn.func (63 : Nat)) [] []) [AV.sl [] (0 : Nat) Room.nil] (H.mk [] [] []) = some (AV.sl [] (0 : Nat) Room.nil, H.mk [] [] []) ∧ (AV.sl [] (0 : Nat) Room.nil, H.mk [] [] []) = (AV.sl (pairsA []) (0 : Nat) Room.nil, H.mk [] [] [])) (by kernel_rfl) ?_
  refine ⟨acall_hit (c := c63n.to) () _ rfl trivial, ?_⟩
  first | with_reducible rfl | (refine bleaf_t ?_; omega) | (refine bleaf_f ?_; omega) | (refine ileaf ?_; omega) | rfl | (exfalso; omega)
theorem r18e : Body (En6 [c63e.to]) none1 Try.f18 [pz [] .e] .nil (pz [] .no, .nil) := by
  refine body_s ([Ans.o (Orc.val 8 (AV.sl [] (0 : Nat) Room.no) (H.mk [] [] []))]) (aCall (Sof [c63e.to]) (AV.fn (Fn.func (63 : Nat)) [] []) [AV.sl [] (0 : Nat) Room.e] (H.mk [] [] []) = some (AV.sl [] (0 : Nat) Room.no, H.mk [] [] []) ∧ (AV.sl [] (0 : Nat) Room.no, H.mk [] [] []) = (AV.sl (pairsA []) (0 : Nat) Room.no, H.mk [] [] [])) (by kernel_rfl) ?_
  refine ⟨acall_hit (c := c63e.to) () _ rfl trivial, ?_⟩
  first | with_reducible rfl | (refine bleaf_t ?_; omega) | (refine bleaf_f ?_; omega) | (refine ileaf ?_; omega) | rfl | (exfalso; omega)
/-- 'pairs' -/
noncomputable def c18 : PCtr Try.prog where
  f := 18
  X := List Pr × Room
  args x := [pz x.1 x.2]
  pre x := lim x.1.length ∧ rok x.1 x.2 ∧ emp x.1 x.2
  v x := pz (cutp x.1) (rcl x.2)
  det := by
    rintro ⟨l, r⟩ ⟨l', r'⟩ e _ _
    simp only [List.cons.injEq, AV.sl.injEq, and_true] at e
    obtain ⟨e1, _, rfl⟩ := e
    rw [pairsA_inj e1]
  ok := by
    rintro ⟨l, r⟩ ⟨hb, hr, he⟩
    refine ⟨ok18.call, fun H => ?_⟩
    have hno : CallOk Try.prog 18 [pz l .no] H (pz (cutp l) .no) H := pure_call ((r18 l hb).run ok18 (.pure _ .nil) rfl) (by simp [AV.bnds, AV.bnd, Room.bnd]) (by simp [AV.bnd, Room.bnd]) H
    cases r with
    | nil =>
      have : l = [] := Classical.byContradiction fun h => hr h rfl
      subst this
      exact pure_call (r18n.run ok18 (.pure _ .nil) rfl) rfl rfl H
    | e =>
      have := he rfl
      subst this
      exact pure_call (r18e.run ok18 (.pure _ .nil) rfl) rfl rfl H
    | no => exact hno
    | full => exact CallOk.wk (args := [pz l .full]) hno
    | tok t z => exact CallOk.wk (args := [pz l (.tok t z)]) hno
theorem cutp_id {l : List Pr} (h : l.length ≤ 35) : cutp l = l := List.take_of_length_le h
theorem cutp_ok {n : Int} {l : List Pr} : clOK n (cutp l) ↔ clOK n l := by
  by_cases h : l.length ≤ 35
  · rw [cutp_id h]
  · constructor
    · intro k
      have := k.1.2
      simp only [cutp, List.length_take] at this
      omega
    · intro k
      have := k.1.2
      omega
abbrev prJ (n : Int) (l : List Pr) (k : Nat) : Prop := ((0 ≤ (l.getD k pair0).1 ∧ (l.getD k pair0).1 < n) ∧ 0 ≤ (l.getD k pair0).2) ∧ (l.getD k pair0).2 < n
abbrev prB (n : Int) (l : List Pr) : Prop := ∀ k, k < l.length → prJ n l k
theorem clOK_iff {n : Int} {l : List Pr} : clOK n l ↔ ((1 ≤ n ∧ n ≤ 6) ∧ l.length ≤ 30) ∧ prB n l := by
  constructor
  · rintro ⟨h, k⟩
    refine ⟨h, fun i hi => ?_⟩
    have := k i hi
    have := h.1
    simp only [prJ]
    omega
  · rintro ⟨h, k⟩
    refine ⟨h, fun i hi => ?_⟩
    have := k i hi
    have := h.1
    simp only [prK]
    omega
theorem clean0 (bs : List (List AV)) : H.clean ⟨bs, [], []⟩ 0 := by
  intro cs hcs
  simp at hcs
abbrev o21 (n : Int) (l : List Pr) (r : Room) : List Out :=
  [.mk (List (List AV)) .ret [4] (fun _ => ¬ prB n l) (fun _ => [.bool false]) (fun bs => ⟨bs, [], []⟩) (fun _ => []), .mk Unit (.exit 0) [0, 1] (fun _ => prB n l) (fun _ => [I n, pz l r.wk]) (fun _ => .nil) (fun _ => [])]
theorem simp21 : allSimpleM none1 (loopAt Try.f21 0) = true := by kernel_rfl
theorem lp21 (n : Int) (l : List Pr) (r : Room) (h1 : lim l.length) (h3 : rok l r.wk) :
    LoopS (En6 []) (loopAt Try.f21 0) 45 [0, 1, 7, 8, 9] [I n, pz l r.wk, pz l r.wk, I l.length, I 0] .nil (o21 n l r) := by
  have hR : Rests (En6 []) none1 := rests mixed .nil
  refine loop_s hR simp21 (some 0) (by intro nb h; cases h; exact ⟨Nat.zero_le _, Nat.le_refl 0⟩) (fun k vs H => H = .nil ∧ vs = [I n, pz l r.wk, pz l r.wk, I l.length, I (k : Nat)] ∧ ∀ i, i < k → prJ n l i) l.length ⟨rfl, rfl, fun i hi => absurd hi (by omega)⟩ (by rintro nb h j vs h' ⟨rfl, _⟩; cases h; exact Nat.le_refl 0) ?_
  rintro k vs H hk ⟨rfl, rfl, ha⟩
  by_cases hz : (k : Int) < l.length
  · have hz' : k < l.length := by omega
    have hr := rok_idx h3 hz'
    have ev0 : IntKind.i64.wrap ((k : Int) + 1) = ((k + 1 : Nat) : Int) := by rw [wr _ (by omega) (by simp only [lim] at h1; omega)]; omega
    have hcl : AV.bnds 0 0 0 [I n, pz l r.wk, pz l r.wk, I l.length, I (k + 1 : Nat)] = true := by simp [AV.bnds, AV.bnd, rm_wk_bnd]
    have bad : ∀ (h : ¬ prJ n l k), ¬ prB n l := fun h q => h (q k hz')
    by_cases x0 : (l.getD k pair0).1 < 0
    · have hn := bad (fun h => by have := h.1.1.1; omega)
      refine ⟨[Ans.o (Orc.b true), Ans.o (Orc.val 11 (AV.cptr (pairsA (List.drop k l))) H.nil), Ans.o (Orc.val 12 (AV.agg [I (l.getD k pair0).fst, I (l.getD k pair0).snd]) H.nil), Ans.o (Orc.b true)], fun u => of_eq ((↑k : Int) < (↑l.length : Int) ∧ aIndexAddr Try.prog (22 : Nat) (AV.sl (pairsA l) l.length r.wk) (I (↑k : Int)) = some (AV.cptr (pairsA (List.drop k l))) ∧ aLoad Try.prog (54 : Nat) (pairsA (List.drop k l)) = some (AV.agg [I (l.getD k pair0).fst, I (l.getD k pair0).snd]) ∧ (l.getD k pair0).fst < (0 : Int) ∧ (45 : Nat) = (45 : Nat) ∧ hits [Out.mk (List (List AV)) AX.ret [(4 : Nat)] (fun x => ¬prB n l) (fun x => [AV.bool false]) (fun bs => H.mk bs [] []) fun x => [], Out.mk Unit (AX.exit (0 : Nat)) [(0 : Nat), (1 : Nat)] (fun x => prB n l) (fun x => [I n, pz l r.wk]) (fun x => H.nil) fun x => []] AX.ret [I n, AV.sl (pairsA l) l.length r.wk, u (2 : Nat), u (3 : Nat), AV.bool false, u (5 : Nat), AV.ptr 0 0, AV.sl (pairsA l) l.length r.wk, I (↑l.length : Int), I (↑k : Int), AV.bool true, AV.cptr (pairsA (List.drop k l)), AV.agg [I (l.getD k pair0).fst, I (l.getD k pair0).snd], AV.ptr 0 0, I (l.getD k pair0).fst, AV.bool true, AV.bool true, AV.tup [], AV.tup [], AV.tup [], AV.tup [], AV.bool true, AV.bool true, AV.tup [], AV.tup [], AV.tup [], AV.bool true, AV.bool true, AV.tup [], AV.tup [], AV.tup [], AV.tup [], AV.bool true, u (33 : Nat), u (34 : Nat), u (35 : Nat), u (36 : Nat), u (37 : Nat), u (38 : Nat), u (39 : Nat), u (40 : Nat), u (41 : Nat), u (42 : Nat), u (43 : Nat), u (44 : Nat)] (H.mk [[I (l.getD k pair0).fst, I (l.getD k pair0).snd]] [] [])) (by kernel_rfl) ?_⟩
      refine ⟨by first | with_reducible assumption | omega | assumption, ?_⟩
      refine ⟨ix_pairs (by kernel_rfl) hz' hr, ?_⟩
      refine ⟨ld_pairs (by kernel_rfl) (by kernel_rfl) (by kernel_rfl) (by omega), ?_⟩
      refine ⟨by first | with_reducible assumption | omega | assumption, ?_⟩
      refine ⟨by first | with_reducible assumption | omega | assumption, ?_⟩
      exact .inl ⟨_, hn, rfl, rfl, rfl⟩
    have x0 : 0 ≤ (l.getD k pair0).1 := by omega
    by_cases x1 : n ≤ (l.getD k pair0).1
    · have hn := bad (fun h => by have := h.1.1.2; omega)
      refine ⟨[Ans.o (Orc.b true), Ans.o (Orc.val 11 (AV.cptr (pairsA (List.drop k l))) H.nil), Ans.o (Orc.val 12 (AV.agg [I (l.getD k pair0).fst, I (l.getD k pair0).snd]) H.nil), Ans.o (Orc.b false), Ans.o (Orc.b true)], fun u => of_eq ((↑k : Int) < (↑l.length : Int) ∧ aIndexAddr Try.prog (22 : Nat) (AV.sl (pairsA l) l.length r.wk) (I (↑k : Int)) = some (AV.cptr (pairsA (List.drop k l))) ∧ aLoad Try.prog (54 : Nat) (pairsA (List.drop k l)) = some (AV.agg [I (l.getD k pair0).fst, I (l.getD k pair0).snd]) ∧ (0 : Int) ≤ (l.getD k pair0).fst ∧ n ≤ (l.getD k pair0).fst ∧ (45 : Nat) = (45 : Nat) ∧ hits [Out.mk (List (List AV)) AX.ret [(4 : Nat)] (fun x => ¬prB n l) (fun x => [AV.bool false]) (fun bs => H.mk bs [] []) fun x => [], Out.mk Unit (AX.exit (0 : Nat)) [(0 : Nat), (1 : Nat)] (fun x => prB n l) (fun x => [I n, pz l r.wk]) (fun x => H.nil) fun x => []] AX.ret [I n, AV.sl (pairsA l) l.length r.wk, u (2 : Nat), u (3 : Nat), AV.bool false, u (5 : Nat), AV.ptr 0 0, AV.sl (pairsA l) l.length r.wk, I (↑l.length : Int), I (↑k : Int), AV.bool true, AV.cptr (pairsA (List.drop k l)), AV.agg [I (l.getD k pair0).fst, I (l.getD k pair0).snd], AV.ptr 0 0, I (l.getD k pair0).fst, AV.bool false, AV.bool false, AV.ptr 0 0, I (l.getD k pair0).fst, I n, AV.bool true, AV.bool true, AV.bool true, AV.tup [], AV.tup [], AV.tup [], AV.bool true, AV.bool true, AV.tup [], AV.tup [], AV.tup [], AV.tup [], AV.bool true, u (33 : Nat), u (34 : Nat), u (35 : Nat), u (36 : Nat), u (37 : Nat), u (38 : Nat), u (39 : Nat), u (40 : Nat), u (41 : Nat), u (42 : Nat), u (43 : Nat), u (44 : Nat)] (H.mk [[I (l.getD k pair0).fst, I (l.getD k pair0).snd]] [] [])) (by kernel_rfl) ?_⟩
      refine ⟨by first | with_reducible assumption | omega | assumption, ?_⟩
      refine ⟨ix_pairs (by kernel_rfl) hz' hr, ?_⟩
      refine ⟨ld_pairs (by kernel_rfl) (by kernel_rfl) (by kernel_rfl) (by omega), ?_⟩
      refine ⟨by first | with_reducible assumption | omega | assumption, ?_⟩
      refine ⟨by first | with_reducible assumption | omega | assumption, ?_⟩
      refine ⟨by first | with_reducible assumption | omega | assumption, ?_⟩
      exact .inl ⟨_, hn, rfl, rfl, rfl⟩
    have x1 : (l.getD k pair0).1 < n := by omega
    by_cases x2 : (l.getD k pair0).2 < 0
    · have hn := bad (fun h => by have := h.1.2; omega)
      refine ⟨[Ans.o (Orc.b true), Ans.o (Orc.val 11 (AV.cptr (pairsA (List.drop k l))) H.nil), Ans.o (Orc.val 12 (AV.agg [I (l.getD k pair0).fst, I (l.getD k pair0).snd]) H.nil), Ans.o (Orc.b false), Ans.o (Orc.b false), Ans.o (Orc.b true)], fun u => of_eq ((↑k : Int) < (↑l.length : Int) ∧ aIndexAddr Try.prog (22 : Nat) (AV.sl (pairsA l) l.length r.wk) (I (↑k : Int)) = some (AV.cptr (pairsA (List.drop k l))) ∧ aLoad Try.prog (54 : Nat) (pairsA (List.drop k l)) = some (AV.agg [I (l.getD k pair0).fst, I (l.getD k pair0).snd]) ∧ (0 : Int) ≤ (l.getD k pair0).fst ∧ (l.getD k pair0).fst < n ∧ (l.getD k pair0).snd < (0 : Int) ∧ (45 : Nat) = (45 : Nat) ∧ hits [Out.mk (List (List AV)) AX.ret [(4 : Nat)] (fun x => ¬prB n l) (fun x => [AV.bool false]) (fun bs => H.mk bs [] []) fun x => [], Out.mk Unit (AX.exit (0 : Nat)) [(0 : Nat), (1 : Nat)] (fun x => prB n l) (fun x => [I n, pz l r.wk]) (fun x => H.nil) fun x => []] AX.ret [I n, AV.sl (pairsA l) l.length r.wk, u (2 : Nat), u (3 : Nat), AV.bool false, u (5 : Nat), AV.ptr 0 0, AV.sl (pairsA l) l.length r.wk, I (↑l.length : Int), I (↑k : Int), AV.bool true, AV.cptr (pairsA (List.drop k l)), AV.agg [I (l.getD k pair0).fst, I (l.getD k pair0).snd], AV.ptr 0 0, I (l.getD k pair0).fst, AV.bool false, AV.bool false, AV.ptr 0 0, I (l.getD k pair0).fst, I n, AV.bool false, AV.bool false, AV.bool false, AV.ptr 0 1, I (l.getD k pair0).snd, AV.bool true, AV.bool true, AV.bool true, AV.tup [], AV.tup [], AV.tup [], AV.tup [], AV.bool true, u (33 : Nat), u (34 : Nat), u (35 : Nat), u (36 : Nat), u (37 : Nat), u (38 : Nat), u (39 : Nat), u (40 : Nat), u (41 : Nat), u (42 : Nat), u (43 : Nat), u (44 : Nat)] (H.mk [[I (l.getD k pair0).fst, I (l.getD k pair0).snd]] [] [])) (by kernel_rfl) ?_⟩
      refine ⟨by first | with_reducible assumption | omega | assumption, ?_⟩
      refine ⟨ix_pairs (by kernel_rfl) hz' hr, ?_⟩
      refine ⟨ld_pairs (by kernel_rfl) (by kernel_rfl) (by kernel_rfl) (by omega), ?_⟩
      refine ⟨by first | with_reducible assumption | omega | assumption, ?_⟩
      refine ⟨by first | with_reducible assumption | omega | assumption, ?_⟩
      refine ⟨by first | with_reducible assumption | omega | assumption, ?_⟩
      refine ⟨by first | with_reducible assumption | omega | assumption, ?_⟩
      exact .inl ⟨_, hn, rfl, rfl, rfl⟩
    have x2 : 0 ≤ (l.getD k pair0).2 := by omega
    by_cases x3 : n ≤ (l.getD k pair0).2
    · have hn := bad (fun h => by have := h.2; omega)
      refine ⟨[Ans.o (Orc.b true), Ans.o (Orc.val 11 (AV.cptr (pairsA (List.drop k l))) H.nil), Ans.o (Orc.val 12 (AV.agg [I (l.getD k pair0).fst, I (l.getD k pair0).snd]) H.nil), Ans.o (Orc.b false), Ans.o (Orc.b false), Ans.o (Orc.b false), Ans.o (Orc.b true)], fun u => of_eq ((↑k : Int) < (↑l.length : Int) ∧ aIndexAddr Try.prog (22 : Nat) (AV.sl (pairsA l) l.length r.wk) (I (↑k : Int)) = some (AV.cptr (pairsA (List.drop k l))) ∧ aLoad Try.prog (54 : Nat) (pairsA (List.drop k l)) = some (AV.agg [I (l.getD k pair0).fst, I (l.getD k pair0).snd]) ∧ (0 : Int) ≤ (l.getD k pair0).fst ∧ (l.getD k pair0).fst < n ∧ (0 : Int) ≤ (l.getD k pair0).snd ∧ n ≤ (l.getD k pair0).snd ∧ (45 : Nat) = (45 : Nat) ∧ hits [Out.mk (List (List AV)) AX.ret [(4 : Nat)] (fun x => ¬prB n l) (fun x => [AV.bool false]) (fun bs => H.mk bs [] []) fun x => [], Out.mk Unit (AX.exit (0 : Nat)) [(0 : Nat), (1 : Nat)] (fun x => prB n l) (fun x => [I n, pz l r.wk]) (fun x => H.nil) fun x => []] AX.ret [I n, AV.sl (pairsA l) l.length r.wk, u (2 : Nat), u (3 : Nat), AV.bool false, u (5 : Nat), AV.ptr 0 0, AV.sl (pairsA l) l.length r.wk, I (↑l.length : Int), I (↑k : Int), AV.bool true, AV.cptr (pairsA (List.drop k l)), AV.agg [I (l.getD k pair0).fst, I (l.getD k pair0).snd], AV.ptr 0 0, I (l.getD k pair0).fst, AV.bool false, AV.bool false, AV.ptr 0 0, I (l.getD k pair0).fst, I n, AV.bool false, AV.bool false, AV.bool false, AV.ptr 0 1, I (l.getD k pair0).snd, AV.bool false, AV.bool false, AV.bool false, AV.ptr 0 1, I (l.getD k pair0).snd, I n, AV.bool true, AV.bool true, u (33 : Nat), u (34 : Nat), u (35 : Nat), u (36 : Nat), u (37 : Nat), u (38 : Nat), u (39 : Nat), u (40 : Nat), u (41 : Nat), u (42 : Nat), u (43 : Nat), u (44 : Nat)] (H.mk [[I (l.getD k pair0).fst, I (l.getD k pair0).snd]] [] [])) (by kernel_rfl) ?_⟩
      refine ⟨by first | with_reducible assumption | omega | assumption, ?_⟩
      refine ⟨ix_pairs (by kernel_rfl) hz' hr, ?_⟩
      refine ⟨ld_pairs (by kernel_rfl) (by kernel_rfl) (by kernel_rfl) (by omega), ?_⟩
      refine ⟨by first | with_reducible assumption | omega | assumption, ?_⟩
      refine ⟨by first | with_reducible assumption | omega | assumption, ?_⟩
      refine ⟨by first | with_reducible assumption | omega | assumption, ?_⟩
      refine ⟨by first | with_reducible assumption | omega | assumption, ?_⟩
      refine ⟨by first | with_reducible assumption | omega | assumption, ?_⟩
      exact .inl ⟨_, hn, rfl, rfl, rfl⟩
    have x3 : (l.getD k pair0).2 < n := by omega
    have hk2 := all_succ (q := prJ n l) ha ⟨⟨⟨x0, x1⟩, x2⟩, x3⟩
    refine ⟨[Ans.o (Orc.b true), Ans.o (Orc.val 11 (AV.cptr (pairsA (List.drop k l))) H.nil), Ans.o (Orc.val 12 (AV.agg [I (l.getD k pair0).fst, I (l.getD k pair0).snd]) H.nil), Ans.o (Orc.b false), Ans.o (Orc.b false), Ans.o (Orc.b false), Ans.o (Orc.b false), Ans.o (Orc.val 33 (I (↑(k + (1 : Nat)) : Int)) H.nil)], fun u => of_eq ((↑k : Int) < (↑l.length : Int) ∧ aIndexAddr Try.prog (22 : Nat) (AV.sl (pairsA l) l.length r.wk) (I (↑k : Int)) = some (AV.cptr (pairsA (List.drop k l))) ∧ aLoad Try.prog (54 : Nat) (pairsA (List.drop k l)) = some (AV.agg [I (l.getD k pair0).fst, I (l.getD k pair0).snd]) ∧ (0 : Int) ≤ (l.getD k pair0).fst ∧ (l.getD k pair0).fst < n ∧ (0 : Int) ≤ (l.getD k pair0).snd ∧ (l.getD k pair0).snd < n ∧ aBin Try.prog BinOp.add (3 : Nat) (I (↑k : Int)) (I 1) = some (I (↑(k + (1 : Nat)) : Int)) ∧ (45 : Nat) = (45 : Nat) ∧ k < l.length ∧ Keep (AV.bnds (0 : Nat) (0 : Nat) (0 : Nat) [I n, AV.sl (pairsA l) l.length r.wk, AV.sl (pairsA l) l.length r.wk, I (↑l.length : Int), I (↑(k + (1 : Nat)) : Int)] = true ∧ (H.mk [[I (l.getD k pair0).fst, I (l.getD k pair0).snd]] [] []).clean (0 : Nat) ∧ H.mk [] [] [] = H.mk [] [] [] ∧ [I n, AV.sl (pairsA l) l.length r.wk, AV.sl (pairsA l) l.length r.wk, I (↑l.length : Int), I (↑(k + (1 : Nat)) : Int)] = [I n, AV.sl (pairsA l) l.length r.wk, AV.sl (pairsA l) l.length r.wk, I (↑l.length : Int), I (↑(k + (1 : Nat)) : Int)] ∧ ∀ (i : Nat), i < k + (1 : Nat) → prJ n l i)) (by kernel_rfl) ?_⟩
    refine ⟨by first | with_reducible assumption | omega | assumption, ?_⟩
    refine ⟨ix_pairs (by kernel_rfl) hz' hr, ?_⟩
    refine ⟨ld_pairs (by kernel_rfl) (by kernel_rfl) (by kernel_rfl) (by omega), ?_⟩
    refine ⟨by first | with_reducible assumption | omega | assumption, ?_⟩
    refine ⟨by first | with_reducible assumption | omega | assumption, ?_⟩
    refine ⟨by first | with_reducible assumption | omega | assumption, ?_⟩
    refine ⟨by first | with_reducible assumption | omega | assumption, ?_⟩
    refine ⟨told_add (by with_reducible assumption), ?_⟩
    refine ⟨by first | with_reducible assumption | omega | assumption, ?_⟩
    refine ⟨by first | with_reducible assumption | omega | assumption, ?_⟩
    exact ⟨hcl, clean0 _, rfl, rfl, hk2⟩
  · have hz : (l.length : Int) ≤ k := by omega
    have hk' : k = l.length := by omega
    subst hk'
    refine ⟨[Ans.o (Orc.b false)], fun u => of_eq ((↑l.length : Int) ≤ (↑l.length : Int) ∧ (45 : Nat) = (45 : Nat) ∧ hits [Out.mk (List (List AV)) AX.ret [(4 : Nat)] (fun x => ¬prB n l) (fun x => [AV.bool false]) (fun bs => H.mk bs [] []) fun x => [], Out.mk Unit (AX.exit (0 : Nat)) [(0 : Nat), (1 : Nat)] (fun x => prB n l) (fun x => [I n, pz l r.wk]) (fun x => H.nil) fun x => []] (AX.exit (0 : Nat)) [I n, AV.sl (pairsA l) l.length r.wk, u (2 : Nat), u (3 : Nat), u (4 : Nat), u (5 : Nat), u (6 : Nat), AV.sl (pairsA l) l.length r.wk, I (↑l.length : Int), I (↑l.length : Int), AV.bool false, u (11 : Nat), u (12 : Nat), u (13 : Nat), u (14 : Nat), u (15 : Nat), u (16 : Nat), u (17 : Nat), u (18 : Nat), u (19 : Nat), u (20 : Nat), u (21 : Nat), u (22 : Nat), u (23 : Nat), u (24 : Nat), u (25 : Nat), u (26 : Nat), u (27 : Nat), u (28 : Nat), u (29 : Nat), u (30 : Nat), u (31 : Nat), u (32 : Nat), u (33 : Nat), u (34 : Nat), u (35 : Nat), u (36 : Nat), u (37 : Nat), u (38 : Nat), u (39 : Nat), u (40 : Nat), u (41 : Nat), u (42 : Nat), u (43 : Nat), u (44 : Nat)] (H.mk [] [] [])) (by kernel_rfl) ?_⟩
    refine ⟨by first | with_reducible assumption | omega | assumption, ?_⟩
    refine ⟨by first | with_reducible assumption | omega | assumption, ?_⟩
    exact .inr (.inl ⟨(), ha, rfl, rfl, rfl⟩)
open Classical in
noncomputable def clB (n : Int) (l : List Pr) : Bool := decide (clOK n l)
theorem clB_t {n : Int} {l : List Pr} (h : clOK n l) : clB n l = true := by simp only [clB, decide_eq_true_eq]; exact h
theorem clB_f {n : Int} {l : List Pr} (h : ¬ clOK n l) : clB n l = false := by simp only [clB, decide_eq_false_iff_not]; exact h
theorem ok21 : FokM Try.prog none1 21 Try.f21 := ⟨mixed, by kernel_rfl, by kernel_rfl, by kernel_rfl, by kernel_rfl⟩
theorem r21 (n : Int) (l : List Pr) (r : Room) (h1 : lim l.length) (h3 : rok l r.wk) : Body (En6 []) none1 Try.f21 [I n, pz l r.wk] .nil (.bool (clB n l), .nil) := by
  have hl := lp21 n l r h1 h3
  by_cases c1 : 1 ≤ n
  · by_cases c2 : n ≤ 6
    · by_cases c3 : (l.length : Int) ≤ 30
      · refine body_s ([Ans.loop [(0 : Nat), (1 : Nat), (7 : Nat), (8 : Nat), (9 : Nat)] [Out.mk (List (List AV)) AX.ret [(4 : Nat)] (fun x => ¬prB n l) (fun x => [AV.bool false]) (fun bs => H.mk bs [] []) fun y => [], Out.mk Unit (AX.exit (0 : Nat)) [(0 : Nat), (1 : Nat)] (fun x => prB n l) (fun x => [I n, pz l r.wk]) (fun x => H.nil) fun y => [Ans.o (Orc.b true), Ans.o (Orc.b true), Ans.o (Orc.b true)]]]) (LoopS (Env.mk Try.prog (Sof (P := Try.prog) []) (Pof (P := Try.prog) []) H.nil.base (300 : Nat)) (loopAt Try.f21 (0 : Nat)) (45 : Nat) [(0 : Nat), (1 : Nat), (7 : Nat), (8 : Nat), (9 : Nat)] [I n, AV.sl (pairsA l) l.length r.wk, AV.sl (pairsA l) l.length r.wk, I (↑l.length : Int), I 0] (H.mk [] [] []) [Out.mk (List (List AV)) AX.ret [(4 : Nat)] (fun x => ¬prB n l) (fun x => [AV.bool false]) (fun bs => H.mk bs [] []) fun y => [], Out.mk Unit (AX.exit (0 : Nat)) [(0 : Nat), (1 : Nat)] (fun x => prB n l) (fun x => [I n, pz l r.wk]) (fun x => H.nil) fun y => [Ans.o (Orc.b true), Ans.o (Orc.b true), Ans.o (Orc.b true)]] ∧ (∀ (y : List (List AV)), ¬prB n l → ∀ (u : Nat → AV), (AV.bool false, H.mk [] [] []) = (AV.bool (clB n l), H.mk [] [] [])) ∧ (∀ (y : Unit), (∀ (k : Nat), k < l.length → (((0 : Int) ≤ (l.getD k pair0).fst ∧ (l.getD k pair0).fst < n) ∧ (0 : Int) ≤ (l.getD k pair0).snd) ∧ (l.getD k pair0).snd < n) → ∀ (u : Nat → AV), (1 : Int) ≤ n ∧ n ≤ (6 : Int) ∧ (↑l.length : Int) ≤ (30 : Int) ∧ (AV.bool true, H.mk [] [] []) = (AV.bool (clB n l), H.mk [] [] [])) ∧ True) (by kernel_rfl) ?_
        refine ⟨hl, ?_⟩
        refine And.intro ?_ ?_
        · skip
          intro y
          intro w1
          intro u
          first | rw [clB_t (clOK_iff.2 ⟨⟨⟨c1, c2⟩, by omega⟩, by assumption⟩)] | rw [clB_f (fun q => w1 (clOK_iff.1 q).2)]
        · skip
          refine And.intro ?_ ?_
          · skip
            intro y
            intro w1
            intro u
            refine ⟨by first | with_reducible assumption | omega | assumption, ?_⟩
            refine ⟨by first | with_reducible assumption | omega | assumption, ?_⟩
            refine ⟨by first | with_reducible assumption | omega | assumption, ?_⟩
            first | rw [clB_t (clOK_iff.2 ⟨⟨⟨c1, c2⟩, by omega⟩, by assumption⟩)] | rw [clB_f (fun q => w1 (clOK_iff.1 q).2)]
          · skip
            trivial
      · rw [clB_f (fun q => c3 (by have := q.1.2; omega))]
        have c3 : 30 < (l.length : Int) := by omega
        refine body_s ([Ans.loop [(0 : Nat), (1 : Nat), (7 : Nat), (8 : Nat), (9 : Nat)] [Out.mk (List (List AV)) AX.ret [(4 : Nat)] (fun x => ¬prB n l) (fun x => [AV.bool false]) (fun bs => H.mk bs [] []) fun y => [], Out.mk Unit (AX.exit (0 : Nat)) [(0 : Nat), (1 : Nat)] (fun x => prB n l) (fun x => [I n, pz l r.wk]) (fun x => H.nil) fun y => [Ans.o (Orc.b true), Ans.o (Orc.b true), Ans.o (Orc.b false)]]]) (LoopS (Env.mk Try.prog (Sof (P := Try.prog) []) (Pof (P := Try.prog) []) H.nil.base (300 : Nat)) (loopAt Try.f21 (0 : Nat)) (45 : Nat) [(0 : Nat), (1 : Nat), (7 : Nat), (8 : Nat), (9 : Nat)] [I n, AV.sl (pairsA l) l.length r.wk, AV.sl (pairsA l) l.length r.wk, I (↑l.length : Int), I 0] (H.mk [] [] []) [Out.mk (List (List AV)) AX.ret [(4 : Nat)] (fun x => ¬prB n l) (fun x => [AV.bool false]) (fun bs => H.mk bs [] []) fun y => [], Out.mk Unit (AX.exit (0 : Nat)) [(0 : Nat), (1 : Nat)] (fun x => prB n l) (fun x => [I n, pz l r.wk]) (fun x => H.nil) fun y => [Ans.o (Orc.b true), Ans.o (Orc.b true), Ans.o (Orc.b false)]] ∧ (∀ (y : List (List AV)), ¬prB n l → ∀ (u : Nat → AV), (AV.bool false, H.mk [] [] []) = (AV.bool false, H.mk [] [] [])) ∧ (∀ (y : Unit), (∀ (k : Nat), k < l.length → (((0 : Int) ≤ (l.getD k pair0).fst ∧ (l.getD k pair0).fst < n) ∧ (0 : Int) ≤ (l.getD k pair0).snd) ∧ (l.getD k pair0).snd < n) → ∀ (u : Nat → AV), (1 : Int) ≤ n ∧ n ≤ (6 : Int) ∧ (30 : Int) < (↑l.length : Int) ∧ (AV.bool false, H.mk [] [] []) = (AV.bool false, H.mk [] [] [])) ∧ True) (by kernel_rfl) ?_
        refine ⟨hl, ?_⟩
        refine And.intro ?_ ?_
        · skip
          intro y
          intro w1
          intro u
          rfl
        · skip
          refine And.intro ?_ ?_
          · skip
            intro y
            intro w1
            intro u
            refine ⟨by first | with_reducible assumption | omega | assumption, ?_⟩
            refine ⟨by first | with_reducible assumption | omega | assumption, ?_⟩
            refine ⟨by first | with_reducible assumption | omega | assumption, ?_⟩
            rfl
          · skip
            trivial
    · rw [clB_f (fun q => c2 q.1.1.2)]
      have c2 : 6 < n := by omega
      refine body_s ([Ans.loop [(0 : Nat), (1 : Nat), (7 : Nat), (8 : Nat), (9 : Nat)] [Out.mk (List (List AV)) AX.ret [(4 : Nat)] (fun x => ¬prB n l) (fun x => [AV.bool false]) (fun bs => H.mk bs [] []) fun y => [], Out.mk Unit (AX.exit (0 : Nat)) [(0 : Nat), (1 : Nat)] (fun x => prB n l) (fun x => [I n, pz l r.wk]) (fun x => H.nil) fun y => [Ans.o (Orc.b true), Ans.o (Orc.b false)]]]) (LoopS (Env.mk Try.prog (Sof (P := Try.prog) []) (Pof (P := Try.prog) []) H.nil.base (300 : Nat)) (loopAt Try.f21 (0 : Nat)) (45 : Nat) [(0 : Nat), (1 : Nat), (7 : Nat), (8 : Nat), (9 : Nat)] [I n, AV.sl (pairsA l) l.length r.wk, AV.sl (pairsA l) l.length r.wk, I (↑l.length : Int), I 0] (H.mk [] [] []) [Out.mk (List (List AV)) AX.ret [(4 : Nat)] (fun x => ¬prB n l) (fun x => [AV.bool false]) (fun bs => H.mk bs [] []) fun y => [], Out.mk Unit (AX.exit (0 : Nat)) [(0 : Nat), (1 : Nat)] (fun x => prB n l) (fun x => [I n, pz l r.wk]) (fun x => H.nil) fun y => [Ans.o (Orc.b true), Ans.o (Orc.b false)]] ∧ (∀ (y : List (List AV)), ¬prB n l → ∀ (u : Nat → AV), (AV.bool false, H.mk [] [] []) = (AV.bool false, H.mk [] [] [])) ∧ (∀ (y : Unit), (∀ (k : Nat), k < l.length → (((0 : Int) ≤ (l.getD k pair0).fst ∧ (l.getD k pair0).fst < n) ∧ (0 : Int) ≤ (l.getD k pair0).snd) ∧ (l.getD k pair0).snd < n) → ∀ (u : Nat → AV), (1 : Int) ≤ n ∧ (6 : Int) < n ∧ (AV.bool false, H.mk [] [] []) = (AV.bool false, H.mk [] [] [])) ∧ True) (by kernel_rfl) ?_
      refine ⟨hl, ?_⟩
      refine And.intro ?_ ?_
      · skip
        intro y
        intro w1
        intro u
        rfl
      · skip
        refine And.intro ?_ ?_
        · skip
          intro y
          intro w1
          intro u
          refine ⟨by first | with_reducible assumption | omega | assumption, ?_⟩
          refine ⟨by first | with_reducible assumption | omega | assumption, ?_⟩
          rfl
        · skip
          trivial
  · rw [clB_f (fun q => c1 q.1.1.1)]
    have c1 : n < 1 := by omega
    refine body_s ([Ans.loop [(0 : Nat), (1 : Nat), (7 : Nat), (8 : Nat), (9 : Nat)] [Out.mk (List (List AV)) AX.ret [(4 : Nat)] (fun x => ¬prB n l) (fun x => [AV.bool false]) (fun bs => H.mk bs [] []) fun y => [], Out.mk Unit (AX.exit (0 : Nat)) [(0 : Nat), (1 : Nat)] (fun x => prB n l) (fun x => [I n, pz l r.wk]) (fun x => H.nil) fun y => [Ans.o (Orc.b false)]]]) (LoopS (Env.mk Try.prog (Sof (P := Try.prog) []) (Pof (P := Try.prog) []) H.nil.base (300 : Nat)) (loopAt Try.f21 (0 : Nat)) (45 : Nat) [(0 : Nat), (1 : Nat), (7 : Nat), (8 : Nat), (9 : Nat)] [I n, AV.sl (pairsA l) l.length r.wk, AV.sl (pairsA l) l.length r.wk, I (↑l.length : Int), I 0] (H.mk [] [] []) [Out.mk (List (List AV)) AX.ret [(4 : Nat)] (fun x => ¬prB n l) (fun x => [AV.bool false]) (fun bs => H.mk bs [] []) fun y => [], Out.mk Unit (AX.exit (0 : Nat)) [(0 : Nat), (1 : Nat)] (fun x => prB n l) (fun x => [I n, pz l r.wk]) (fun x => H.nil) fun y => [Ans.o (Orc.b false)]] ∧ (∀ (y : List (List AV)), ¬prB n l → ∀ (u : Nat → AV), (AV.bool false, H.mk [] [] []) = (AV.bool false, H.mk [] [] [])) ∧ (∀ (y : Unit), (∀ (k : Nat), k < l.length → (((0 : Int) ≤ (l.getD k pair0).fst ∧ (l.getD k pair0).fst < n) ∧ (0 : Int) ≤ (l.getD k pair0).snd) ∧ (l.getD k pair0).snd < n) → ∀ (u : Nat → AV), n < (1 : Int) ∧ (AV.bool false, H.mk [] [] []) = (AV.bool false, H.mk [] [] [])) ∧ True) (by kernel_rfl) ?_
    refine ⟨hl, ?_⟩
    refine And.intro ?_ ?_
    · skip
      intro y
      intro w1
      intro u
      rfl
    · skip
      refine And.intro ?_ ?_
      · skip
        intro y
        intro w1
        intro u
        refine ⟨by first | with_reducible assumption | omega | assumption, ?_⟩
        rfl
      · skip
        trivial
noncomputable def c21 : PCtr Try.prog := sctr ok21 (X := Int × List Pr × Room) (fun x => [I x.1, pz x.2.1 x.2.2]) (fun x => lim x.2.1.length ∧ rok x.2.1 x.2.2) (fun x => .bool (clB x.1 x.2.1))
  (by rintro ⟨n, l, r⟩ ⟨m, k, s⟩ e _ _; simp only [List.cons.injEq, AV.int.injEq, AV.sl.injEq, true_and, and_true] at e; obtain ⟨rfl, e, _⟩ := e; rw [pairsA_inj e]) (fun x => pz_wk _ _ _) (fun x => rfl)
  (fun x hx => ⟨_, _, _, .nil, r21 x.1 x.2.1 x.2.2 hx.1 (by simpa using hx.2)⟩)
abbrev o23 : List Out := [.mk Unit .ret [4] (fun _ => False) (fun _ => [.bool false]) (fun _ => .nil) (fun _ => []), .mk Unit (.exit 0) [] (fun _ => True) (fun _ => []) (fun _ => .nil) (fun _ => [])]
theorem simp23 : allSimpleM none1 (loopAt Try.f23 0) = true := by kernel_rfl
theorem lp23 (l : List Int) (r1 r2 : Room) (h0 : lim l.length) (h1 : rok l r1) (h2 : rok l r2) :
    LoopS (En6 []) (loopAt Try.f23 0) 26 [0, 1, 12, 13] [ls l r1, ls l r2, I l.length, I 0] .nil o23 := by
  have hR : Rests (En6 []) none1 := rests mixed .nil
  refine loop_s hR simp23 none (by intro _ h; cases h) (fun j vs h => h = .nil ∧ vs = [ls l r1, ls l r2, I l.length, I j]) l.length ⟨rfl, rfl⟩ (by intro _ h; cases h) ?_
  rintro j vs h hj ⟨rfl, rfl⟩
  by_cases hz : (j : Int) < l.length
  · have hz' : j < l.length := by omega
    have hr1 := rok_idx h1 hz'
    have hr2 := rok_idx h2 hz'
    have he : l.getD j i0 = l.getD j i0 := rfl
    refine ⟨[Ans.o (Orc.b true), Ans.o (Orc.val 18 (AV.cptr (ints (List.drop j l))) H.nil), Ans.o (Orc.val 19 (I (l.getD j i0)) H.nil), Ans.o (Orc.val 22 (AV.cptr (ints (List.drop j l))) H.nil), Ans.o (Orc.val 23 (I (l.getD j i0)) H.nil), Ans.o (Orc.b false)], fun u => of_eq ((↑j : Int) < (↑l.length : Int) ∧ aIndexAddr Try.prog (23 : Nat) (AV.sl (ints l) l.length r1) (I (↑j : Int)) = some (AV.cptr (ints (List.drop j l))) ∧ aLoad Try.prog (3 : Nat) (ints (List.drop j l)) = some (I (l.getD j i0)) ∧ aIndexAddr Try.prog (23 : Nat) (AV.sl (ints l) l.length r2) (I (↑j : Int)) = some (AV.cptr (ints (List.drop j l))) ∧ aLoad Try.prog (3 : Nat) (ints (List.drop j l)) = some (I (l.getD j i0)) ∧ l.getD j i0 = l.getD j i0 ∧ IntKind.i64.wrap ((↑j : Int) + (1 : Int)) = (↑j : Int) + (1 : Int) ∧ (26 : Nat) = (26 : Nat) ∧ j < l.length ∧ Keep (H.mk [] [] [] = H.mk [] [] [] ∧ [AV.sl (ints l) l.length r1, AV.sl (ints l) l.length r2, I (↑l.length : Int), I ((↑j : Int) + (1 : Int))] = [AV.sl (ints l) l.length r1, AV.sl (ints l) l.length r2, I (↑l.length : Int), I (↑(j + (1 : Nat)) : Int)])) (by kernel_rfl) ?_⟩
    refine ⟨by first | with_reducible assumption | omega | assumption, ?_⟩
    refine ⟨by first | exact ix_ints (by kernel_rfl) (by omega) hr1 | exact ix_ints (by kernel_rfl) (by omega) hr2, ?_⟩
    refine ⟨by first | exact ld_ints (by kernel_rfl) (by kernel_rfl) (by omega) | exact ldm_ints (by kernel_rfl) (by kernel_rfl) (by first | omega | (simp; omega)), ?_⟩
    refine ⟨by first | exact ix_ints (by kernel_rfl) (by omega) hr1 | exact ix_ints (by kernel_rfl) (by omega) hr2, ?_⟩
    refine ⟨by first | exact ld_ints (by kernel_rfl) (by kernel_rfl) (by omega) | exact ldm_ints (by kernel_rfl) (by kernel_rfl) (by first | omega | (simp; omega)), ?_⟩
    refine ⟨by first | with_reducible assumption | omega | assumption, ?_⟩
    refine ⟨wr _ (by omega) (by omega), ?_⟩
    refine ⟨by first | with_reducible assumption | omega | assumption, ?_⟩
    refine ⟨by first | with_reducible assumption | omega | assumption, ?_⟩
    exact ⟨rfl, rfl⟩
  · have hz : (l.length : Int) ≤ j := by omega
    have e : j = l.length := by omega
    subst e
    refine ⟨[Ans.o (Orc.b false)], fun u => of_eq ((↑l.length : Int) ≤ (↑l.length : Int) ∧ (26 : Nat) = (26 : Nat) ∧ hits [Out.mk Unit AX.ret [(4 : Nat)] (fun x => False) (fun x => [AV.bool false]) (fun x => H.nil) fun x => [], Out.mk Unit (AX.exit (0 : Nat)) [] (fun x => True) (fun x => []) (fun x => H.nil) fun x => []] (AX.exit (0 : Nat)) [AV.sl (ints l) l.length r1, AV.sl (ints l) l.length r2, u (2 : Nat), u (3 : Nat), u (4 : Nat), u (5 : Nat), u (6 : Nat), u (7 : Nat), u (8 : Nat), u (9 : Nat), u (10 : Nat), u (11 : Nat), I (↑l.length : Int), I (↑l.length : Int), AV.bool false, u (15 : Nat), u (16 : Nat), u (17 : Nat), u (18 : Nat), u (19 : Nat), u (20 : Nat), u (21 : Nat), u (22 : Nat), u (23 : Nat), u (24 : Nat), u (25 : Nat)] (H.mk [] [] [])) (by kernel_rfl) ?_⟩
    refine ⟨by first | with_reducible assumption | omega | assumption, ?_⟩
    refine ⟨by first | with_reducible assumption | omega | assumption, ?_⟩
    exact .inr (.inl ⟨(), trivial, rfl, rfl, rfl⟩)
theorem ok23 : FokM Try.prog none1 23 Try.f23 := ⟨mixed, by kernel_rfl, by kernel_rfl, by kernel_rfl, by kernel_rfl⟩
theorem r23 (l : List Int) (r1 r2 : Room) (h0 : lim l.length) (h1 : rok l r1) (h2 : rok l r2) : Body (En6 []) none1 Try.f23 [ls l r1, ls l r2] .nil (.bool true, .nil) := by
  have he : (l.length : Int) = l.length := rfl
  refine body_s ([Ans.o (Orc.b false), Ans.loop [(0 : Nat), (1 : Nat), (12 : Nat), (13 : Nat)] [Out.mk Unit AX.ret [(4 : Nat)] (fun x => False) (fun x => [AV.bool false]) (fun x => H.nil) fun y => [], Out.mk Unit (AX.exit (0 : Nat)) [] (fun x => True) (fun x => []) (fun x => H.nil) fun y => []]]) ((↑l.length : Int) = (↑l.length : Int) ∧ LoopS (Env.mk Try.prog (Sof (P := Try.prog) []) (Pof (P := Try.prog) []) H.nil.base (300 : Nat)) (loopAt Try.f23 (0 : Nat)) (26 : Nat) [(0 : Nat), (1 : Nat), (12 : Nat), (13 : Nat)] [AV.sl (ints l) l.length r1, AV.sl (ints l) l.length r2, I (↑l.length : Int), I 0] (H.mk [] [] []) [Out.mk Unit AX.ret [(4 : Nat)] (fun x => False) (fun x => [AV.bool false]) (fun x => H.nil) fun y => [], Out.mk Unit (AX.exit (0 : Nat)) [] (fun x => True) (fun x => []) (fun x => H.nil) fun y => []] ∧ (∀ (y : Unit), False → ∀ (u : Nat → AV), (AV.bool false, H.mk [] [] []) = (AV.bool true, H.mk [] [] [])) ∧ (∀ (y : Unit), True → ∀ (u : Nat → AV), (AV.bool true, H.mk [] [] []) = (AV.bool true, H.mk [] [] [])) ∧ True) (by kernel_rfl) ?_
  refine ⟨by first | with_reducible assumption | omega | assumption, ?_⟩
  refine ⟨lp23 l r1 r2 h0 h1 h2, ?_⟩
  refine And.intro ?_ ?_
  · skip
    intro y
    intro w1
    intro u
    first | rfl | (exfalso; assumption)
  · skip
    refine And.intro ?_ ?_
    · skip
      intro y
      intro w1
      intro u
      first | rfl | (exfalso; assumption)
    · skip
      trivial
/-- two lists that are the same -/
noncomputable def c23 : PCtr Try.prog := sctr ok23 (X := List Int × Room × List Int × Room) (fun x => [ls x.1 x.2.1, ls x.2.2.1 x.2.2.2]) (fun x => x.1 = x.2.2.1 ∧ lim x.1.length ∧ rok x.1 x.2.1 ∧ rok x.2.2.1 x.2.2.2) (fun _ => .bool true)
  (by intro x y e _ _; rfl) (fun x => by simp [AV.bnds, AV.bnd, AV.wk, rm_wk_bnd]) (fun _ => rfl) (fun x hx => by
    obtain ⟨l, r1, m, r2⟩ := x
    obtain ⟨e, h0, h1, h2⟩ := hx
    simp only at e h0 h1 h2
    subst e
    exact ⟨_, _, _, .nil, r23 l r1.wk r2.wk h0 (by simpa using h1) (by simpa using h2)⟩)


end Go.Proofs.Ord

