/- Layer 2: lists, copied; what a tournament is, by the program. -/
import Derived.Test.YtnnhomkkggkkfaaDoorRkM
import Derived.KernelRfl
set_option linter.unusedSimpArgs false
set_option linter.unusedVariables false
set_option linter.unnecessarySimpa false
set_option maxHeartbeats 4000000
set_option maxRecDepth 100000
namespace Go.Proofs.Rnk
open Go Go.VM
open Go.Proofs.Sur (andn andn_bit andn_le i_wrap i_and i_or i_andn i_shl i_shr bit_01)

noncomputable abbrev En6 (cs : List (Ctr Tryd.prog)) : Env := ⟨Tryd.prog, Sof (P := Tryd.prog) cs, Pof (P := Tryd.prog) [], H.nil.base, 300⟩
abbrev ls (l : List Int) (r : Room) : AV := .sl (ints l) l.length r
theorem no_ne : Room.no ≠ Room.nil := by decide
theorem leave_bs (bs : List (List AV)) {v : AV} (hb : v.bnd 0 0 0 = true) : leave ⟨0, 0, 0⟩ v ⟨bs, [], []⟩ = (v, .nil) := by
  simp [leave, hb, H.nil]
def rcl : Room → Room
  | .nil => .nil
  | _ => .no
theorem rcl_rok {l : List Int} {r : Room} (h : rok l r) : rok l (rcl r) := fun hne => by
  have := h hne
  cases r <;> simp_all [rcl]
theorem ok54 : FokM Tryd.prog none1 54 Tryd.f54 := ⟨mixed, by kernel_rfl, by kernel_rfl, by kernel_rfl, by kernel_rfl⟩
theorem r54 (x : Int) (l : List Int) (n : Nat) (hn : (x :: l).length = n) (hb : n ≤ 1000000000) : Body (En6 []) none1 Tryd.f54 [.sl (ints (x :: l)) n .no] .nil (.sl (ints (x :: l)) n (.tok 0 1), ⟨[], [n], []⟩) := by
  have h0 : n ≠ 0 := by subst hn; simp
  refine body_s ([Ans.o (Orc.val 7 (AV.sl (ints (x :: l)) n (Room.tok 0 1)) (H.mk [] [n] []))]) (aAppend Tryd.prog 22 (22 : Nat) (AV.sl [] (0 : Nat) Room.full) (AV.sl (ints (x :: l)) n Room.no) (H.mk [] [] []) = some (AV.sl (ints (x :: l)) n (Room.tok 0 1), H.mk [] [n] []) ∧ leave (Base.mk H.nil.blk.length H.nil.toks.length H.nil.maps.length) (AV.sl (ints (x :: l)) n (Room.tok 0 1)) (H.mk [] [n] []) = (AV.sl (ints (x :: l)) n (Room.tok 0 1), H.mk [] [n] [])) (by kernel_rfl) ?_
  refine ⟨app_new (by kernel_rfl) h0 (by simpa using hn) (ints_one _) (by omega), ?_⟩
  exact leave_ints _ _
theorem r54z : Body (En6 []) none1 Tryd.f54 [.sl (ints []) 0 .no] .nil (.sl [] 0 .full, .nil) := by
  refine body_s ([]) ((AV.sl [] (0 : Nat) Room.full, H.mk [] [] []) = (AV.sl [] (0 : Nat) Room.full, H.mk [] [] [])) (by kernel_rfl) ?_
  first | with_reducible rfl | (refine bleaf_t ?_; omega) | (refine bleaf_f ?_; omega) | (refine ileaf ?_; omega) | rfl | (exfalso; omega)
theorem r54e : Body (En6 []) none1 Tryd.f54 [.sl (ints []) 0 .e] .nil (.sl [] 0 .full, .nil) := by
  refine body_s ([]) ((AV.sl [] (0 : Nat) Room.full, H.mk [] [] []) = (AV.sl [] (0 : Nat) Room.full, H.mk [] [] [])) (by kernel_rfl) ?_
  first | with_reducible rfl | (refine bleaf_t ?_; omega) | (refine bleaf_f ?_; omega) | (refine ileaf ?_; omega) | rfl | (exfalso; omega)
theorem r54n : Body (En6 []) none1 Tryd.f54 [.sl (ints []) 0 .nil] .nil (.sl [] 0 .nil, .nil) := by
  refine body_s ([]) ((AV.sl [] (0 : Nat) Room.nil, H.mk [] [] []) = (AV.sl [] (0 : Nat) Room.nil, H.mk [] [] [])) (by kernel_rfl) ?_
  first | with_reducible rfl | (refine bleaf_t ?_; omega) | (refine bleaf_f ?_; omega) | (refine ileaf ?_; omega) | rfl | (exfalso; omega)
abbrev em (l : List Int) (r : Room) : Prop := r = .e → l = []
theorem clone_no (l : List Int) (n : Nat) (hn : l.length = n) (hb : n ≤ 1000000000) (H : H) : CallOk Tryd.prog 54 [.sl (ints l) n .no] H (.sl (ints l) n .no) H := by
  subst hn
  cases l with
  | nil => exact pure_call ((r54z.run ok54 .nil rfl).drop rfl) rfl rfl H
  | cons x l =>
    have := ((r54 x l _ rfl hb).run ok54 .nil rfl).drop (by show AV.plains (ints (x :: l)) = true; exact plains_ints _)
    simp only [AV.wkd, wkds_ints, Room.wk] at this
    exact pure_call this (by simp [AV.bnds, AV.bnd, Room.bnd, -ints_cons]) (by simp [AV.bnd, Room.bnd, -ints_cons]) H
noncomputable def c54 : PCtr Tryd.prog where
  f := 54
  X := List Int × Room × Nat
  args x := [.sl (ints x.1) x.2.2 x.2.1]
  pre x := x.1.length = x.2.2 ∧ x.2.2 ≤ 1000000000 ∧ rok x.1 x.2.1 ∧ em x.1 x.2.1
  v x := .sl (ints x.1) x.2.2 (rcl x.2.1)
  det := by
    rintro ⟨l, r, n⟩ ⟨l', r', n'⟩ e _ _
    simp at e
    simp [e]
  ok := by
    rintro ⟨l, r, n⟩ ⟨hn, hb, hr, he⟩
    refine ⟨ok54.call, fun H => ?_⟩
    have hno := clone_no l n hn hb H
    cases r with
    | nil =>
      have : l = [] := Classical.byContradiction fun h => hr h rfl
      subst this
      simp at hn; subst hn
      exact pure_call ((r54n.run ok54 .nil rfl).drop rfl) rfl rfl H
    | e =>
      have := he rfl
      subst this
      simp at hn; subst hn
      exact pure_call ((r54e.run ok54 .nil rfl).drop rfl) rfl rfl H
    | no => exact hno
    | full => exact CallOk.wk (args := [.sl (ints l) n .full]) hno
    | tok t z => exact CallOk.wk (args := [.sl (ints l) n (.tok t z)]) hno
noncomputable def at1 (c : PCtr Tryd.prog) (x : c.X) (hx : c.pre x) (xs : List AV) (v : AV) (ha : c.args x = xs) (hv : c.v x = v) : PCtr Tryd.prog where
  f := c.f
  X := Unit
  args _ := xs
  pre _ := True
  v _ := v
  det _ _ _ _ _ := rfl
  ok _ _ := by subst ha; subst hv; exact c.ok x hx
noncomputable def c54n : PCtr Tryd.prog := at1 c54 ([], .nil, 0) ⟨rfl, by decide, fun h => absurd rfl h, fun _ => rfl⟩ [.sl [] 0 .nil] (.sl [] 0 .nil) rfl rfl
noncomputable def c54e : PCtr Tryd.prog := at1 c54 ([], .e, 0) ⟨rfl, by decide, fun h => absurd rfl h, fun _ => rfl⟩ [.sl [] 0 .e] (.sl [] 0 .no) rfl rfl
abbrev cut (l : List Int) : List Int := l.take 11
theorem ok19 : FokM Tryd.prog none1 19 Tryd.f19 := ⟨mixed, by kernel_rfl, by kernel_rfl, by kernel_rfl, by kernel_rfl⟩
theorem r19 (l : List Int) (hb : lim l.length) : Body (En6 [c54.to]) none1 Tryd.f19 [ls l .no] .nil (ls (cut l) .no, .nil) := by
  have hk : (l.take (pick2 false (l.length : Int) 11).toNat) = cut l ∧ (pick2 false (l.length : Int) 11).toNat = (cut l).length ∧ 0 ≤ pick2 false (l.length : Int) 11 ∧ pick2 false (l.length : Int) 11 ≤ 11 ∧ pick2 false (l.length : Int) 11 ≤ l.length := by
    simp only [pick2, Bool.false_eq_true, if_false, cut, List.length_take]
    by_cases h : (11 : Int) < l.length
    · rw [if_pos h]; refine ⟨rfl, by simp; omega, by omega, by omega, by omega⟩
    · rw [if_neg h]
      have : l.length ≤ 11 := by omega
      refine ⟨?_, by simp; omega, by omega, by omega, by omega⟩
      rw [List.take_of_length_le this, List.take_of_length_le (by simp)]
  have p54 : (l.take (pick2 false (l.length : Int) 11).toNat).length = (pick2 false (l.length : Int) 11).toNat ∧ (pick2 false (l.length : Int) 11).toNat ≤ 1000000000 ∧ rok (l.take (pick2 false (l.length : Int) 11).toNat) .no ∧ em (l.take (pick2 false (l.length : Int) 11).toNat) .no := ⟨by rw [hk.1, hk.2.1], by omega, fun _ => no_ne, fun h => by cases h⟩
  refine body_s ([Ans.o (Orc.val 7 (AV.sl (ints (List.take (pick2 false (↑l.length : Int) (11 : Int)).toNat l)) (pick2 false (↑l.length : Int) (11 : Int)).toNat Room.no) H.nil), Ans.o (Orc.val 8 (AV.sl (ints (List.take (pick2 false (↑l.length : Int) (11 : Int)).toNat l)) (pick2 false (↑l.length : Int) (11 : Int)).toNat Room.no) (H.mk [] [] []))]) (aSlice Tryd.prog 22 (ls l Room.no) none (some (I (pick2 false (↑l.length : Int) (11 : Int)))) none (H.mk [] [] []) = some (AV.sl (ints (List.take (pick2 false (↑l.length : Int) (11 : Int)).toNat l)) (pick2 false (↑l.length : Int) (11 : Int)).toNat Room.no) ∧ aCall (Sof [c54.to]) (AV.fn (Fn.func 54) [] []) [AV.sl (ints (List.take (pick2 false (↑l.length : Int) (11 : Int)).toNat l)) (pick2 false (↑l.length : Int) (11 : Int)).toNat Room.no] (H.mk [] [] []) = some (AV.sl (ints (List.take (pick2 false (↑l.length : Int) (11 : Int)).toNat l)) (pick2 false (↑l.length : Int) (11 : Int)).toNat Room.no, H.mk [] [] []) ∧ leave (Base.mk H.nil.blk.length H.nil.toks.length H.nil.maps.length) (AV.sl (ints (List.take (pick2 false (↑l.length : Int) (11 : Int)).toNat l)) (pick2 false (↑l.length : Int) (11 : Int)).toNat Room.no) (H.mk [] [] []) = (ls (cut l) Room.no, H.mk [] [] [])) (by kernel_rfl) ?_
  refine ⟨sl_ints (by kernel_rfl) hk.2.2.1 hk.2.2.2.2, ?_⟩
  refine ⟨acall_hit (c := c54.to) (l.take (pick2 false (l.length : Int) 11).toNat, .no, (pick2 false (l.length : Int) 11).toNat) _ rfl p54, ?_⟩
  (rw [hk.1, hk.2.1]; exact leave_bs [] (by simp [AV.bnd, Room.bnd]))
theorem r19n : Body (En6 [c54n.to]) none1 Tryd.f19 [ls [] .nil] .nil (ls [] .nil, .nil) := by
  refine body_s ([Ans.o (Orc.val 8 (AV.sl [] (0 : Nat) Room.nil) (H.mk [] [] []))]) (aCall (Sof [c54n.to]) (AV.fn (Fn.func 54) [] []) [AV.sl [] (0 : Nat) Room.nil] (H.mk [] [] []) = some (AV.sl [] (0 : Nat) Room.nil, H.mk [] [] []) ∧ (AV.sl [] (0 : Nat) Room.nil, H.mk [] [] []) = (AV.sl (ints []) (0 : Nat) Room.nil, H.mk [] [] [])) (by kernel_rfl) ?_
  refine ⟨acall_hit (c := c54n.to) () _ rfl trivial, ?_⟩
  first | with_reducible rfl | (refine bleaf_t ?_; omega) | (refine bleaf_f ?_; omega) | (refine ileaf ?_; omega) | rfl | (exfalso; omega)
theorem r19e : Body (En6 [c54e.to]) none1 Tryd.f19 [ls [] .e] .nil (ls [] .no, .nil) := by
  refine body_s ([Ans.o (Orc.val 8 (AV.sl [] (0 : Nat) Room.no) (H.mk [] [] []))]) (aCall (Sof [c54e.to]) (AV.fn (Fn.func 54) [] []) [AV.sl [] (0 : Nat) Room.e] (H.mk [] [] []) = some (AV.sl [] (0 : Nat) Room.no, H.mk [] [] []) ∧ (AV.sl [] (0 : Nat) Room.no, H.mk [] [] []) = (AV.sl (ints []) (0 : Nat) Room.no, H.mk [] [] [])) (by kernel_rfl) ?_
  refine ⟨acall_hit (c := c54e.to) () _ rfl trivial, ?_⟩
  first | with_reducible rfl | (refine bleaf_t ?_; omega) | (refine bleaf_f ?_; omega) | (refine ileaf ?_; omega) | rfl | (exfalso; omega)
theorem cut_lim (l : List Int) : lim (cut l).length := by simp only [lim, cut, List.length_take]; omega
noncomputable def c19 : PCtr Tryd.prog where
  f := 19
  X := List Int × Room
  args x := [ls x.1 x.2]
  pre x := lim x.1.length ∧ rok x.1 x.2 ∧ em x.1 x.2
  v x := ls (cut x.1) (rcl x.2)
  det := by
    rintro ⟨l, r⟩ ⟨l', r'⟩ e _ _
    simp at e
    simp [e]
  ok := by
    rintro ⟨l, r⟩ ⟨hb, hr, he⟩
    refine ⟨ok19.call, fun H => ?_⟩
    have hno : CallOk Tryd.prog 19 [ls l .no] H (ls (cut l) .no) H := pure_call ((r19 l hb).run ok19 (.pure _ .nil) rfl) (by simp [AV.bnds, AV.bnd, Room.bnd]) (by simp [AV.bnd, Room.bnd]) H
    cases r with
    | nil =>
      have : l = [] := Classical.byContradiction fun h => hr h rfl
      subst this
      exact pure_call (r19n.run ok19 (.pure _ .nil) rfl) rfl rfl H
    | e =>
      have := he rfl
      subst this
      exact pure_call (r19e.run ok19 (.pure _ .nil) rfl) rfl rfl H
    | no => exact hno
    | full => exact CallOk.wk (args := [ls l .full]) hno
    | tok t z => exact CallOk.wk (args := [ls l (.tok t z)]) hno

theorem ok70 : FokM Tryd.prog none1 70 Tryd.f70 := ⟨mixed, by kernel_rfl, by kernel_rfl, by kernel_rfl, by kernel_rfl⟩
theorem r70 (t : List Int) (r : Room) (hp : t.length ≤ 8 ∧ rok t r) : Body ⟨Tryd.prog, Sof (P := Tryd.prog) [], Pof (P := Tryd.prog) [], H.nil.base, 300⟩ none1 Tryd.f70 [ls t r] .nil (I (alls t.length : Nat), .nil) := by
  have ev0 := pw_shl (n := t.length) (by omega)
  have ev1 := pw_alls (n := t.length) hp.1
  refine body_s ([Ans.o (Orc.val 5 (I (↑((2 : Nat) ^ t.length) : Int)) H.nil), Ans.o (Orc.val 6 (I (↑(alls t.length) : Int)) H.nil)]) (aBin Tryd.prog BinOp.shl (3 : Nat) (I 1) (I (↑t.length : Int)) = some (I (↑((2 : Nat) ^ t.length) : Int)) ∧ aBin Tryd.prog BinOp.sub (3 : Nat) (I (↑((2 : Nat) ^ t.length) : Int)) (I 1) = some (I (↑(alls t.length) : Int)) ∧ (I (↑(alls t.length) : Int), H.mk [] [] []) = (I (↑(alls t.length) : Int), H.mk [] [] [])) (by kernel_rfl) ?_
  refine ⟨by first | exact told_shl (by first | exact Int.natCast_nonneg _ | omega) (by with_reducible assumption) | exact told_shl (by omega) rfl, ?_⟩
  refine ⟨told_sub (by with_reducible assumption), ?_⟩
  first | with_reducible rfl | (refine bleaf_t ?_; omega) | (refine bleaf_f ?_; omega) | (refine ileaf ?_; omega) | rfl | (exfalso; omega)
noncomputable def c70 : PCtr Tryd.prog := sctr ok70 (X := List Int × Room) (fun x => [ls x.1 x.2]) (fun x => x.1.length ≤ 8 ∧ rok x.1 x.2) (fun x => I (alls x.1.length : Nat)) (by intro x y e _ _; simp [Int.natCast_inj] at e; simp [e]) (fun x => by simp [AV.bnds, AV.bnd, AV.wk, rm_wk_bnd]) (fun x => by first | rfl | (simp [AV.bnd, rm_wk_bnd]; done)  | (simp [AV.bnd, AV.bnds, rm_wk_bnd]; done) | simp [AV.bnd, AV.bnds, Room.bnd, rm_wk_bnd]) (fun x hx => ⟨_, _, _, .nil, r70 (x.1) (x.2).wk (by first | exact hx | (simp only [rok_wk]; exact hx) | (simp only [rok_wk, lst_wk]; exact hx) | (simp only [rok_wk, lst_wk, lsn_wk]; exact hx))⟩)
theorem ok67 : FokM Tryd.prog none1 67 Tryd.f67 := ⟨mixed, by kernel_rfl, by kernel_rfl, by kernel_rfl, by kernel_rfl⟩
theorem r67 (t : List Int) (r : Room) (p : Nat) (q : Nat) (hp : (rok t r ∧ p < t.length) ∧ q ≤ 64 ∧ s8 (ia t p)) : Body ⟨Tryd.prog, Sof (P := Tryd.prog) [], Pof (P := Tryd.prog) [], H.nil.base, 300⟩ none1 Tryd.f67 [ls t r, I p, I q] .nil (.bool (bi (ia t p) q), .nil) := by
  obtain ⟨⟨h1, h2⟩, h3, h4⟩ := hp
  have hr := rok_idx h1 h2
  cases hb : bi (ia t p) q
  · obtain ⟨ev0, ev1⟩ := i_bit0 h4 h3 hb
    refine body_s ([Ans.o (Orc.val 9 (AV.cptr (ints (List.drop p t))) H.nil), Ans.o (Orc.val 10 (I (t.getD p i0)) H.nil), Ans.o (Orc.val 12 (I (↑((ia t p).toNat >>> q) : Int)) H.nil), Ans.o (Orc.val 13 (I 0) H.nil), Ans.o Orc.dflt]) (aIndexAddr Tryd.prog 22 (ls t r) (I (↑p : Int)) = some (AV.cptr (ints (List.drop p t))) ∧ aLoad Tryd.prog 3 (ints (List.drop p t)) = some (I (t.getD p i0)) ∧ aBin Tryd.prog BinOp.shr (3 : Nat) (I (t.getD p i0)) (I (↑q : Int)) = some (I (↑((ia t p).toNat >>> q) : Int)) ∧ aBin Tryd.prog BinOp.and (3 : Nat) (I (↑((ia t p).toNat >>> q) : Int)) (I 1) = some (I 0) ∧ (AV.bool false, H.mk [] [] []) = (AV.bool false, H.mk [] [] [])) (by kernel_rfl) ?_
    refine ⟨ix_ints (by kernel_rfl) h2 hr, ?_⟩
    refine ⟨by first | exact ld_ints (by kernel_rfl) (by kernel_rfl) (by omega) | exact ldm_ints (by kernel_rfl) (by kernel_rfl) (by first | omega | (simp; omega)), ?_⟩
    refine ⟨by first | exact told_shr (by first | exact Int.natCast_nonneg _ | omega) (by with_reducible assumption) | exact told_shr (by omega) rfl, ?_⟩
    refine ⟨told_and (by with_reducible assumption), ?_⟩
    first | with_reducible rfl | (refine bleaf_t ?_; omega) | (refine bleaf_f ?_; omega) | (refine ileaf ?_; omega) | rfl | (exfalso; omega)
  · obtain ⟨ev0, ev1⟩ := i_bit1 h4 h3 hb
    refine body_s ([Ans.o (Orc.val 9 (AV.cptr (ints (List.drop p t))) H.nil), Ans.o (Orc.val 10 (I (t.getD p i0)) H.nil), Ans.o (Orc.val 12 (I (↑((ia t p).toNat >>> q) : Int)) H.nil), Ans.o (Orc.val 13 (I 1) H.nil), Ans.o Orc.dflt]) (aIndexAddr Tryd.prog 22 (ls t r) (I (↑p : Int)) = some (AV.cptr (ints (List.drop p t))) ∧ aLoad Tryd.prog 3 (ints (List.drop p t)) = some (I (t.getD p i0)) ∧ aBin Tryd.prog BinOp.shr (3 : Nat) (I (t.getD p i0)) (I (↑q : Int)) = some (I (↑((ia t p).toNat >>> q) : Int)) ∧ aBin Tryd.prog BinOp.and (3 : Nat) (I (↑((ia t p).toNat >>> q) : Int)) (I 1) = some (I 1) ∧ (AV.bool true, H.mk [] [] []) = (AV.bool true, H.mk [] [] [])) (by kernel_rfl) ?_
    refine ⟨ix_ints (by kernel_rfl) h2 hr, ?_⟩
    refine ⟨by first | exact ld_ints (by kernel_rfl) (by kernel_rfl) (by omega) | exact ldm_ints (by kernel_rfl) (by kernel_rfl) (by first | omega | (simp; omega)), ?_⟩
    refine ⟨by first | exact told_shr (by first | exact Int.natCast_nonneg _ | omega) (by with_reducible assumption) | exact told_shr (by omega) rfl, ?_⟩
    refine ⟨told_and (by with_reducible assumption), ?_⟩
    first | with_reducible rfl | (refine bleaf_t ?_; omega) | (refine bleaf_f ?_; omega) | (refine ileaf ?_; omega) | rfl | (exfalso; omega)
noncomputable def c67 : PCtr Tryd.prog := sctr ok67 (X := List Int × Room × Nat × Nat) (fun x => [ls x.1 x.2.1, I x.2.2.1, I x.2.2.2]) (fun x => (rok x.1 x.2.1 ∧ x.2.2.1 < x.1.length) ∧ x.2.2.2 ≤ 64 ∧ s8 (ia x.1 x.2.2.1)) (fun x => .bool (bi (ia x.1 x.2.2.1) x.2.2.2)) (by intro x y e _ _; simp [Int.natCast_inj] at e; simp [e]) (fun x => by simp [AV.bnds, AV.bnd, AV.wk, rm_wk_bnd]) (fun x => by first | rfl | (simp [AV.bnd, rm_wk_bnd]; done)  | (simp [AV.bnd, AV.bnds, rm_wk_bnd]; done) | simp [AV.bnd, AV.bnds, Room.bnd, rm_wk_bnd]) (fun x hx => ⟨_, _, _, .nil, r67 (x.1) (x.2.1).wk (x.2.2.1) (x.2.2.2) (by first | exact hx | (simp only [rok_wk]; exact hx) | (simp only [rok_wk, lst_wk]; exact hx) | (simp only [rok_wk, lst_wk, lsn_wk]; exact hx))⟩)
end Go.Proofs.Rnk

