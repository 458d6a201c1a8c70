/- Layer 5: lists, copied and compared; what every correct program passes. -/
import Derived.Test.YtlomlnkafakloaaDoorSuH
import Derived.KernelRfl
set_option linter.unusedSimpArgs false
set_option linter.unusedVariables false
set_option linter.unnecessarySimpa false
set_option maxHeartbeats 4000000
set_option maxRecDepth 100000
namespace Go.Proofs.Sur
open Go Go.VM

def rcl : Room → Room
  | .nil => .nil
  | _ => .no
theorem rcl_rok {l : List Int} {r : Room} (h : rok l r) : rok l (rcl r) := fun hne => by
  have := h hne
  cases r <;> simp_all [rcl]
theorem ok49 : FokM Tryd.prog none1 49 Tryd.f49 := ⟨mixed, by kernel_rfl, by kernel_rfl, by kernel_rfl, by kernel_rfl⟩
theorem r49 (x : Int) (l : List Int) (n : Nat) (hn : (x :: l).length = n) (hb : n ≤ 1000000000) : Body (En6 []) none1 Tryd.f49 [.sl (ints (x :: l)) n .no] .nil (.sl (ints (x :: l)) n (.tok 0 1), ⟨[], [n], []⟩) := by
  have h0 : n ≠ 0 := by subst hn; simp
  refine body_s ([Ans.o (Orc.val 7 (AV.sl (ints (x :: l)) n (Room.tok 0 1)) (H.mk [] [n] []))]) (aAppend Tryd.prog 22 (22 : Nat) (AV.sl [] (0 : Nat) Room.full) (AV.sl (ints (x :: l)) n Room.no) (H.mk [] [] []) = some (AV.sl (ints (x :: l)) n (Room.tok 0 1), H.mk [] [n] []) ∧ leave (Base.mk H.nil.blk.length H.nil.toks.length H.nil.maps.length) (AV.sl (ints (x :: l)) n (Room.tok 0 1)) (H.mk [] [n] []) = (AV.sl (ints (x :: l)) n (Room.tok 0 1), H.mk [] [n] [])) (by kernel_rfl) ?_
  refine ⟨app_new (by kernel_rfl) h0 (by simpa using hn) (ints_one _) (by omega), ?_⟩
  exact leave_ints _ _
theorem r49z : Body (En6 []) none1 Tryd.f49 [.sl (ints []) 0 .no] .nil (.sl [] 0 .full, .nil) := by
  refine body_s ([]) ((AV.sl [] (0 : Nat) Room.full, H.mk [] [] []) = (AV.sl [] (0 : Nat) Room.full, H.mk [] [] [])) (by kernel_rfl) ?_
  first | with_reducible rfl | (refine bleaf_t ?_; omega) | (refine bleaf_f ?_; omega) | (refine ileaf ?_; omega) | rfl | (exfalso; omega)
theorem r49e : Body (En6 []) none1 Tryd.f49 [.sl (ints []) 0 .e] .nil (.sl [] 0 .full, .nil) := by
  refine body_s ([]) ((AV.sl [] (0 : Nat) Room.full, H.mk [] [] []) = (AV.sl [] (0 : Nat) Room.full, H.mk [] [] [])) (by kernel_rfl) ?_
  first | with_reducible rfl | (refine bleaf_t ?_; omega) | (refine bleaf_f ?_; omega) | (refine ileaf ?_; omega) | rfl | (exfalso; omega)
theorem r49n : Body (En6 []) none1 Tryd.f49 [.sl (ints []) 0 .nil] .nil (.sl [] 0 .nil, .nil) := by
  refine body_s ([]) ((AV.sl [] (0 : Nat) Room.nil, H.mk [] [] []) = (AV.sl [] (0 : Nat) Room.nil, H.mk [] [] [])) (by kernel_rfl) ?_
  first | with_reducible rfl | (refine bleaf_t ?_; omega) | (refine bleaf_f ?_; omega) | (refine ileaf ?_; omega) | rfl | (exfalso; omega)
abbrev em (l : List Int) (r : Room) : Prop := r = .e → l = []
theorem clone_no (l : List Int) (n : Nat) (hn : l.length = n) (hb : n ≤ 1000000000) (H : H) : CallOk Tryd.prog 49 [.sl (ints l) n .no] H (.sl (ints l) n .no) H := by
  subst hn
  cases l with
  | nil => exact pure_call ((r49z.run ok49 .nil rfl).drop rfl) rfl rfl H
  | cons x l =>
    have := ((r49 x l _ rfl hb).run ok49 .nil rfl).drop (by show AV.plains (ints (x :: l)) = true; exact plains_ints _)
    simp only [AV.wkd, wkds_ints, Room.wk] at this
    exact pure_call this (by simp [AV.bnds, AV.bnd, Room.bnd, -ints_cons]) (by simp [AV.bnd, Room.bnd, -ints_cons]) H
noncomputable def c49 : PCtr Tryd.prog where
  f := 49
  X := List Int × Room × Nat
  args x := [.sl (ints x.1) x.2.2 x.2.1]
  pre x := x.1.length = x.2.2 ∧ x.2.2 ≤ 1000000000 ∧ rok x.1 x.2.1 ∧ em x.1 x.2.1
  v x := .sl (ints x.1) x.2.2 (rcl x.2.1)
  det := by
    rintro ⟨l, r, n⟩ ⟨l', r', n'⟩ e _ _
    simp at e
    simp [e]
  ok := by
    rintro ⟨l, r, n⟩ ⟨hn, hb, hr, he⟩
    refine ⟨ok49.call, fun H => ?_⟩
    have hno := clone_no l n hn hb H
    cases r with
    | nil =>
      have : l = [] := Classical.byContradiction fun h => hr h rfl
      subst this
      simp at hn; subst hn
      exact pure_call ((r49n.run ok49 .nil rfl).drop rfl) rfl rfl H
    | e =>
      have := he rfl
      subst this
      simp at hn; subst hn
      exact pure_call ((r49e.run ok49 .nil rfl).drop rfl) rfl rfl H
    | no => exact hno
    | full => exact CallOk.wk (args := [.sl (ints l) n .full]) hno
    | tok t z => exact CallOk.wk (args := [.sl (ints l) n (.tok t z)]) hno
noncomputable def at1 (c : PCtr Tryd.prog) (x : c.X) (hx : c.pre x) (xs : List AV) (v : AV) (ha : c.args x = xs) (hv : c.v x = v) : PCtr Tryd.prog where
  f := c.f
  X := Unit
  args _ := xs
  pre _ := True
  v _ := v
  det _ _ _ _ _ := rfl
  ok _ _ := by subst ha; subst hv; exact c.ok x hx
noncomputable def c49n : PCtr Tryd.prog := at1 c49 ([], .nil, 0) ⟨rfl, by decide, fun h => absurd rfl h, fun _ => rfl⟩ [.sl [] 0 .nil] (.sl [] 0 .nil) rfl rfl
noncomputable def c49e : PCtr Tryd.prog := at1 c49 ([], .e, 0) ⟨rfl, by decide, fun h => absurd rfl h, fun _ => rfl⟩ [.sl [] 0 .e] (.sl [] 0 .no) rfl rfl
abbrev cut (l : List Int) : List Int := l.take 80
theorem ok19 : FokM Tryd.prog none1 19 Tryd.f19 := ⟨mixed, by kernel_rfl, by kernel_rfl, by kernel_rfl, by kernel_rfl⟩
theorem r19 (l : List Int) (hb : lim l.length) : Body (En6 [c49.to]) none1 Tryd.f19 [ls l .no] .nil (ls (cut l) .no, .nil) := by
  have hk : (l.take (pick2 false (l.length : Int) 80).toNat) = cut l ∧ (pick2 false (l.length : Int) 80).toNat = (cut l).length ∧ 0 ≤ pick2 false (l.length : Int) 80 ∧ pick2 false (l.length : Int) 80 ≤ 80 ∧ pick2 false (l.length : Int) 80 ≤ l.length := by
    simp only [pick2, Bool.false_eq_true, if_false, cut, List.length_take]
    by_cases h : (80 : Int) < l.length
    · rw [if_pos h]; refine ⟨rfl, by simp; omega, by omega, by omega, by omega⟩
    · rw [if_neg h]
      have : l.length ≤ 80 := by omega
      refine ⟨?_, by simp; omega, by omega, by omega, by omega⟩
      rw [List.take_of_length_le this, List.take_of_length_le (by simp)]
  have p49 : (l.take (pick2 false (l.length : Int) 80).toNat).length = (pick2 false (l.length : Int) 80).toNat ∧ (pick2 false (l.length : Int) 80).toNat ≤ 1000000000 ∧ rok (l.take (pick2 false (l.length : Int) 80).toNat) .no ∧ em (l.take (pick2 false (l.length : Int) 80).toNat) .no := ⟨by rw [hk.1, hk.2.1], by omega, fun _ => no_ne, fun h => by cases h⟩
  refine body_s ([Ans.o (Orc.val 7 (AV.sl (ints (List.take (pick2 false (↑l.length : Int) (80 : Int)).toNat l)) (pick2 false (↑l.length : Int) (80 : Int)).toNat Room.no) H.nil), Ans.o (Orc.val 8 (AV.sl (ints (List.take (pick2 false (↑l.length : Int) (80 : Int)).toNat l)) (pick2 false (↑l.length : Int) (80 : Int)).toNat Room.no) (H.mk [] [] []))]) (aSlice Tryd.prog 22 (ls l Room.no) none (some (I (pick2 false (↑l.length : Int) (80 : Int)))) none (H.mk [] [] []) = some (AV.sl (ints (List.take (pick2 false (↑l.length : Int) (80 : Int)).toNat l)) (pick2 false (↑l.length : Int) (80 : Int)).toNat Room.no) ∧ aCall (Sof [c49.to]) (AV.fn (Fn.func 49) [] []) [AV.sl (ints (List.take (pick2 false (↑l.length : Int) (80 : Int)).toNat l)) (pick2 false (↑l.length : Int) (80 : Int)).toNat Room.no] (H.mk [] [] []) = some (AV.sl (ints (List.take (pick2 false (↑l.length : Int) (80 : Int)).toNat l)) (pick2 false (↑l.length : Int) (80 : Int)).toNat Room.no, H.mk [] [] []) ∧ leave (Base.mk H.nil.blk.length H.nil.toks.length H.nil.maps.length) (AV.sl (ints (List.take (pick2 false (↑l.length : Int) (80 : Int)).toNat l)) (pick2 false (↑l.length : Int) (80 : Int)).toNat Room.no) (H.mk [] [] []) = (ls (cut l) Room.no, H.mk [] [] [])) (by kernel_rfl) ?_
  refine ⟨sl_ints (by kernel_rfl) hk.2.2.1 hk.2.2.2.2, ?_⟩
  refine ⟨acall_hit (c := c49.to) (l.take (pick2 false (l.length : Int) 80).toNat, .no, (pick2 false (l.length : Int) 80).toNat) _ rfl p49, ?_⟩
  (rw [hk.1, hk.2.1]; exact leave_bs [] (by simp [AV.bnd, Room.bnd]))
theorem r19n : Body (En6 [c49n.to]) none1 Tryd.f19 [ls [] .nil] .nil (ls [] .nil, .nil) := by
  refine body_s ([Ans.o (Orc.val 8 (AV.sl [] (0 : Nat) Room.nil) (H.mk [] [] []))]) (aCall (Sof [c49n.to]) (AV.fn (Fn.func 49) [] []) [AV.sl [] (0 : Nat) Room.nil] (H.mk [] [] []) = some (AV.sl [] (0 : Nat) Room.nil, H.mk [] [] []) ∧ (AV.sl [] (0 : Nat) Room.nil, H.mk [] [] []) = (AV.sl (ints []) (0 : Nat) Room.nil, H.mk [] [] [])) (by kernel_rfl) ?_
  refine ⟨acall_hit (c := c49n.to) () _ rfl trivial, ?_⟩
  first | with_reducible rfl | (refine bleaf_t ?_; omega) | (refine bleaf_f ?_; omega) | (refine ileaf ?_; omega) | rfl | (exfalso; omega)
theorem r19e : Body (En6 [c49e.to]) none1 Tryd.f19 [ls [] .e] .nil (ls [] .no, .nil) := by
  refine body_s ([Ans.o (Orc.val 8 (AV.sl [] (0 : Nat) Room.no) (H.mk [] [] []))]) (aCall (Sof [c49e.to]) (AV.fn (Fn.func 49) [] []) [AV.sl [] (0 : Nat) Room.e] (H.mk [] [] []) = some (AV.sl [] (0 : Nat) Room.no, H.mk [] [] []) ∧ (AV.sl [] (0 : Nat) Room.no, H.mk [] [] []) = (AV.sl (ints []) (0 : Nat) Room.no, H.mk [] [] [])) (by kernel_rfl) ?_
  refine ⟨acall_hit (c := c49e.to) () _ rfl trivial, ?_⟩
  first | with_reducible rfl | (refine bleaf_t ?_; omega) | (refine bleaf_f ?_; omega) | (refine ileaf ?_; omega) | rfl | (exfalso; omega)
theorem cut_lim (l : List Int) : lim (cut l).length := by simp only [lim, cut, List.length_take]; omega
noncomputable def c19 : PCtr Tryd.prog where
  f := 19
  X := List Int × Room
  args x := [ls x.1 x.2]
  pre x := lim x.1.length ∧ rok x.1 x.2 ∧ em x.1 x.2
  v x := ls (cut x.1) (rcl x.2)
  det := by
    rintro ⟨l, r⟩ ⟨l', r'⟩ e _ _
    simp at e
    simp [e]
  ok := by
    rintro ⟨l, r⟩ ⟨hb, hr, he⟩
    refine ⟨ok19.call, fun H => ?_⟩
    have hno : CallOk Tryd.prog 19 [ls l .no] H (ls (cut l) .no) H := pure_call ((r19 l hb).run ok19 (.pure _ .nil) rfl) (by simp [AV.bnds, AV.bnd, Room.bnd]) (by simp [AV.bnd, Room.bnd]) H
    cases r with
    | nil =>
      have : l = [] := Classical.byContradiction fun h => hr h rfl
      subst this
      exact pure_call (r19n.run ok19 (.pure _ .nil) rfl) rfl rfl H
    | e =>
      have := he rfl
      subst this
      exact pure_call (r19e.run ok19 (.pure _ .nil) rfl) rfl rfl H
    | no => exact hno
    | full => exact CallOk.wk (args := [ls l .full]) hno
    | tok t z => exact CallOk.wk (args := [ls l (.tok t z)]) hno
abbrev o24 : List Out := [.mk Unit .ret [4] (fun _ => False) (fun _ => [.bool false]) (fun _ => .nil) (fun _ => []), .mk Unit (.exit 0) [] (fun _ => True) (fun _ => []) (fun _ => .nil) (fun _ => [])]
theorem simp24 : allSimpleM none1 (loopAt Tryd.f24 0) = true := by kernel_rfl
theorem lp24 (l : List Int) (r1 r2 : Room) (h0 : lim l.length) (h1 : rok l r1) (h2 : rok l r2) :
    LoopS (En6 []) (loopAt Tryd.f24 0) 26 [0, 1, 12, 13] [ls l r1, ls l r2, I l.length, I 0] .nil o24 := by
  have hR : Rests (En6 []) none1 := rests mixed .nil
  refine loop_s hR simp24 none (by intro _ h; cases h) (fun j vs h => h = .nil ∧ vs = [ls l r1, ls l r2, I l.length, I j]) l.length ⟨rfl, rfl⟩ (by intro _ h; cases h) ?_
  rintro j vs h hj ⟨rfl, rfl⟩
  by_cases hz : (j : Int) < l.length
  · have hz' : j < l.length := by omega
    have hr1 := rok_idx h1 hz'
    have hr2 := rok_idx h2 hz'
    have he : l.getD j i0 = l.getD j i0 := rfl
    refine ⟨[Ans.o (Orc.b true), Ans.o (Orc.val 18 (AV.cptr (ints (List.drop j l))) H.nil), Ans.o (Orc.val 19 (I (l.getD j i0)) H.nil), Ans.o (Orc.val 22 (AV.cptr (ints (List.drop j l))) H.nil), Ans.o (Orc.val 23 (I (l.getD j i0)) H.nil), Ans.o (Orc.b false)], fun u => of_eq ((↑j : Int) < (↑l.length : Int) ∧ aIndexAddr Tryd.prog 22 (ls l r1) (I (↑j : Int)) = some (AV.cptr (ints (List.drop j l))) ∧ aLoad Tryd.prog 3 (ints (List.drop j l)) = some (I (l.getD j i0)) ∧ aIndexAddr Tryd.prog 22 (ls l r2) (I (↑j : Int)) = some (AV.cptr (ints (List.drop j l))) ∧ aLoad Tryd.prog 3 (ints (List.drop j l)) = some (I (l.getD j i0)) ∧ l.getD j i0 = l.getD j i0 ∧ IntKind.i64.wrap ((↑j : Int) + (1 : Int)) = (↑j : Int) + (1 : Int) ∧ (26 : Nat) = (26 : Nat) ∧ j < l.length ∧ Keep (H.mk [] [] [] = H.mk [] [] [] ∧ [ls l r1, ls l r2, I (↑l.length : Int), I ((↑j : Int) + (1 : Int))] = [ls l r1, ls l r2, I (↑l.length : Int), I (↑(j + (1 : Nat)) : Int)])) (by kernel_rfl) ?_⟩
    refine ⟨by first | with_reducible assumption | omega | assumption, ?_⟩
    refine ⟨by first | exact ix_ints (by kernel_rfl) (by omega) hr1 | exact ix_ints (by kernel_rfl) (by omega) hr2, ?_⟩
    refine ⟨by first | exact ld_ints (by kernel_rfl) (by kernel_rfl) (by omega) | exact ldm_ints (by kernel_rfl) (by kernel_rfl) (by first | omega | (simp; omega)), ?_⟩
    refine ⟨by first | exact ix_ints (by kernel_rfl) (by omega) hr1 | exact ix_ints (by kernel_rfl) (by omega) hr2, ?_⟩
    refine ⟨by first | exact ld_ints (by kernel_rfl) (by kernel_rfl) (by omega) | exact ldm_ints (by kernel_rfl) (by kernel_rfl) (by first | omega | (simp; omega)), ?_⟩
    refine ⟨by first | with_reducible assumption | omega | assumption, ?_⟩
    refine ⟨wr _ (by omega) (by omega), ?_⟩
    refine ⟨by first | with_reducible assumption | omega | assumption, ?_⟩
    refine ⟨by first | with_reducible assumption | omega | assumption, ?_⟩
    exact ⟨rfl, rfl⟩
  · have hz : (l.length : Int) ≤ j := by omega
    have e : j = l.length := by omega
    subst e
    refine ⟨[Ans.o (Orc.b false)], fun u => of_eq ((↑l.length : Int) ≤ (↑l.length : Int) ∧ (26 : Nat) = (26 : Nat) ∧ hits [Out.mk Unit AX.ret [4] (fun x => False) (fun x => [AV.bool false]) (fun x => H.nil) fun x => [], Out.mk Unit (AX.exit 0) [] (fun x => True) (fun x => []) (fun x => H.nil) fun x => []] (AX.exit 0) [ls l r1, ls l r2, u (2 : Nat), u (3 : Nat), u (4 : Nat), u (5 : Nat), u (6 : Nat), u (7 : Nat), u (8 : Nat), u (9 : Nat), u (10 : Nat), u (11 : Nat), I (↑l.length : Int), I (↑l.length : Int), AV.bool false, u (15 : Nat), u (16 : Nat), u (17 : Nat), u (18 : Nat), u (19 : Nat), u (20 : Nat), u (21 : Nat), u (22 : Nat), u (23 : Nat), u (24 : Nat), u (25 : Nat)] (H.mk [] [] [])) (by kernel_rfl) ?_⟩
    refine ⟨by first | with_reducible assumption | omega | assumption, ?_⟩
    refine ⟨by first | with_reducible assumption | omega | assumption, ?_⟩
    exact .inr (.inl ⟨(), trivial, rfl, rfl, rfl⟩)
theorem ok24 : FokM Tryd.prog none1 24 Tryd.f24 := ⟨mixed, by kernel_rfl, by kernel_rfl, by kernel_rfl, by kernel_rfl⟩
theorem r24 (l : List Int) (r1 r2 : Room) (h0 : lim l.length) (h1 : rok l r1) (h2 : rok l r2) : Body (En6 []) none1 Tryd.f24 [ls l r1, ls l r2] .nil (.bool true, .nil) := by
  have he : (l.length : Int) = l.length := rfl
  refine body_s ([Ans.o (Orc.b false), Ans.loop [0, 1, 12, 13] [Out.mk Unit AX.ret [4] (fun x => False) (fun x => [AV.bool false]) (fun x => H.nil) fun y => [], Out.mk Unit (AX.exit 0) [] (fun x => True) (fun x => []) (fun x => H.nil) fun y => []]]) ((↑l.length : Int) = (↑l.length : Int) ∧ LoopS (Env.mk Tryd.prog (Sof (P := Tryd.prog) []) (Pof (P := Tryd.prog) []) H.nil.base (300 : Nat)) (loopAt Tryd.f24 0) 26 [0, 1, 12, 13] [ls l r1, ls l r2, I (↑l.length : Int), I 0] (H.mk [] [] []) [Out.mk Unit AX.ret [4] (fun x => False) (fun x => [AV.bool false]) (fun x => H.nil) fun y => [], Out.mk Unit (AX.exit 0) [] (fun x => True) (fun x => []) (fun x => H.nil) fun y => []] ∧ (∀ (y : Unit), False → ∀ (u : Nat → AV), (AV.bool false, H.mk [] [] []) = (AV.bool true, H.mk [] [] [])) ∧ (∀ (y : Unit), True → ∀ (u : Nat → AV), (AV.bool true, H.mk [] [] []) = (AV.bool true, H.mk [] [] [])) ∧ True) (by kernel_rfl) ?_
  refine ⟨by first | with_reducible assumption | omega | assumption, ?_⟩
  refine ⟨lp24 l r1 r2 h0 h1 h2, ?_⟩
  refine And.intro ?_ ?_
  · skip
    intro y
    intro w1
    intro u
    first | rfl | (exfalso; assumption)
  · skip
    refine And.intro ?_ ?_
    · skip
      intro y
      intro w1
      intro u
      first | rfl | (exfalso; assumption)
    · skip
      trivial
noncomputable def c24 : PCtr Tryd.prog := sctr ok24 (X := List Int × Room × List Int × Room) (fun x => [ls x.1 x.2.1, ls x.2.2.1 x.2.2.2]) (fun x => x.1 = x.2.2.1 ∧ lim x.1.length ∧ rok x.1 x.2.1 ∧ rok x.2.2.1 x.2.2.2) (fun _ => .bool true)
  (by intro x y e _ _; rfl) (fun x => by simp [AV.bnds, AV.bnd, AV.wk, rm_wk_bnd]) (fun _ => rfl) (fun x hx => by
    obtain ⟨l, r1, m, r2⟩ := x
    obtain ⟨e, h0, h1, h2⟩ := hx
    simp only at e h0 h1 h2
    subst e
    exact ⟨_, _, _, .nil, r24 l r1.wk r2.wk h0 (by simpa using h1) (by simpa using h2)⟩)
theorem gr21 : Gr [2, 1] := by decide
theorem rd21 : rdE [2, 1] 1 = 0 ∧ rdW [2, 1] 1 = [3#64, 3#64] := rd_some ⟨grB_t gr21, by omega, by omega⟩ rfl
theorem fr21 : frV [3#64, 3#64] = [0] := by kernel_rfl
theorem co21 : coV [2, 1] 1 = [0] := by rw [coV, if_pos rd21.1, rd21.2, fr21]
noncomputable def c28a : PCtr Tryd.prog := at1 c28 ([2, 1], .full, 1) ⟨by decide, fun _ => by simp⟩ [.sl [I 2, I 1] 2 .full, I 1] (.tup [.sl (ints [0]) 1 .no, I 0]) rfl (by
  show AV.tup [ls (coV [2, 1] 1) (rn (coV [2, 1] 1)), I (rdE [2, 1] 1)] = _
  rw [co21, rd21.1]; rfl)
noncomputable def c24a : PCtr Tryd.prog := at1 c24 ([0], .no, [0], .full) ⟨rfl, by decide, fun _ => by simp, fun _ => by simp⟩ [.sl (ints [0]) 1 .no, .sl [I 0] 1 .full] (.bool true) rfl rfl
theorem ok23 : FokM Tryd.prog none1 23 Tryd.f23 := ⟨mixed, by kernel_rfl, by kernel_rfl, by kernel_rfl, by kernel_rfl⟩
theorem r23 : Body (En6 [c28a.to, c24a.to]) none1 Tryd.f23 [] .nil (.bool true, .nil) := by
  refine body_s ([Ans.o (Orc.val 5 (AV.tup [AV.sl (ints [(0 : Int)]) (1 : Nat) Room.no, I 0]) (H.mk [] [] [])), Ans.o Orc.dflt, Ans.o (Orc.val 13 (AV.bool true) (H.mk [] [] []))]) (aCall (Sof [c28a.to, c24a.to]) (AV.fn (Fn.func 28) [] []) [AV.sl [I 2, I 1] (2 : Nat) Room.full, I 1] (H.mk [] [] []) = some (AV.tup [AV.sl (ints [(0 : Int)]) (1 : Nat) Room.no, I 0], H.mk [] [] []) ∧ aCall (Sof [c28a.to, c24a.to]) (AV.fn (Fn.func 24) [] []) [AV.sl (ints [(0 : Int)]) (1 : Nat) Room.no, AV.sl [I 0] (1 : Nat) Room.full] (H.mk [] [] []) = some (AV.bool true, H.mk [] [] []) ∧ (AV.bool true, H.mk [] [] []) = (AV.bool true, H.mk [] [] [])) (by kernel_rfl) ?_
  refine ⟨acall_hit (c := c28a.to) () _ rfl trivial, ?_⟩
  refine ⟨acall_hit (c := c24a.to) () _ rfl trivial, ?_⟩
  first | with_reducible rfl | (refine bleaf_t ?_; omega) | (refine bleaf_f ?_; omega) | (refine ileaf ?_; omega) | rfl | (exfalso; omega)
noncomputable def c23 : PCtr Tryd.prog := sctr ok23 (X := Unit) (fun _ => []) (fun _ => True) (fun _ => .bool true) (by intro x y e _ _; rfl) (fun x => rfl) (fun x => rfl) (fun x hx => ⟨_, _, _, .pure _ (.pure _ .nil), r23⟩)
end Go.Proofs.Sur

