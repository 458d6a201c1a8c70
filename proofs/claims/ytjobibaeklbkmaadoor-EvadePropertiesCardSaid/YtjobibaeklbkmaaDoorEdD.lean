/- Layer 8: lists that are the same, copies; what is read. -/
import Derived.Test.YtjobibaeklbkmaaDoorEdC
import Derived.Test.YtjobibaeklbkmaaDoorEdO
import Derived.KernelRfl
set_option linter.unusedSimpArgs false
set_option linter.unusedVariables false
set_option linter.unnecessarySimpa false
set_option maxHeartbeats 4000000
set_option maxRecDepth 100000
namespace Go.Proofs.Evd
open Go Go.VM
open Go.Proofs.Sur (W w_wrap w_nat w_inj w_eq0 w_and w_or w_andn w_shl w_shr neg_nat sub_nat tz tz_ok cl bits_cons bits_0 bits_len andn andn_bit andn_le i_wrap i_and i_or i_andn i_shl i_shr bit_01)

theorem at_ext {l m : List Int} (h : l.length = m.length) (k : ∀ i, i < l.length → l.getD i i0 = m.getD i i0) : l = m := by
  apply List.ext_getElem h
  intro i h1 h2
  have := k i h1
  simpa [List.getD_eq_getElem?_getD, List.getElem?_eq_getElem h1, List.getElem?_eq_getElem h2] using this
def o22 (l m : List Int) : List Out := [.mk Unit .ret [4] (fun _ => l ≠ m) (fun _ => [.bool false]) (fun _ => .nil) (fun _ => []), .mk Unit (.exit 0) [] (fun _ => l = m) (fun _ => []) (fun _ => .nil) (fun _ => [])]
theorem simp22 : allSimpleM none1 (loopAt Tryd.f22 0) = true := by kernel_rfl
theorem lp22 (l m : List Int) (r1 r2 : Room) (hlm : l.length = m.length) (h0 : lim l.length) (h1 : rok l r1) (h2 : rok m r2) :
    LoopS (En6 []) (loopAt Tryd.f22 0) 26 [0, 1, 12, 13] [ls l r1, ls m r2, I l.length, I 0] .nil (o22 l m) := by
  have hR : Rests (En6 []) none1 := rests mixed .nil
  refine loop_s hR simp22 none (by intro _ h; cases h) (fun j vs h => h = .nil ∧ vs = [ls l r1, ls m r2, I l.length, I j] ∧ ∀ i, i < j → l.getD i i0 = m.getD i i0) l.length ⟨rfl, rfl, fun i hi => absurd hi (Nat.not_lt_zero _)⟩ (by intro _ h; cases h) ?_
  rintro j vs h hj ⟨rfl, rfl, hI⟩
  by_cases hz : (j : Int) < l.length
  · have hz' : j < l.length := by omega
    have hz2 : j < m.length := by omega
    have hr1 := rok_idx h1 hz'
    have hr2 := rok_idx h2 hz2
    have ev0 : IntKind.i64.wrap ((j : Int) + 1) = ((j + 1 : Nat) : Int) := by rw [wr _ (by omega) (by omega)]; omega
    refine ⟨[Ans.o (Orc.b true), Ans.o (Orc.val 18 (AV.cptr (ints (List.drop j l))) H.nil), Ans.o (Orc.val 19 (I (l.getD j i0)) H.nil), Ans.o (Orc.val 22 (AV.cptr (ints (List.drop j m))) H.nil), Ans.o (Orc.val 23 (I (m.getD j i0)) H.nil), Ans.fork [] [Ans.o (Orc.val 25 (I (↑(j + (1 : Nat)) : Int)) H.nil)]], fun u => of_eq ((↑j : Int) < (↑l.length : Int) ∧ aIndexAddr Tryd.prog (22 : Nat) (AV.sl (ints l) l.length r1) (I (↑j : Int)) = some (AV.cptr (ints (List.drop j l))) ∧ aLoad Tryd.prog (3 : Nat) (ints (List.drop j l)) = some (I (l.getD j i0)) ∧ aIndexAddr Tryd.prog (22 : Nat) (AV.sl (ints m) m.length r2) (I (↑j : Int)) = some (AV.cptr (ints (List.drop j m))) ∧ aLoad Tryd.prog (3 : Nat) (ints (List.drop j m)) = some (I (m.getD j i0)) ∧ (l.getD j i0 ≠ m.getD j i0 → (26 : Nat) = (26 : Nat) ∧ hits [Out.mk Unit AX.ret [(4 : Nat)] (fun x => l ≠ m) (fun x => [AV.bool false]) (fun x => H.nil) fun x => [], Out.mk Unit (AX.exit (0 : Nat)) [] (fun x => l = m) (fun x => []) (fun x => H.nil) fun x => []] AX.ret [AV.sl (ints l) l.length r1, AV.sl (ints m) m.length r2, u (2 : Nat), u (3 : Nat), AV.bool false, I (↑j : Int), u (6 : Nat), u (7 : Nat), u (8 : Nat), u (9 : Nat), u (10 : Nat), u (11 : Nat), I (↑l.length : Int), I (↑j : Int), AV.bool true, I (↑j : Int), AV.sl (ints l) l.length r1, I (↑j : Int), AV.cptr (ints (List.drop j l)), I (l.getD j i0), AV.sl (ints m) m.length r2, I (↑j : Int), AV.cptr (ints (List.drop j m)), I (m.getD j i0), AV.bool true, u (25 : Nat)] (H.mk [] [] [])) ∧ (l.getD j i0 = m.getD j i0 → aBin Tryd.prog BinOp.add (3 : Nat) (I (↑j : Int)) (I 1) = some (I (↑(j + (1 : Nat)) : Int)) ∧ (26 : Nat) = (26 : Nat) ∧ j < l.length ∧ Keep (H.mk [] [] [] = H.mk [] [] [] ∧ [AV.sl (ints l) l.length r1, AV.sl (ints m) m.length r2, I (↑l.length : Int), I (↑(j + (1 : Nat)) : Int)] = [AV.sl (ints l) l.length r1, AV.sl (ints m) m.length r2, I (↑l.length : Int), I (↑(j + (1 : Nat)) : Int)] ∧ ∀ (i : Nat), i < j + (1 : Nat) → l.getD i i0 = m.getD i i0))) (by kernel_rfl) ?_⟩
    refine ⟨by first | with_reducible assumption | omega | assumption, ?_⟩
    refine ⟨by first | exact ix_ints (by kernel_rfl) (by omega) hr1 | exact ix_ints (by kernel_rfl) (by omega) hr2, ?_⟩
    refine ⟨by first | exact ld_ints (by kernel_rfl) (by kernel_rfl) (by omega) | exact ldm_ints (by kernel_rfl) (by kernel_rfl) (by first | omega | (simp; omega)), ?_⟩
    refine ⟨by first | exact ix_ints (by kernel_rfl) (by omega) hr1 | exact ix_ints (by kernel_rfl) (by omega) hr2, ?_⟩
    refine ⟨by first | exact ld_ints (by kernel_rfl) (by kernel_rfl) (by omega) | exact ldm_ints (by kernel_rfl) (by kernel_rfl) (by first | omega | (simp; omega)), ?_⟩
    refine And.intro ?_ ?_
    · skip
      intro w0
      refine ⟨by first | with_reducible assumption | omega | assumption, ?_⟩
      exact .inl ⟨(), fun e => by subst e; contradiction, rfl, rfl, rfl⟩
    · skip
      intro w0
      refine ⟨told_add (by with_reducible assumption), ?_⟩
      refine ⟨by first | with_reducible assumption | omega | assumption, ?_⟩
      refine ⟨by first | with_reducible assumption | omega | assumption, ?_⟩
      exact ⟨rfl, rfl, fun i hi => by by_cases e : i = j; (· subst e; assumption); (· exact hI i (by omega))⟩
  · have hz : (l.length : Int) ≤ j := by omega
    refine ⟨[Ans.o (Orc.b false)], fun u => of_eq ((↑l.length : Int) ≤ (↑j : Int) ∧ (26 : Nat) = (26 : Nat) ∧ hits [Out.mk Unit AX.ret [(4 : Nat)] (fun x => l ≠ m) (fun x => [AV.bool false]) (fun x => H.nil) fun x => [], Out.mk Unit (AX.exit (0 : Nat)) [] (fun x => l = m) (fun x => []) (fun x => H.nil) fun x => []] (AX.exit (0 : Nat)) [AV.sl (ints l) l.length r1, AV.sl (ints m) m.length r2, u (2 : Nat), u (3 : Nat), u (4 : Nat), u (5 : Nat), u (6 : Nat), u (7 : Nat), u (8 : Nat), u (9 : Nat), u (10 : Nat), u (11 : Nat), I (↑l.length : Int), I (↑j : Int), AV.bool false, u (15 : Nat), u (16 : Nat), u (17 : Nat), u (18 : Nat), u (19 : Nat), u (20 : Nat), u (21 : Nat), u (22 : Nat), u (23 : Nat), u (24 : Nat), u (25 : Nat)] (H.mk [] [] [])) (by kernel_rfl) ?_⟩
    refine ⟨by first | with_reducible assumption | omega | assumption, ?_⟩
    refine ⟨by first | with_reducible assumption | omega | assumption, ?_⟩
    exact .inr (.inl ⟨(), at_ext hlm fun i hi => hI i (by omega), rfl, rfl, rfl⟩)
theorem ok22 : FokM Tryd.prog none1 22 Tryd.f22 := ⟨mixed, by kernel_rfl, by kernel_rfl, by kernel_rfl, by kernel_rfl⟩
theorem r22 (l m : List Int) (r1 r2 : Room) (h0 : lim l.length) (h1 : rok l r1) (h2 : rok m r2) : Body (En6 []) none1 Tryd.f22 [ls l r1, ls m r2] .nil (.bool (decide (l = m)), .nil) := by
  by_cases hlm : l.length = m.length
  · have he : (l.length : Int) = m.length := by omega
    have hl := lp22 l m r1 r2 hlm h0 h1 h2
    refine body_s ([Ans.o (Orc.b false), Ans.loop [(0 : Nat), (1 : Nat), (12 : Nat), (13 : Nat)] [Out.mk Unit AX.ret [(4 : Nat)] (fun x => l ≠ m) (fun x => [AV.bool false]) (fun x => H.nil) fun y => [], Out.mk Unit (AX.exit (0 : Nat)) [] (fun x => l = m) (fun x => []) (fun x => H.nil) fun y => []]]) ((↑l.length : Int) = (↑m.length : Int) ∧ LoopS (Env.mk Tryd.prog (Sof (P := Tryd.prog) []) (Pof (P := Tryd.prog) []) H.nil.base (300 : Nat)) (loopAt Tryd.f22 (0 : Nat)) (26 : Nat) [(0 : Nat), (1 : Nat), (12 : Nat), (13 : Nat)] [AV.sl (ints l) l.length r1, AV.sl (ints m) m.length r2, I (↑l.length : Int), I 0] (H.mk [] [] []) [Out.mk Unit AX.ret [(4 : Nat)] (fun x => l ≠ m) (fun x => [AV.bool false]) (fun x => H.nil) fun y => [], Out.mk Unit (AX.exit (0 : Nat)) [] (fun x => l = m) (fun x => []) (fun x => H.nil) fun y => []] ∧ (∀ (y : Unit), l ≠ m → ∀ (u : Nat → AV), (AV.bool false, H.mk [] [] []) = (AV.bool (decide (l = m)), H.mk [] [] [])) ∧ (∀ (y : Unit), l = m → ∀ (u : Nat → AV), (AV.bool true, H.mk [] [] []) = (AV.bool (decide (l = m)), H.mk [] [] [])) ∧ True) (by kernel_rfl) ?_
    refine ⟨by first | with_reducible assumption | omega | assumption, ?_⟩
    refine ⟨hl, ?_⟩
    refine And.intro ?_ ?_
    · skip
      intro y
      intro w1
      intro u
      first | (rw [decide_eq_true (by assumption)]) | (rw [decide_eq_false (by assumption)])
    · skip
      refine And.intro ?_ ?_
      · skip
        intro y
        intro w1
        intro u
        first | (rw [decide_eq_true (by assumption)]) | (rw [decide_eq_false (by assumption)])
      · skip
        trivial
  · have he : (l.length : Int) ≠ m.length := by omega
    have hf : l ≠ m := fun e => hlm (by rw [e])
    refine body_s ([Ans.o (Orc.b true)]) ((↑l.length : Int) ≠ (↑m.length : Int) ∧ (AV.bool false, H.mk [] [] []) = (AV.bool (decide (l = m)), H.mk [] [] [])) (by kernel_rfl) ?_
    refine ⟨by first | with_reducible assumption | omega | assumption, ?_⟩
    rw [decide_eq_false hf]
noncomputable def c22 : PCtr Tryd.prog := sctr ok22 (X := List Int × Room × List Int × Room) (fun x => [ls x.1 x.2.1, ls x.2.2.1 x.2.2.2]) (fun x => lim x.1.length ∧ rok x.1 x.2.1 ∧ rok x.2.2.1 x.2.2.2) (fun x => .bool (decide (x.1 = x.2.2.1)))
  (by rintro ⟨a, b, c, d⟩ ⟨a', b', c', d'⟩ e _ _; simp at e; simp only [e.1.1, e.2.1]) (fun x => by simp [AV.bnds, AV.bnd, AV.wk, rm_wk_bnd]) (fun _ => rfl) (fun x hx => ⟨_, _, _, .nil, r22 x.1 x.2.2.1 x.2.1.wk x.2.2.2.wk hx.1 (by simpa using hx.2.1) (by simpa using hx.2.2)⟩)

/-! ### copies -/
theorem no_ne : Room.no ≠ Room.nil := by decide
theorem leave_bs (bs : List (List AV)) {v : AV} (hb : v.bnd 0 0 0 = true) : leave ⟨0, 0, 0⟩ v ⟨bs, [], []⟩ = (v, .nil) := by
  simp [leave, hb, H.nil]
/-- the room of a copy -/
def rcl : Room → Room
  | .nil => .nil
  | _ => .no
theorem rcl_rok {l : List Int} {r : Room} (h : rok l r) : rok l (rcl r) := fun hne => by
  have := h hne
  cases r <;> simp_all [rcl]
theorem ok55 : FokM Tryd.prog none1 55 Tryd.f55 := ⟨mixed, by kernel_rfl, by kernel_rfl, by kernel_rfl, by kernel_rfl⟩
theorem r55 (x : Int) (l : List Int) (n : Nat) (hn : (x :: l).length = n) (hb : n ≤ 1000000000) : Body (En6 []) none1 Tryd.f55 [.sl (ints (x :: l)) n .no] .nil (.sl (ints (x :: l)) n (.tok 0 1), ⟨[], [n], []⟩) := by
  have h0 : n ≠ 0 := by subst hn; simp
  refine body_s ([Ans.o (Orc.val 7 (AV.sl (ints (x :: l)) n (Room.tok 0 1)) (H.mk [] [n] []))]) (aAppend Tryd.prog (22 : Nat) (22 : Nat) (AV.sl [] (0 : Nat) Room.full) (AV.sl (ints (x :: l)) n Room.no) (H.mk [] [] []) = some (AV.sl (ints (x :: l)) n (Room.tok 0 1), H.mk [] [n] []) ∧ leave (Base.mk H.nil.blk.length H.nil.toks.length H.nil.maps.length) (AV.sl (ints (x :: l)) n (Room.tok 0 1)) (H.mk [] [n] []) = (AV.sl (ints (x :: l)) n (Room.tok 0 1), H.mk [] [n] [])) (by kernel_rfl) ?_
  refine ⟨app_new (by kernel_rfl) h0 (by simpa using hn) (ints_one _) (by omega), ?_⟩
  exact leave_ints _ _
theorem r55z : Body (En6 []) none1 Tryd.f55 [.sl (ints []) 0 .no] .nil (.sl [] 0 .full, .nil) := by
  refine body_s ([]) ((AV.sl [] (0 : Nat) Room.full, H.mk [] [] []) = (AV.sl [] (0 : Nat) Room.full, H.mk [] [] [])) (by kernel_rfl) ?_
  first | with_reducible rfl | (refine bleaf_t ?_; omega) | (refine bleaf_f ?_; omega) | (refine ileaf ?_; omega) | rfl | (exfalso; omega)
theorem r55e : Body (En6 []) none1 Tryd.f55 [.sl (ints []) 0 .e] .nil (.sl [] 0 .full, .nil) := by
  refine body_s ([]) ((AV.sl [] (0 : Nat) Room.full, H.mk [] [] []) = (AV.sl [] (0 : Nat) Room.full, H.mk [] [] [])) (by kernel_rfl) ?_
  first | with_reducible rfl | (refine bleaf_t ?_; omega) | (refine bleaf_f ?_; omega) | (refine ileaf ?_; omega) | rfl | (exfalso; omega)
theorem r55n : Body (En6 []) none1 Tryd.f55 [.sl (ints []) 0 .nil] .nil (.sl [] 0 .nil, .nil) := by
  refine body_s ([]) ((AV.sl [] (0 : Nat) Room.nil, H.mk [] [] []) = (AV.sl [] (0 : Nat) Room.nil, H.mk [] [] [])) (by kernel_rfl) ?_
  first | with_reducible rfl | (refine bleaf_t ?_; omega) | (refine bleaf_f ?_; omega) | (refine ileaf ?_; omega) | rfl | (exfalso; omega)
abbrev em (l : List Int) (r : Room) : Prop := r = .e → l = []
theorem clone_no (l : List Int) (n : Nat) (hn : l.length = n) (hb : n ≤ 1000000000) (H : H) : CallOk Tryd.prog 55 [.sl (ints l) n .no] H (.sl (ints l) n .no) H := by
  subst hn
  cases l with
  | nil => exact pure_call ((r55z.run ok55 .nil rfl).drop rfl) rfl rfl H
  | cons x l =>
    have := ((r55 x l _ rfl hb).run ok55 .nil rfl).drop (by show AV.plains (ints (x :: l)) = true; exact plains_ints _)
    simp only [AV.wkd, wkds_ints, Room.wk] at this
    exact pure_call this (by simp [AV.bnds, AV.bnd, Room.bnd, -ints_cons]) (by simp [AV.bnd, Room.bnd, -ints_cons]) H
/-- 'Clone' -/
noncomputable def c55 : PCtr Tryd.prog where
  f := 55
  X := List Int × Room × Nat
  args x := [.sl (ints x.1) x.2.2 x.2.1]
  pre x := x.1.length = x.2.2 ∧ x.2.2 ≤ 1000000000 ∧ rok x.1 x.2.1 ∧ em x.1 x.2.1
  v x := .sl (ints x.1) x.2.2 (rcl x.2.1)
  det := by
    rintro ⟨l, r, n⟩ ⟨l', r', n'⟩ e _ _
    simp at e
    simp [e]
  ok := by
    rintro ⟨l, r, n⟩ ⟨hn, hb, hr, he⟩
    refine ⟨ok55.call, fun H => ?_⟩
    have hno := clone_no l n hn hb H
    cases r with
    | nil =>
      have : l = [] := Classical.byContradiction fun h => hr h rfl
      subst this
      simp at hn; subst hn
      exact pure_call ((r55n.run ok55 .nil rfl).drop rfl) rfl rfl H
    | e =>
      have := he rfl
      subst this
      simp at hn; subst hn
      exact pure_call ((r55e.run ok55 .nil rfl).drop rfl) rfl rfl H
    | no => exact hno
    | full => exact CallOk.wk (args := [.sl (ints l) n .full]) hno
    | tok t z => exact CallOk.wk (args := [.sl (ints l) n (.tok t z)]) hno
/-- a contract at one argument -/
noncomputable def at1 (c : PCtr Tryd.prog) (x : c.X) (hx : c.pre x) (xs : List AV) (v : AV) (ha : c.args x = xs) (hv : c.v x = v) : PCtr Tryd.prog where
  f := c.f
  X := Unit
  args _ := xs
  pre _ := True
  v _ := v
  det _ _ _ _ _ := rfl
  ok _ _ := by subst ha; subst hv; exact c.ok x hx
noncomputable def c55n : PCtr Tryd.prog := at1 c55 ([], .nil, 0) ⟨rfl, by decide, fun h => absurd rfl h, fun _ => rfl⟩ [.sl [] 0 .nil] (.sl [] 0 .nil) rfl rfl
noncomputable def c55e : PCtr Tryd.prog := at1 c55 ([], .e, 0) ⟨rfl, by decide, fun h => absurd rfl h, fun _ => rfl⟩ [.sl [] 0 .e] (.sl [] 0 .no) rfl rfl
abbrev cut (l : List Int) : List Int := l.take 70
theorem ok18 : FokM Tryd.prog none1 18 Tryd.f18 := ⟨mixed, by kernel_rfl, by kernel_rfl, by kernel_rfl, by kernel_rfl⟩
theorem r18 (l : List Int) (hb : lim l.length) : Body (En6 [c55.to]) none1 Tryd.f18 [ls l .no] .nil (ls (cut l) .no, .nil) := by
  have hk : (l.take (pick2 false (l.length : Int) 70).toNat) = cut l ∧ (pick2 false (l.length : Int) 70).toNat = (cut l).length ∧ 0 ≤ pick2 false (l.length : Int) 70 ∧ pick2 false (l.length : Int) 70 ≤ 70 ∧ pick2 false (l.length : Int) 70 ≤ l.length := by
    simp only [pick2, Bool.false_eq_true, if_false, cut, List.length_take]
    by_cases h : (70 : Int) < l.length
    · rw [if_pos h]; refine ⟨rfl, by simp; omega, by omega, by omega, by omega⟩
    · rw [if_neg h]
      have : l.length ≤ 70 := by omega
      refine ⟨?_, by simp; omega, by omega, by omega, by omega⟩
      rw [List.take_of_length_le this, List.take_of_length_le (by simp)]
  have p55 : (l.take (pick2 false (l.length : Int) 70).toNat).length = (pick2 false (l.length : Int) 70).toNat ∧ (pick2 false (l.length : Int) 70).toNat ≤ 1000000000 ∧ rok (l.take (pick2 false (l.length : Int) 70).toNat) .no ∧ em (l.take (pick2 false (l.length : Int) 70).toNat) .no := ⟨by rw [hk.1, hk.2.1], by omega, fun _ => no_ne, fun h => by cases h⟩
  refine body_s ([Ans.o (Orc.val 7 (AV.sl (ints (List.take (pick2 false (↑l.length : Int) (70 : Int)).toNat l)) (pick2 false (↑l.length : Int) (70 : Int)).toNat Room.no) H.nil), Ans.o (Orc.val 8 (AV.sl (ints (List.take (pick2 false (↑l.length : Int) (70 : Int)).toNat l)) (pick2 false (↑l.length : Int) (70 : Int)).toNat Room.no) (H.mk [] [] []))]) (aSlice Tryd.prog (22 : Nat) (AV.sl (ints l) l.length Room.no) none (some (I (pick2 false (↑l.length : Int) (70 : Int)))) none (H.mk [] [] []) = some (AV.sl (ints (List.take (pick2 false (↑l.length : Int) (70 : Int)).toNat l)) (pick2 false (↑l.length : Int) (70 : Int)).toNat Room.no) ∧ aCall (Sof [c55.to]) (AV.fn (Fn.func (55 : Nat)) [] []) [AV.sl (ints (List.take (pick2 false (↑l.length : Int) (70 : Int)).toNat l)) (pick2 false (↑l.length : Int) (70 : Int)).toNat Room.no] (H.mk [] [] []) = some (AV.sl (ints (List.take (pick2 false (↑l.length : Int) (70 : Int)).toNat l)) (pick2 false (↑l.length : Int) (70 : Int)).toNat Room.no, H.mk [] [] []) ∧ leave (Base.mk H.nil.blk.length H.nil.toks.length H.nil.maps.length) (AV.sl (ints (List.take (pick2 false (↑l.length : Int) (70 : Int)).toNat l)) (pick2 false (↑l.length : Int) (70 : Int)).toNat Room.no) (H.mk [] [] []) = (AV.sl (ints (cut l)) (cut l).length Room.no, H.mk [] [] [])) (by kernel_rfl) ?_
  refine ⟨sl_ints (by kernel_rfl) hk.2.2.1 hk.2.2.2.2, ?_⟩
  refine ⟨acall_hit (c := c55.to) (l.take (pick2 false (l.length : Int) 70).toNat, .no, (pick2 false (l.length : Int) 70).toNat) _ rfl p55, ?_⟩
  (rw [hk.1, hk.2.1]; exact leave_bs [] (by simp [AV.bnd, Room.bnd]))
theorem r18n : Body (En6 [c55n.to]) none1 Tryd.f18 [ls [] .nil] .nil (ls [] .nil, .nil) := by
  refine body_s ([Ans.o (Orc.val 8 (AV.sl [] (0 : Nat) Room.nil) (H.mk [] [] []))]) (aCall (Sof [c55n.to]) (AV.fn (Fn.func (55 : Nat)) [] []) [AV.sl [] (0 : Nat) Room.nil] (H.mk [] [] []) = some (AV.sl [] (0 : Nat) Room.nil, H.mk [] [] []) ∧ (AV.sl [] (0 : Nat) Room.nil, H.mk [] [] []) = (AV.sl (ints []) (0 : Nat) Room.nil, H.mk [] [] [])) (by kernel_rfl) ?_
  refine ⟨acall_hit (c := c55n.to) () _ rfl trivial, ?_⟩
  first | with_reducible rfl | (refine bleaf_t ?_; omega) | (refine bleaf_f ?_; omega) | (refine ileaf ?_; omega) | rfl | (exfalso; omega)
theorem r18e : Body (En6 [c55e.to]) none1 Tryd.f18 [ls [] .e] .nil (ls [] .no, .nil) := by
  refine body_s ([Ans.o (Orc.val 8 (AV.sl [] (0 : Nat) Room.no) (H.mk [] [] []))]) (aCall (Sof [c55e.to]) (AV.fn (Fn.func (55 : Nat)) [] []) [AV.sl [] (0 : Nat) Room.e] (H.mk [] [] []) = some (AV.sl [] (0 : Nat) Room.no, H.mk [] [] []) ∧ (AV.sl [] (0 : Nat) Room.no, H.mk [] [] []) = (AV.sl (ints []) (0 : Nat) Room.no, H.mk [] [] [])) (by kernel_rfl) ?_
  refine ⟨acall_hit (c := c55e.to) () _ rfl trivial, ?_⟩
  first | with_reducible rfl | (refine bleaf_t ?_; omega) | (refine bleaf_f ?_; omega) | (refine ileaf ?_; omega) | rfl | (exfalso; omega)
theorem cut_lim (l : List Int) : lim (cut l).length := by simp only [lim, cut, List.length_take]; omega
/-- 'list' -/
noncomputable def c18 : PCtr Tryd.prog where
  f := 18
  X := List Int × Room
  args x := [ls x.1 x.2]
  pre x := lim x.1.length ∧ rok x.1 x.2 ∧ em x.1 x.2
  v x := ls (cut x.1) (rcl x.2)
  det := by
    rintro ⟨l, r⟩ ⟨l', r'⟩ e _ _
    simp at e
    simp [e]
  ok := by
    rintro ⟨l, r⟩ ⟨hb, hr, he⟩
    refine ⟨ok18.call, fun H => ?_⟩
    have hno : CallOk Tryd.prog 18 [ls l .no] H (ls (cut l) .no) H := pure_call ((r18 l hb).run ok18 (.pure _ .nil) rfl) (by simp [AV.bnds, AV.bnd, Room.bnd]) (by simp [AV.bnd, Room.bnd]) H
    cases r with
    | nil =>
      have : l = [] := Classical.byContradiction fun h => hr h rfl
      subst this
      exact pure_call (r18n.run ok18 (.pure _ .nil) rfl) rfl rfl H
    | e =>
      have := he rfl
      subst this
      exact pure_call (r18e.run ok18 (.pure _ .nil) rfl) rfl rfl H
    | no => exact hno
    | full => exact CallOk.wk (args := [ls l .full]) hno
    | tok t z => exact CallOk.wk (args := [ls l (.tok t z)]) hno
end Go.Proofs.Evd

