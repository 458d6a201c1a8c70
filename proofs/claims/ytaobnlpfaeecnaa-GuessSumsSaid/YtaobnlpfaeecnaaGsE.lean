/- Layer 6: lists, copied and compared; states and questions. -/
import Derived.Test.YtaobnlpfaeecnaaGsA
import Derived.KernelRfl
set_option linter.unusedSimpArgs false
set_option linter.unusedVariables false
set_option linter.unnecessarySimpa false
set_option maxHeartbeats 4000000
set_option maxRecDepth 100000
namespace Go.Proofs.Gss
open Go Go.VM

theorem no_ne : Room.no ≠ Room.nil := by decide
theorem leave_bs (bs : List (List AV)) {v : AV} (hb : v.bnd 0 0 0 = true) : leave ⟨0, 0, 0⟩ v ⟨bs, [], []⟩ = (v, .nil) := by
  simp [leave, hb, H.nil]
/-- the room of a copy -/
def rcl : Room → Room
  | .nil => .nil
  | _ => .no
theorem rcl_rok {l : List Int} {r : Room} (h : rok l r) : rok l (rcl r) := fun hne => by
  have := h hne
  cases r <;> simp_all [rcl]
theorem ok51 : FokM Try.prog none1 51 Try.f51 := ⟨mixed, by kernel_rfl, by kernel_rfl, by kernel_rfl, by kernel_rfl⟩
theorem r51 (x : Int) (l : List Int) (n : Nat) (hn : (x :: l).length = n) (hb : n ≤ 1000000000) : Body (En6 []) none1 Try.f51 [.sl (ints (x :: l)) n .no] .nil (.sl (ints (x :: l)) n (.tok 0 1), ⟨[], [n], []⟩) := by
  have h0 : n ≠ 0 := by subst hn; simp
  refine body_s ([Ans.o (Orc.val 7 (AV.sl (ints (x :: l)) n (Room.tok 0 1)) (H.mk [] [n] []))]) (aAppend Try.prog (31 : Nat) (31 : Nat) (AV.sl [] (0 : Nat) Room.full) (AV.sl (ints (x :: l)) n Room.no) (H.mk [] [] []) = some (AV.sl (ints (x :: l)) n (Room.tok 0 1), H.mk [] [n] []) ∧ leave (Base.mk H.nil.blk.length H.nil.toks.length H.nil.maps.length) (AV.sl (ints (x :: l)) n (Room.tok 0 1)) (H.mk [] [n] []) = (AV.sl (ints (x :: l)) n (Room.tok 0 1), H.mk [] [n] [])) (by kernel_rfl) ?_
  refine ⟨app_new (by kernel_rfl) h0 (by simpa using hn) (ints_one _) (by omega), ?_⟩
  exact leave_ints _ _
theorem r51z : Body (En6 []) none1 Try.f51 [.sl (ints []) 0 .no] .nil (.sl [] 0 .full, .nil) := by
  refine body_s ([]) ((AV.sl [] (0 : Nat) Room.full, H.mk [] [] []) = (AV.sl [] (0 : Nat) Room.full, H.mk [] [] [])) (by kernel_rfl) ?_
  first | with_reducible rfl | (refine bleaf_t ?_; omega) | (refine bleaf_f ?_; omega) | (refine ileaf ?_; omega) | rfl | (exfalso; omega)
theorem r51e : Body (En6 []) none1 Try.f51 [.sl (ints []) 0 .e] .nil (.sl [] 0 .full, .nil) := by
  refine body_s ([]) ((AV.sl [] (0 : Nat) Room.full, H.mk [] [] []) = (AV.sl [] (0 : Nat) Room.full, H.mk [] [] [])) (by kernel_rfl) ?_
  first | with_reducible rfl | (refine bleaf_t ?_; omega) | (refine bleaf_f ?_; omega) | (refine ileaf ?_; omega) | rfl | (exfalso; omega)
theorem r51n : Body (En6 []) none1 Try.f51 [.sl (ints []) 0 .nil] .nil (.sl [] 0 .nil, .nil) := by
  refine body_s ([]) ((AV.sl [] (0 : Nat) Room.nil, H.mk [] [] []) = (AV.sl [] (0 : Nat) Room.nil, H.mk [] [] [])) (by kernel_rfl) ?_
  first | with_reducible rfl | (refine bleaf_t ?_; omega) | (refine bleaf_f ?_; omega) | (refine ileaf ?_; omega) | rfl | (exfalso; omega)
abbrev em (l : List Int) (r : Room) : Prop := r = .e → l = []
theorem clone_no (l : List Int) (n : Nat) (hn : l.length = n) (hb : n ≤ 1000000000) (H : H) : CallOk Try.prog 51 [.sl (ints l) n .no] H (.sl (ints l) n .no) H := by
  subst hn
  cases l with
  | nil => exact pure_call ((r51z.run ok51 .nil rfl).drop rfl) rfl rfl H
  | cons x l =>
    have := ((r51 x l _ rfl hb).run ok51 .nil rfl).drop (by show AV.plains (ints (x :: l)) = true; exact plains_ints _)
    simp only [AV.wkd, wkds_ints, Room.wk] at this
    exact pure_call this (by simp [AV.bnds, AV.bnd, Room.bnd, -ints_cons]) (by simp [AV.bnd, Room.bnd, -ints_cons]) H
/-- 'Clone' -/
noncomputable def c51 : PCtr Try.prog where
  f := 51
  X := List Int × Room × Nat
  args x := [.sl (ints x.1) x.2.2 x.2.1]
  pre x := x.1.length = x.2.2 ∧ x.2.2 ≤ 1000000000 ∧ rok x.1 x.2.1 ∧ em x.1 x.2.1
  v x := .sl (ints x.1) x.2.2 (rcl x.2.1)
  det := by
    rintro ⟨l, r, n⟩ ⟨l', r', n'⟩ e _ _
    simp at e
    simp [e]
  ok := by
    rintro ⟨l, r, n⟩ ⟨hn, hb, hr, he⟩
    refine ⟨ok51.call, fun H => ?_⟩
    have hno := clone_no l n hn hb H
    cases r with
    | nil =>
      have : l = [] := Classical.byContradiction fun h => hr h rfl
      subst this
      simp at hn; subst hn
      exact pure_call ((r51n.run ok51 .nil rfl).drop rfl) rfl rfl H
    | e =>
      have := he rfl
      subst this
      simp at hn; subst hn
      exact pure_call ((r51e.run ok51 .nil rfl).drop rfl) rfl rfl H
    | no => exact hno
    | full => exact CallOk.wk (args := [.sl (ints l) n .full]) hno
    | tok t z => exact CallOk.wk (args := [.sl (ints l) n (.tok t z)]) hno
/-- a contract at one argument -/
noncomputable def at1 (c : PCtr Try.prog) (x : c.X) (hx : c.pre x) (xs : List AV) (v : AV) (ha : c.args x = xs) (hv : c.v x = v) : PCtr Try.prog where
  f := c.f
  X := Unit
  args _ := xs
  pre _ := True
  v _ := v
  det _ _ _ _ _ := rfl
  ok _ _ := by subst ha; subst hv; exact c.ok x hx
noncomputable def c51n : PCtr Try.prog := at1 c51 ([], .nil, 0) ⟨rfl, by decide, fun h => absurd rfl h, fun _ => rfl⟩ [.sl [] 0 .nil] (.sl [] 0 .nil) rfl rfl
noncomputable def c51e : PCtr Try.prog := at1 c51 ([], .e, 0) ⟨rfl, by decide, fun h => absurd rfl h, fun _ => rfl⟩ [.sl [] 0 .e] (.sl [] 0 .no) rfl rfl
abbrev cut (l : List Int) : List Int := l.take 7
theorem ok35 : FokM Try.prog none1 35 Try.f35 := ⟨mixed, by kernel_rfl, by kernel_rfl, by kernel_rfl, by kernel_rfl⟩
theorem r35 (l : List Int) (hb : lim l.length) : Body (En6 [c51.to]) none1 Try.f35 [ls l .no] .nil (ls (cut l) .no, .nil) := by
  have hk : (l.take (pick2 false (l.length : Int) 7).toNat) = cut l ∧ (pick2 false (l.length : Int) 7).toNat = (cut l).length ∧ 0 ≤ pick2 false (l.length : Int) 7 ∧ pick2 false (l.length : Int) 7 ≤ 7 ∧ pick2 false (l.length : Int) 7 ≤ l.length := by
    simp only [pick2, Bool.false_eq_true, if_false, cut, List.length_take]
    by_cases h : (7 : Int) < l.length
    · rw [if_pos h]; refine ⟨rfl, by simp; omega, by omega, by omega, by omega⟩
    · rw [if_neg h]
      have : l.length ≤ 7 := by omega
      refine ⟨?_, by simp; omega, by omega, by omega, by omega⟩
      rw [List.take_of_length_le this, List.take_of_length_le (by simp)]
  have p51 : (l.take (pick2 false (l.length : Int) 7).toNat).length = (pick2 false (l.length : Int) 7).toNat ∧ (pick2 false (l.length : Int) 7).toNat ≤ 1000000000 ∧ rok (l.take (pick2 false (l.length : Int) 7).toNat) .no ∧ em (l.take (pick2 false (l.length : Int) 7).toNat) .no := ⟨by rw [hk.1, hk.2.1], by omega, fun _ => no_ne, fun h => by cases h⟩
  refine body_s ([Ans.o (Orc.val 7 (AV.sl (ints (List.take (pick2 false (↑l.length : Int) (7 : Int)).toNat l)) (pick2 false (↑l.length : Int) (7 : Int)).toNat Room.no) H.nil), Ans.o (Orc.val 8 (AV.sl (ints (List.take (pick2 false (↑l.length : Int) (7 : Int)).toNat l)) (pick2 false (↑l.length : Int) (7 : Int)).toNat Room.no) (H.mk [] [] []))]) (aSlice Try.prog (31 : Nat) (AV.sl (ints l) l.length Room.no) none (some (I (pick2 false (↑l.length : Int) (7 : Int)))) none (H.mk [] [] []) = some (AV.sl (ints (List.take (pick2 false (↑l.length : Int) (7 : Int)).toNat l)) (pick2 false (↑l.length : Int) (7 : Int)).toNat Room.no) ∧ aCall (Sof [c51.to]) (AV.fn (Fn.func (51 : Nat)) [] []) [AV.sl (ints (List.take (pick2 false (↑l.length : Int) (7 : Int)).toNat l)) (pick2 false (↑l.length : Int) (7 : Int)).toNat Room.no] (H.mk [] [] []) = some (AV.sl (ints (List.take (pick2 false (↑l.length : Int) (7 : Int)).toNat l)) (pick2 false (↑l.length : Int) (7 : Int)).toNat Room.no, H.mk [] [] []) ∧ leave (Base.mk H.nil.blk.length H.nil.toks.length H.nil.maps.length) (AV.sl (ints (List.take (pick2 false (↑l.length : Int) (7 : Int)).toNat l)) (pick2 false (↑l.length : Int) (7 : Int)).toNat Room.no) (H.mk [] [] []) = (AV.sl (ints (cut l)) (cut l).length Room.no, H.mk [] [] [])) (by kernel_rfl) ?_
  refine ⟨sl_ints (by kernel_rfl) hk.2.2.1 hk.2.2.2.2, ?_⟩
  refine ⟨acall_hit (c := c51.to) (l.take (pick2 false (l.length : Int) 7).toNat, .no, (pick2 false (l.length : Int) 7).toNat) _ rfl p51, ?_⟩
  (rw [hk.1, hk.2.1]; exact leave_bs [] (by simp [AV.bnd, Room.bnd]))
theorem r35n : Body (En6 [c51n.to]) none1 Try.f35 [ls [] .nil] .nil (ls [] .nil, .nil) := by
  refine body_s ([Ans.o (Orc.val 8 (AV.sl [] (0 : Nat) Room.nil) (H.mk [] [] []))]) (aCall (Sof [c51n.to]) (AV.fn (Fn.func (51 : Nat)) [] []) [AV.sl [] (0 : Nat) Room.nil] (H.mk [] [] []) = some (AV.sl [] (0 : Nat) Room.nil, H.mk [] [] []) ∧ (AV.sl [] (0 : Nat) Room.nil, H.mk [] [] []) = (AV.sl (ints []) (0 : Nat) Room.nil, H.mk [] [] [])) (by kernel_rfl) ?_
  refine ⟨acall_hit (c := c51n.to) () _ rfl trivial, ?_⟩
  first | with_reducible rfl | (refine bleaf_t ?_; omega) | (refine bleaf_f ?_; omega) | (refine ileaf ?_; omega) | rfl | (exfalso; omega)
theorem r35e : Body (En6 [c51e.to]) none1 Try.f35 [ls [] .e] .nil (ls [] .no, .nil) := by
  refine body_s ([Ans.o (Orc.val 8 (AV.sl [] (0 : Nat) Room.no) (H.mk [] [] []))]) (aCall (Sof [c51e.to]) (AV.fn (Fn.func (51 : Nat)) [] []) [AV.sl [] (0 : Nat) Room.e] (H.mk [] [] []) = some (AV.sl [] (0 : Nat) Room.no, H.mk [] [] []) ∧ (AV.sl [] (0 : Nat) Room.no, H.mk [] [] []) = (AV.sl (ints []) (0 : Nat) Room.no, H.mk [] [] [])) (by kernel_rfl) ?_
  refine ⟨acall_hit (c := c51e.to) () _ rfl trivial, ?_⟩
  first | with_reducible rfl | (refine bleaf_t ?_; omega) | (refine bleaf_f ?_; omega) | (refine ileaf ?_; omega) | rfl | (exfalso; omega)
theorem cut_lim (l : List Int) : lim (cut l).length := by simp only [lim, cut, List.length_take]; omega
/-- 'list' -/
noncomputable def c35 : PCtr Try.prog where
  f := 35
  X := List Int × Room
  args x := [ls x.1 x.2]
  pre x := lim x.1.length ∧ rok x.1 x.2 ∧ em x.1 x.2
  v x := ls (cut x.1) (rcl x.2)
  det := by
    rintro ⟨l, r⟩ ⟨l', r'⟩ e _ _
    simp at e
    simp [e]
  ok := by
    rintro ⟨l, r⟩ ⟨hb, hr, he⟩
    refine ⟨ok35.call, fun H => ?_⟩
    have hno : CallOk Try.prog 35 [ls l .no] H (ls (cut l) .no) H := pure_call ((r35 l hb).run ok35 (.pure _ .nil) rfl) (by simp [AV.bnds, AV.bnd, Room.bnd]) (by simp [AV.bnd, Room.bnd]) H
    cases r with
    | nil =>
      have : l = [] := Classical.byContradiction fun h => hr h rfl
      subst this
      exact pure_call (r35n.run ok35 (.pure _ .nil) rfl) rfl rfl H
    | e =>
      have := he rfl
      subst this
      exact pure_call (r35e.run ok35 (.pure _ .nil) rfl) rfl rfl H
    | no => exact hno
    | full => exact CallOk.wk (args := [ls l .full]) hno
    | tok t z => exact CallOk.wk (args := [ls l (.tok t z)]) hno
/-- the sum of the first elements -/
def sj (l : List Int) : Nat → Int
  | 0 => 0
  | j + 1 => sj l j + ia l j
theorem wn_get {lo hi : Int} {l : List Int} (h : wn lo hi l = true) {i : Nat} (hi' : i < l.length) : lo ≤ ia l i ∧ ia l i ≤ hi := by
  have e : l.getD i i0 = l[i] := by simp [List.getD_eq_getElem?_getD, List.getElem?_eq_getElem hi']
  simp only [wn, List.all_eq_true, Bool.and_eq_true, decide_eq_true_eq] at h
  rw [ia, e]; exact h _ (List.getElem_mem hi')
theorem wn_of {lo hi : Int} {l : List Int} (h : ∀ i, i < l.length → lo ≤ ia l i ∧ ia l i ≤ hi) : wn lo hi l = true := by
  simp only [wn, List.all_eq_true, Bool.and_eq_true, decide_eq_true_eq]
  intro x hx
  obtain ⟨i, hi, rfl⟩ := List.getElem_of_mem hx
  have e : l.getD i i0 = l[i] := by simp [List.getD_eq_getElem?_getD, List.getElem?_eq_getElem hi]
  have := h i hi
  rw [ia, e] at this; exact this
theorem sj_bd {m : Int} {l : List Int} (h : wn 0 m l = true) : ∀ {j : Nat}, j ≤ l.length → 0 ≤ sj l j ∧ sj l j ≤ j * m
  | 0, _ => by simp [sj]
  | j + 1, hj => by
    have h1 := sj_bd h (j := j) (by omega)
    have h2 := wn_get h (i := j) (by omega)
    simp only [sj]
    have : ((j + 1 : Nat) : Int) * m = j * m + m := by rw [Int.natCast_add, Int.add_mul]; simp
    omega
abbrev l4 (l : List Int) : Prop := 1 ≤ l.length ∧ l.length ≤ 4
theorem sj_small {m : Int} (hm : 0 ≤ m ∧ m ≤ 200) {l : List Int} (hl : l.length ≤ 4) (h : wn 0 m l = true) {j : Nat} (hj : j ≤ l.length) : 0 ≤ sj l j ∧ sj l j ≤ 800 := by
  have h1 := sj_bd h hj
  have : (j : Int) * m ≤ 4 * 200 := Int.mul_le_mul (by omega) hm.2 hm.1 (by omega)
  omega
abbrev o73 (l : List Int) : List Out :=
  [.mk Unit (.exit 0) [3] (fun _ => True) (fun _ => [I (sj l l.length)]) (fun _ => .nil) (fun _ => [])]
theorem simp73 : allSimpleM none1 (loopAt Try.f73 0) = true := by kernel_rfl
theorem lp73 (l : List Int) (r : Room) (hr : rok l r) (hl : l.length ≤ 4) (hw : wn 0 200 l = true) :
    LoopS (En6 []) (loopAt Try.f73 0) 17 [3, 6, 7, 8] [I 0, ls l r, I l.length, I 0] .nil (o73 l) := by
  have hR : Rests (En6 []) none1 := rests mixed .nil
  refine loop_s hR simp73 none (by intro _ h; cases h) (fun j vs h => h = .nil ∧ vs = [I (sj l j), ls l r, I l.length, I j]) l.length ⟨rfl, rfl⟩ (by intro _ h; cases h) ?_
  rintro j vs h hj ⟨rfl, rfl⟩
  by_cases hz : (j : Int) < l.length
  · have hz' : j < l.length := by omega
    have hr' := rok_idx hr hz'
    have h1 := sj_small (by omega) hl hw (j := j) (by omega)
    have h2 := sj_small (by omega) hl hw (j := j + 1) (by omega)
    have w0 : IntKind.i64.wrap (sj l j + ia l j) = sj l (j + 1) := wr (sj l (j + 1)) (by omega) (by omega)
    have ev0 : sj l j + ia l j = sj l (j + 1) := rfl
    refine ⟨[Ans.o (Orc.b true), Ans.o (Orc.val 10 (AV.cptr (ints (List.drop j l))) H.nil), Ans.o (Orc.val 11 (I (l.getD j i0)) H.nil), Ans.o (Orc.val 14 (I (sj l (j + (1 : Nat)))) H.nil)], fun u => of_eq ((↑j : Int) < (↑l.length : Int) ∧ aIndexAddr Try.prog (31 : Nat) (AV.sl (ints l) l.length r) (I (↑j : Int)) = some (AV.cptr (ints (List.drop j l))) ∧ aLoad Try.prog (3 : Nat) (ints (List.drop j l)) = some (I (l.getD j i0)) ∧ aBin Try.prog BinOp.add (3 : Nat) (I (sj l j)) (I (l.getD j i0)) = some (I (sj l (j + (1 : Nat)))) ∧ IntKind.i64.wrap ((↑j : Int) + (1 : Int)) = (↑j : Int) + (1 : Int) ∧ (17 : Nat) = (17 : Nat) ∧ j < l.length ∧ Keep (H.mk [] [] [] = H.mk [] [] [] ∧ [I (sj l (j + (1 : Nat))), AV.sl (ints l) l.length r, I (↑l.length : Int), I ((↑j : Int) + (1 : Int))] = [I (sj l (j + (1 : Nat))), AV.sl (ints l) l.length r, I (↑l.length : Int), I (↑(j + (1 : Nat)) : Int)])) (by kernel_rfl) ?_⟩
    refine ⟨by first | with_reducible assumption | omega | assumption, ?_⟩
    refine ⟨by first | exact ix_ints (by kernel_rfl) (by omega) (by assumption) | exact ix_ints (by kernel_rfl) (by omega) (rok_idx (by assumption) (by omega)), ?_⟩
    refine ⟨by first | exact ld_ints (by kernel_rfl) (by kernel_rfl) (by omega) | exact ldm_ints (by kernel_rfl) (by kernel_rfl) (by first | omega | (simp; omega)), ?_⟩
    refine ⟨told_add (by with_reducible assumption), ?_⟩
    refine ⟨wr _ (by omega) (by omega), ?_⟩
    refine ⟨by first | with_reducible assumption | omega | assumption, ?_⟩
    refine ⟨by first | with_reducible assumption | omega | assumption, ?_⟩
    exact ⟨rfl, rfl⟩
  · have hz : (l.length : Int) ≤ j := by omega
    have e : j = l.length := by omega
    subst e
    refine ⟨[Ans.o (Orc.b false)], fun u => of_eq ((↑l.length : Int) ≤ (↑l.length : Int) ∧ (17 : Nat) = (17 : Nat) ∧ hits [Out.mk Unit (AX.exit (0 : Nat)) [(3 : Nat)] (fun x => True) (fun x => [I (sj l l.length)]) (fun x => H.nil) fun x => []] (AX.exit (0 : Nat)) [u (0 : Nat), u (1 : Nat), u (2 : Nat), I (sj l l.length), u (4 : Nat), u (5 : Nat), AV.sl (ints l) l.length r, I (↑l.length : Int), I (↑l.length : Int), AV.bool false, u (10 : Nat), u (11 : Nat), u (12 : Nat), u (13 : Nat), u (14 : Nat), u (15 : Nat), u (16 : Nat)] (H.mk [] [] [])) (by kernel_rfl) ?_⟩
    refine ⟨by first | with_reducible assumption | omega | assumption, ?_⟩
    refine ⟨by first | with_reducible assumption | omega | assumption, ?_⟩
    exact .inl ⟨(), trivial, rfl, rfl, rfl⟩
theorem ok73 : FokM Try.prog none1 73 Try.f73 := ⟨mixed, by kernel_rfl, by kernel_rfl, by kernel_rfl, by kernel_rfl⟩
theorem r73 (l : List Int) (r : Room) (hp : rok l r ∧ l.length ≤ 4 ∧ wn 0 200 l = true) : Body ⟨Try.prog, Sof (P := Try.prog) [], Pof (P := Try.prog) [], H.nil.base, 300⟩ none1 Try.f73 [ls l r] .nil (I (sj l l.length), .nil) := by
  obtain ⟨h1, h2, h3⟩ := hp
  refine body_s ([Ans.loop [(3 : Nat), (6 : Nat), (7 : Nat), (8 : Nat)] [Out.mk Unit (AX.exit (0 : Nat)) [(3 : Nat)] (fun x => True) (fun x => [I (sj l l.length)]) (fun x => H.nil) fun y => []]]) (LoopS (Env.mk Try.prog (Sof (P := Try.prog) []) (Pof (P := Try.prog) []) H.nil.base (300 : Nat)) (loopAt Try.f73 (0 : Nat)) (17 : Nat) [(3 : Nat), (6 : Nat), (7 : Nat), (8 : Nat)] [I 0, AV.sl (ints l) l.length r, I (↑l.length : Int), I 0] (H.mk [] [] []) [Out.mk Unit (AX.exit (0 : Nat)) [(3 : Nat)] (fun x => True) (fun x => [I (sj l l.length)]) (fun x => H.nil) fun y => []] ∧ (∀ (y : Unit), True → ∀ (u : Nat → AV), (I (sj l l.length), H.mk [] [] []) = (I (sj l l.length), H.mk [] [] [])) ∧ True) (by kernel_rfl) ?_
  refine ⟨lp73 l r h1 h2 h3, ?_⟩
  refine And.intro ?_ ?_
  · skip
    intro y
    intro w1
    intro u
    rfl
  · skip
    trivial
noncomputable def c73 : PCtr Try.prog := sctr ok73 (X := List Int × Room) (fun x => [ls x.1 x.2]) (fun x => rok x.1 x.2 ∧ x.1.length ≤ 4 ∧ wn 0 200 x.1 = true) (fun x => I (sj x.1 x.1.length)) (by intro x y e _ _; simp [Int.natCast_inj] at e; simp [e]) (fun x => by simp [AV.bnds, AV.bnd, AV.wk, rm_wk_bnd]) (fun x => by first | rfl | (simp [AV.bnd, rm_wk_bnd]; done)  | (simp [AV.bnd, AV.bnds, rm_wk_bnd]; done) | simp [AV.bnd, AV.bnds, Room.bnd, rm_wk_bnd]) (fun x hx => ⟨_, _, _, .nil, r73 (x.1) (x.2).wk (by first | exact hx | (simp only [rok_wk]; exact hx) | (simp only [rok_wk, lst_wk]; exact hx) | (simp only [rok_wk, lst_wk, lsn_wk]; exact hx))⟩)
/-- is it a state with a sum up to a bound? -/
def stB (x : List Int) (m : Int) : Bool := decide (l4 x) && (wn 0 m x && decide (sj x x.length ≤ m))
abbrev o37 (x : List Int) (r : Room) (m : Int) : List Out :=
  [.mk Unit .ret [4] (fun _ => wn 0 m x = false) (fun _ => [.bool false]) (fun _ => .nil) (fun _ => []), .mk Unit (.exit 0) [0, 1] (fun _ => wn 0 m x = true) (fun _ => [ls x r, I m]) (fun _ => .nil) (fun _ => [])]
theorem simp37 : allSimpleM none1 (loopAt Try.f37 0) = true := by kernel_rfl
theorem lp37 (l : List Int) (r : Room) (hi : Int) (hl : lim l.length) (hr : rok l r) :
    LoopS (En6 [c73.to]) (loopAt Try.f37 0) 33 [0, 1, 15, 16, 17] [ls l r, I hi, ls l r, I l.length, I 0] .nil (o37 l r hi) := by
  have hR : Rests (En6 [c73.to]) none1 := rests mixed (.pure _ .nil)
  refine loop_s hR simp37 none (by intro _ h; cases h) (fun j vs h => h = .nil ∧ vs = [ls l r, I hi, ls l r, I l.length, I j] ∧ wn 0 hi l = wn 0 hi (l.drop j)) l.length ⟨rfl, rfl, rfl⟩ (by intro _ h; cases h) ?_
  rintro j vs h hj ⟨rfl, rfl, ha⟩
  by_cases hz : (j : Int) < l.length
  · have hz' : j < l.length := by omega
    have hr' := rok_idx hr hz'
    rw [wn_drop hz'] at ha
    by_cases c1 : ia l j < 0
    · have ha : wn 0 hi l = false := by rw [ha, decide_eq_false (by omega)]; rfl
      refine ⟨[Ans.o (Orc.b true), Ans.o (Orc.val 19 (AV.cptr (ints (List.drop j l))) H.nil), Ans.o (Orc.val 20 (I (l.getD j i0)) H.nil), Ans.o (Orc.b true)], fun u => of_eq ((↑j : Int) < (↑l.length : Int) ∧ aIndexAddr Try.prog (31 : Nat) (AV.sl (ints l) l.length r) (I (↑j : Int)) = some (AV.cptr (ints (List.drop j l))) ∧ aLoad Try.prog (3 : Nat) (ints (List.drop j l)) = some (I (l.getD j i0)) ∧ l.getD j i0 < (0 : Int) ∧ (33 : Nat) = (33 : Nat) ∧ hits [Out.mk Unit AX.ret [(4 : Nat)] (fun x => wn (0 : Int) hi l = false) (fun x => [AV.bool false]) (fun x => H.nil) fun x => [], Out.mk Unit (AX.exit (0 : Nat)) [(0 : Nat), (1 : Nat)] (fun x => wn (0 : Int) hi l = true) (fun x => [ls l r, I hi]) (fun x => H.nil) fun x => []] AX.ret [AV.sl (ints l) l.length r, I hi, u (2 : Nat), u (3 : Nat), AV.bool false, u (5 : Nat), I (l.getD j i0), u (7 : Nat), u (8 : Nat), u (9 : Nat), u (10 : Nat), u (11 : Nat), u (12 : Nat), u (13 : Nat), u (14 : Nat), AV.sl (ints l) l.length r, I (↑l.length : Int), I (↑j : Int), AV.bool true, AV.cptr (ints (List.drop j l)), I (l.getD j i0), I (l.getD j i0), AV.bool true, AV.bool true, AV.tup [], AV.tup [], AV.tup [], AV.bool true, u (28 : Nat), u (29 : Nat), u (30 : Nat), u (31 : Nat), u (32 : Nat)] (H.mk [] [] [])) (by kernel_rfl) ?_⟩
      refine ⟨by first | with_reducible assumption | omega | assumption, ?_⟩
      refine ⟨by first | exact ix_ints (by kernel_rfl) (by omega) (by assumption) | exact ix_ints (by kernel_rfl) (by omega) (rok_idx (by assumption) (by omega)), ?_⟩
      refine ⟨by first | exact ld_ints (by kernel_rfl) (by kernel_rfl) (by omega) | exact ldm_ints (by kernel_rfl) (by kernel_rfl) (by first | omega | (simp; omega)), ?_⟩
      refine ⟨by first | with_reducible assumption | omega | assumption, ?_⟩
      refine ⟨by first | with_reducible assumption | omega | assumption, ?_⟩
      exact .inl ⟨(), ha, rfl, rfl, rfl⟩
    · have c1 : 0 ≤ ia l j := by omega
      by_cases c2 : hi < ia l j
      · have ha : wn 0 hi l = false := by rw [ha, decide_eq_false (p := ia l j ≤ hi) (by omega), Bool.and_false]; rfl
        refine ⟨[Ans.o (Orc.b true), Ans.o (Orc.val 19 (AV.cptr (ints (List.drop j l))) H.nil), Ans.o (Orc.val 20 (I (l.getD j i0)) H.nil), Ans.o (Orc.b false), Ans.o (Orc.b true)], fun u => of_eq ((↑j : Int) < (↑l.length : Int) ∧ aIndexAddr Try.prog (31 : Nat) (AV.sl (ints l) l.length r) (I (↑j : Int)) = some (AV.cptr (ints (List.drop j l))) ∧ aLoad Try.prog (3 : Nat) (ints (List.drop j l)) = some (I (l.getD j i0)) ∧ (0 : Int) ≤ l.getD j i0 ∧ hi < l.getD j i0 ∧ (33 : Nat) = (33 : Nat) ∧ hits [Out.mk Unit AX.ret [(4 : Nat)] (fun x => wn (0 : Int) hi l = false) (fun x => [AV.bool false]) (fun x => H.nil) fun x => [], Out.mk Unit (AX.exit (0 : Nat)) [(0 : Nat), (1 : Nat)] (fun x => wn (0 : Int) hi l = true) (fun x => [ls l r, I hi]) (fun x => H.nil) fun x => []] AX.ret [AV.sl (ints l) l.length r, I hi, u (2 : Nat), u (3 : Nat), AV.bool false, u (5 : Nat), I (l.getD j i0), u (7 : Nat), u (8 : Nat), u (9 : Nat), u (10 : Nat), u (11 : Nat), u (12 : Nat), u (13 : Nat), u (14 : Nat), AV.sl (ints l) l.length r, I (↑l.length : Int), I (↑j : Int), AV.bool true, AV.cptr (ints (List.drop j l)), I (l.getD j i0), I (l.getD j i0), AV.bool false, AV.bool false, I (l.getD j i0), I hi, AV.bool true, AV.bool true, u (28 : Nat), u (29 : Nat), u (30 : Nat), u (31 : Nat), u (32 : Nat)] (H.mk [] [] [])) (by kernel_rfl) ?_⟩
        refine ⟨by first | with_reducible assumption | omega | assumption, ?_⟩
        refine ⟨by first | exact ix_ints (by kernel_rfl) (by omega) (by assumption) | exact ix_ints (by kernel_rfl) (by omega) (rok_idx (by assumption) (by omega)), ?_⟩
        refine ⟨by first | exact ld_ints (by kernel_rfl) (by kernel_rfl) (by omega) | exact ldm_ints (by kernel_rfl) (by kernel_rfl) (by first | omega | (simp; omega)), ?_⟩
        refine ⟨by first | with_reducible assumption | omega | assumption, ?_⟩
        refine ⟨by first | with_reducible assumption | omega | assumption, ?_⟩
        refine ⟨by first | with_reducible assumption | omega | assumption, ?_⟩
        exact .inl ⟨(), ha, rfl, rfl, rfl⟩
      · have c2 : ia l j ≤ hi := by omega
        have ha : wn 0 hi l = wn 0 hi (l.drop (j + 1)) := by rw [ha, decide_eq_true c1, decide_eq_true c2]; rfl
        refine ⟨[Ans.o (Orc.b true), Ans.o (Orc.val 19 (AV.cptr (ints (List.drop j l))) H.nil), Ans.o (Orc.val 20 (I (l.getD j i0)) H.nil), Ans.o (Orc.b false), Ans.o (Orc.b false)], fun u => of_eq ((↑j : Int) < (↑l.length : Int) ∧ aIndexAddr Try.prog (31 : Nat) (AV.sl (ints l) l.length r) (I (↑j : Int)) = some (AV.cptr (ints (List.drop j l))) ∧ aLoad Try.prog (3 : Nat) (ints (List.drop j l)) = some (I (l.getD j i0)) ∧ (0 : Int) ≤ l.getD j i0 ∧ l.getD j i0 ≤ hi ∧ IntKind.i64.wrap ((↑j : Int) + (1 : Int)) = (↑j : Int) + (1 : Int) ∧ (33 : Nat) = (33 : Nat) ∧ j < l.length ∧ Keep (H.mk [] [] [] = H.mk [] [] [] ∧ [AV.sl (ints l) l.length r, I hi, AV.sl (ints l) l.length r, I (↑l.length : Int), I ((↑j : Int) + (1 : Int))] = [AV.sl (ints l) l.length r, I hi, AV.sl (ints l) l.length r, I (↑l.length : Int), I (↑(j + (1 : Nat)) : Int)] ∧ wn (0 : Int) hi l = wn (0 : Int) hi (List.drop (j + (1 : Nat)) l))) (by kernel_rfl) ?_⟩
        refine ⟨by first | with_reducible assumption | omega | assumption, ?_⟩
        refine ⟨by first | exact ix_ints (by kernel_rfl) (by omega) (by assumption) | exact ix_ints (by kernel_rfl) (by omega) (rok_idx (by assumption) (by omega)), ?_⟩
        refine ⟨by first | exact ld_ints (by kernel_rfl) (by kernel_rfl) (by omega) | exact ldm_ints (by kernel_rfl) (by kernel_rfl) (by first | omega | (simp; omega)), ?_⟩
        refine ⟨by first | with_reducible assumption | omega | assumption, ?_⟩
        refine ⟨by first | with_reducible assumption | omega | assumption, ?_⟩
        refine ⟨wr _ (by omega) (by omega), ?_⟩
        refine ⟨by first | with_reducible assumption | omega | assumption, ?_⟩
        refine ⟨by first | with_reducible assumption | omega | assumption, ?_⟩
        exact ⟨rfl, rfl, ha⟩
  · have hz : (l.length : Int) ≤ j := by omega
    have hj' : j = l.length := by omega
    subst hj'
    rw [List.drop_length] at ha
    have ha : wn 0 hi l = true := ha
    refine ⟨[Ans.o (Orc.b false)], fun u => of_eq ((↑l.length : Int) ≤ (↑l.length : Int) ∧ (33 : Nat) = (33 : Nat) ∧ hits [Out.mk Unit AX.ret [(4 : Nat)] (fun x => wn (0 : Int) hi l = false) (fun x => [AV.bool false]) (fun x => H.nil) fun x => [], Out.mk Unit (AX.exit (0 : Nat)) [(0 : Nat), (1 : Nat)] (fun x => wn (0 : Int) hi l = true) (fun x => [ls l r, I hi]) (fun x => H.nil) fun x => []] (AX.exit (0 : Nat)) [AV.sl (ints l) l.length r, I hi, u (2 : Nat), u (3 : Nat), u (4 : Nat), u (5 : Nat), u (6 : Nat), u (7 : Nat), u (8 : Nat), u (9 : Nat), u (10 : Nat), u (11 : Nat), u (12 : Nat), u (13 : Nat), u (14 : Nat), AV.sl (ints l) l.length r, I (↑l.length : Int), I (↑l.length : Int), AV.bool false, u (19 : Nat), u (20 : Nat), u (21 : Nat), u (22 : Nat), u (23 : Nat), u (24 : Nat), u (25 : Nat), u (26 : Nat), u (27 : Nat), u (28 : Nat), u (29 : Nat), u (30 : Nat), u (31 : Nat), u (32 : Nat)] (H.mk [] [] [])) (by kernel_rfl) ?_⟩
    refine ⟨by first | with_reducible assumption | omega | assumption, ?_⟩
    refine ⟨by first | with_reducible assumption | omega | assumption, ?_⟩
    exact .inr (.inl ⟨(), ha, rfl, rfl, rfl⟩)
theorem wn_mono {a b : Int} (h : b ≤ a) {l : List Int} (hw : wn 0 b l = true) : wn 0 a l = true := wn_of fun i hi => by have := wn_get hw hi; omega
theorem ok37 : FokM Try.prog none1 37 Try.f37 := ⟨mixed, by kernel_rfl, by kernel_rfl, by kernel_rfl, by kernel_rfl⟩
theorem r37 (x : List Int) (r : Room) (m : Int) (hp : (lim x.length ∧ rok x r) ∧ 0 ≤ m ∧ m ≤ 200) : Body ⟨Try.prog, Sof (P := Try.prog) [c73.to], Pof (P := Try.prog) [], H.nil.base, 300⟩ none1 Try.f37 [ls x r, I m] .nil (.bool (stB x m), .nil) := by
  obtain ⟨⟨h3, h4⟩, hm⟩ := hp
  by_cases h1 : l4 x
  · have a1 : (1 : Int) ≤ x.length := by omega
    have a2 : (x.length : Int) ≤ 4 := by omega
    cases hw : wn 0 m x
    · have e : stB x m = false := by simp [stB, hw]
      rw [e]
      refine body_s ([Ans.o (Orc.b false), Ans.o (Orc.b false), Ans.loop [(0 : Nat), (1 : Nat), (15 : Nat), (16 : Nat), (17 : Nat)] [Out.mk Unit AX.ret [(4 : Nat)] (fun x_1 => wn (0 : Int) m x = false) (fun x => [AV.bool false]) (fun x => H.nil) fun y => [], Out.mk Unit (AX.exit (0 : Nat)) [(0 : Nat), (1 : Nat)] (fun x_1 => wn (0 : Int) m x = true) (fun x_1 => [ls x r, I m]) (fun x => H.nil) fun y => [Ans.o (Orc.val 30 (I (sj x x.length)) (H.mk [] [] [])), Ans.fork [] []]]]) ((1 : Int) ≤ (↑x.length : Int) ∧ (↑x.length : Int) ≤ (4 : Int) ∧ LoopS (Env.mk Try.prog (Sof [c73.to]) (Pof (P := Try.prog) []) H.nil.base (300 : Nat)) (loopAt Try.f37 (0 : Nat)) (33 : Nat) [(0 : Nat), (1 : Nat), (15 : Nat), (16 : Nat), (17 : Nat)] [AV.sl (ints x) x.length r, I m, AV.sl (ints x) x.length r, I (↑x.length : Int), I 0] (H.mk [] [] []) [Out.mk Unit AX.ret [(4 : Nat)] (fun x_1 => wn (0 : Int) m x = false) (fun x => [AV.bool false]) (fun x => H.nil) fun y => [], Out.mk Unit (AX.exit (0 : Nat)) [(0 : Nat), (1 : Nat)] (fun x_1 => wn (0 : Int) m x = true) (fun x_1 => [ls x r, I m]) (fun x => H.nil) fun y => [Ans.o (Orc.val 30 (I (sj x x.length)) (H.mk [] [] [])), Ans.fork [] []]] ∧ (∀ (y : Unit), wn (0 : Int) m x = false → ∀ (u : Nat → AV), (AV.bool false, H.mk [] [] []) = (AV.bool false, H.mk [] [] [])) ∧ (∀ (y : Unit), wn (0 : Int) m x = true → ∀ (u : Nat → AV), aCall (Sof [c73.to]) (AV.fn (Fn.func (73 : Nat)) [] []) [AV.sl (ints x) x.length r] (H.mk [] [] []) = some (I (sj x x.length), H.mk [] [] []) ∧ (sj x x.length ≤ m → (AV.bool true, H.mk [] [] []) = (AV.bool false, H.mk [] [] [])) ∧ (m < sj x x.length → (AV.bool false, H.mk [] [] []) = (AV.bool false, H.mk [] [] []))) ∧ True) (by kernel_rfl) ?_
      refine ⟨by first | with_reducible assumption | omega | assumption, ?_⟩
      refine ⟨by first | with_reducible assumption | omega | assumption, ?_⟩
      refine ⟨lp37 x r m h3 h4, ?_⟩
      refine And.intro ?_ ?_
      · skip
        intro y
        intro w1
        intro u
        first | rfl | (exfalso; simp_all)
      · skip
        refine And.intro ?_ ?_
        · skip
          intro y
          intro w1
          intro u
          refine ⟨by exfalso; simp_all, ?_⟩
          refine And.intro ?_ ?_
          · skip
            intro w3
            first | rfl | (exfalso; simp_all)
          · skip
            intro w3
            first | rfl | (exfalso; simp_all)
        · skip
          trivial
    · have e : stB x m = decide (sj x x.length ≤ m) := by simp [stB, hw, decide_eq_true h1]
      have p73 : rok x r ∧ x.length ≤ 4 ∧ wn 0 200 x = true := ⟨h4, h1.2, wn_mono hm.2 hw⟩
      rw [e]
      refine body_s ([Ans.o (Orc.b false), Ans.o (Orc.b false), Ans.loop [(0 : Nat), (1 : Nat), (15 : Nat), (16 : Nat), (17 : Nat)] [Out.mk Unit AX.ret [(4 : Nat)] (fun x_1 => wn (0 : Int) m x = false) (fun x => [AV.bool false]) (fun x => H.nil) fun y => [], Out.mk Unit (AX.exit (0 : Nat)) [(0 : Nat), (1 : Nat)] (fun x_1 => wn (0 : Int) m x = true) (fun x_1 => [ls x r, I m]) (fun x => H.nil) fun y => [Ans.o (Orc.val 30 (I (sj x x.length)) (H.mk [] [] [])), Ans.fork [] []]]]) ((1 : Int) ≤ (↑x.length : Int) ∧ (↑x.length : Int) ≤ (4 : Int) ∧ LoopS (Env.mk Try.prog (Sof [c73.to]) (Pof (P := Try.prog) []) H.nil.base (300 : Nat)) (loopAt Try.f37 (0 : Nat)) (33 : Nat) [(0 : Nat), (1 : Nat), (15 : Nat), (16 : Nat), (17 : Nat)] [AV.sl (ints x) x.length r, I m, AV.sl (ints x) x.length r, I (↑x.length : Int), I 0] (H.mk [] [] []) [Out.mk Unit AX.ret [(4 : Nat)] (fun x_1 => wn (0 : Int) m x = false) (fun x => [AV.bool false]) (fun x => H.nil) fun y => [], Out.mk Unit (AX.exit (0 : Nat)) [(0 : Nat), (1 : Nat)] (fun x_1 => wn (0 : Int) m x = true) (fun x_1 => [ls x r, I m]) (fun x => H.nil) fun y => [Ans.o (Orc.val 30 (I (sj x x.length)) (H.mk [] [] [])), Ans.fork [] []]] ∧ (∀ (y : Unit), wn (0 : Int) m x = false → ∀ (u : Nat → AV), (AV.bool false, H.mk [] [] []) = (AV.bool (decide (sj x x.length ≤ m)), H.mk [] [] [])) ∧ (∀ (y : Unit), wn (0 : Int) m x = true → ∀ (u : Nat → AV), aCall (Sof [c73.to]) (AV.fn (Fn.func (73 : Nat)) [] []) [AV.sl (ints x) x.length r] (H.mk [] [] []) = some (I (sj x x.length), H.mk [] [] []) ∧ (sj x x.length ≤ m → (AV.bool true, H.mk [] [] []) = (AV.bool (decide (sj x x.length ≤ m)), H.mk [] [] [])) ∧ (m < sj x x.length → (AV.bool false, H.mk [] [] []) = (AV.bool (decide (sj x x.length ≤ m)), H.mk [] [] []))) ∧ True) (by kernel_rfl) ?_
      refine ⟨by first | with_reducible assumption | omega | assumption, ?_⟩
      refine ⟨by first | with_reducible assumption | omega | assumption, ?_⟩
      refine ⟨lp37 x r m h3 h4, ?_⟩
      refine And.intro ?_ ?_
      · skip
        intro y
        intro w1
        intro u
        first | (exact bleaf_t (by assumption)) | (exact bleaf_f (by omega)) | (exfalso; simp_all)
      · skip
        refine And.intro ?_ ?_
        · skip
          intro y
          intro w1
          intro u
          refine ⟨acall_hit (c := c73.to) (x, r) _ rfl p73, ?_⟩
          refine And.intro ?_ ?_
          · skip
            intro w3
            first | (exact bleaf_t (by assumption)) | (exact bleaf_f (by omega)) | (exfalso; simp_all)
          · skip
            intro w3
            first | (exact bleaf_t (by assumption)) | (exact bleaf_f (by omega)) | (exfalso; simp_all)
        · skip
          trivial
  · have e : stB x m = false := by simp [stB, decide_eq_false h1]
    rw [e]
    refine body_s ([Ans.fork [] [Ans.fork [] [Ans.loop [(0 : Nat), (1 : Nat), (15 : Nat), (16 : Nat), (17 : Nat)] [Out.mk Unit AX.ret [(4 : Nat)] (fun x_1 => wn (0 : Int) m x = false) (fun x => [AV.bool false]) (fun x => H.nil) fun y => [], Out.mk Unit (AX.exit (0 : Nat)) [(0 : Nat), (1 : Nat)] (fun x_1 => wn (0 : Int) m x = true) (fun x_1 => [ls x r, I m]) (fun x => H.nil) fun y => [Ans.o (Orc.val 30 (I (sj x x.length)) (H.mk [] [] [])), Ans.fork [] []]]]]]) (((↑x.length : Int) < (1 : Int) → (AV.bool false, H.mk [] [] []) = (AV.bool false, H.mk [] [] [])) ∧ ((1 : Int) ≤ (↑x.length : Int) → ((4 : Int) < (↑x.length : Int) → (AV.bool false, H.mk [] [] []) = (AV.bool false, H.mk [] [] [])) ∧ ((↑x.length : Int) ≤ (4 : Int) → LoopS (Env.mk Try.prog (Sof [c73.to]) (Pof (P := Try.prog) []) H.nil.base (300 : Nat)) (loopAt Try.f37 (0 : Nat)) (33 : Nat) [(0 : Nat), (1 : Nat), (15 : Nat), (16 : Nat), (17 : Nat)] [AV.sl (ints x) x.length r, I m, AV.sl (ints x) x.length r, I (↑x.length : Int), I 0] (H.mk [] [] []) [Out.mk Unit AX.ret [(4 : Nat)] (fun x_1 => wn (0 : Int) m x = false) (fun x => [AV.bool false]) (fun x => H.nil) fun y => [], Out.mk Unit (AX.exit (0 : Nat)) [(0 : Nat), (1 : Nat)] (fun x_1 => wn (0 : Int) m x = true) (fun x_1 => [ls x r, I m]) (fun x => H.nil) fun y => [Ans.o (Orc.val 30 (I (sj x x.length)) (H.mk [] [] [])), Ans.fork [] []]] ∧ (∀ (y : Unit), wn (0 : Int) m x = false → ∀ (u : Nat → AV), (AV.bool false, H.mk [] [] []) = (AV.bool false, H.mk [] [] [])) ∧ (∀ (y : Unit), wn (0 : Int) m x = true → ∀ (u : Nat → AV), aCall (Sof [c73.to]) (AV.fn (Fn.func (73 : Nat)) [] []) [AV.sl (ints x) x.length r] (H.mk [] [] []) = some (I (sj x x.length), H.mk [] [] []) ∧ (sj x x.length ≤ m → (AV.bool true, H.mk [] [] []) = (AV.bool false, H.mk [] [] [])) ∧ (m < sj x x.length → (AV.bool false, H.mk [] [] []) = (AV.bool false, H.mk [] [] []))) ∧ True))) (by kernel_rfl) ?_
    refine And.intro ?_ ?_
    · skip
      intro w0
      first | rfl | (exfalso; omega)
    · skip
      intro w0
      refine And.intro ?_ ?_
      · skip
        intro w1
        first | rfl | (exfalso; omega)
      · skip
        intro w1
        refine ⟨lp37 x r m h3 h4, ?_⟩
        refine And.intro ?_ ?_
        · skip
          intro y
          intro w3
          intro u
          first | rfl | (exfalso; omega)
        · skip
          refine And.intro ?_ ?_
          · skip
            intro y
            intro w3
            intro u
            refine ⟨by exfalso; omega, ?_⟩
            refine And.intro ?_ ?_
            · skip
              intro w5
              first | rfl | (exfalso; omega)
            · skip
              intro w5
              first | rfl | (exfalso; omega)
          · skip
            trivial
noncomputable def c37 : PCtr Try.prog := sctr ok37 (X := List Int × Room × Int) (fun x => [ls x.1 x.2.1, I x.2.2]) (fun x => (lim x.1.length ∧ rok x.1 x.2.1) ∧ 0 ≤ x.2.2 ∧ x.2.2 ≤ 200) (fun x => .bool (stB x.1 x.2.2)) (by intro x y e _ _; simp [Int.natCast_inj] at e; simp [e]) (fun x => by simp [AV.bnds, AV.bnd, AV.wk, rm_wk_bnd]) (fun x => by first | rfl | (simp [AV.bnd, rm_wk_bnd]; done)  | (simp [AV.bnd, AV.bnds, rm_wk_bnd]; done) | simp [AV.bnd, AV.bnds, Room.bnd, rm_wk_bnd]) (fun x hx => ⟨_, _, _, .pure c73 (.nil), r37 (x.1) (x.2.1).wk (x.2.2) (by first | exact hx | (simp only [rok_wk]; exact hx) | (simp only [rok_wk, lst_wk]; exact hx) | (simp only [rok_wk, lst_wk, lsn_wk]; exact hx))⟩)
/-- is it a question for a state? -/
abbrev qP (x q : List Int) (i : Nat) : Prop := 0 ≤ ia q i ∧ ia q i ≤ ia x i
def quB (x q : List Int) : Bool := decide (q.length = x.length) && (List.range x.length).all fun i => decide (qP x q i)
theorem quB_t {x q : List Int} : quB x q = true ↔ q.length = x.length ∧ ∀ i, i < x.length → qP x q i := by
  simp only [quB, Bool.and_eq_true, decide_eq_true_eq, List.all_eq_true, List.mem_range]
theorem quB_len {x q : List Int} (h : q.length ≠ x.length) : quB x q = false := by simp [quB, h]
theorem quB_f {x q : List Int} {i : Nat} (hi : i < x.length) (h : ¬ qP x q i) : quB x q = false := by
  cases hq : quB x q
  · rfl
  · exact absurd ((quB_t.1 hq).2 i hi) h
abbrev o67 (x q : List Int) : List Out :=
  [.mk Unit .ret [4] (fun _ => quB x q = false) (fun _ => [.bool false]) (fun _ => .nil) (fun _ => []), .mk Unit (.exit 0) [] (fun _ => quB x q = true) (fun _ => []) (fun _ => .nil) (fun _ => [])]
theorem simp67 : allSimpleM none1 (loopAt Try.f67 0) = true := by kernel_rfl
theorem lp67 (x q : List Int) (r r' : Room) (hl : lim x.length) (hr : rok x r) (hr' : rok q r') (he : q.length = x.length) :
    LoopS (En6 [c71a.to]) (loopAt Try.f67 0) 28 [0, 12, 13, 14] [ls q r', ls x r, I x.length, I 0] .nil (o67 x q) := by
  have hR : Rests (En6 [c71a.to]) none1 := rests mixed (.pure _ .nil)
  refine loop_s hR simp67 none (by intro _ h; cases h) (fun j vs h => h = .nil ∧ vs = [ls q r', ls x r, I x.length, I j] ∧ ∀ i, i < j → qP x q i) x.length ⟨rfl, rfl, fun i hi => absurd hi (by omega)⟩ (by intro _ h; cases h) ?_
  rintro j vs h hj ⟨rfl, rfl, ha⟩
  by_cases hz : (j : Int) < x.length
  · have hz' : j < x.length := by omega
    have z1 := rok_idx hr hz'
    have z2 := rok_idx hr' (show j < q.length by omega)
    by_cases c : qP x q j
    · have a1 : wn 0 (ia x j) [ia q j] = true := by rw [wn1]; exact decide_eq_true c
      have hk : ∀ i, i < j + 1 → qP x q i := fun i hi => by
        by_cases h : i = j
        · subst h; exact c
        · exact ha i (by omega)
      refine ⟨[Ans.o (Orc.b true), Ans.o (Orc.val 17 (AV.cptr (ints (List.drop j x))) H.nil), Ans.o (Orc.val 18 (I (x.getD j i0)) H.nil), Ans.o (Orc.val 22 (AV.cptr (ints (List.drop j q))) H.nil), Ans.o (Orc.val 23 (I (q.getD j i0)) H.nil), Ans.o (Orc.val 25 (AV.bool true) (H.mk [] [] []))], fun u => of_eq ((↑j : Int) < (↑x.length : Int) ∧ aIndexAddr Try.prog (31 : Nat) (AV.sl (ints x) x.length r) (I (↑j : Int)) = some (AV.cptr (ints (List.drop j x))) ∧ aLoad Try.prog (3 : Nat) (ints (List.drop j x)) = some (I (x.getD j i0)) ∧ aIndexAddr Try.prog (31 : Nat) (AV.sl (ints q) q.length r') (I (↑j : Int)) = some (AV.cptr (ints (List.drop j q))) ∧ aLoad Try.prog (3 : Nat) (ints (List.drop j q)) = some (I (q.getD j i0)) ∧ aCall (Sof [c71a.to]) (AV.fn (Fn.func (71 : Nat)) [] []) [I 0, I (x.getD j i0), AV.sl [I (q.getD j i0)] (1 : Nat) Room.full] (H.mk [] [] []) = some (AV.bool true, H.mk [] [] []) ∧ IntKind.i64.wrap ((↑j : Int) + (1 : Int)) = (↑j : Int) + (1 : Int) ∧ (28 : Nat) = (28 : Nat) ∧ j < x.length ∧ Keep (H.mk [] [] [] = H.mk [] [] [] ∧ [AV.sl (ints q) q.length r', AV.sl (ints x) x.length r, I (↑x.length : Int), I ((↑j : Int) + (1 : Int))] = [AV.sl (ints q) q.length r', AV.sl (ints x) x.length r, I (↑x.length : Int), I (↑(j + (1 : Nat)) : Int)] ∧ ∀ (i : Nat), i < j + (1 : Nat) → qP x q i)) (by kernel_rfl) ?_⟩
      refine ⟨by first | with_reducible assumption | omega | assumption, ?_⟩
      refine ⟨by first | exact ix_ints (by kernel_rfl) hz' z1 | exact ix_ints (by kernel_rfl) (by omega) z2, ?_⟩
      refine ⟨by first | exact ld_ints (by kernel_rfl) (by kernel_rfl) (by omega) | exact ldm_ints (by kernel_rfl) (by kernel_rfl) (by first | omega | (simp; omega)), ?_⟩
      refine ⟨by first | exact ix_ints (by kernel_rfl) hz' z1 | exact ix_ints (by kernel_rfl) (by omega) z2, ?_⟩
      refine ⟨by first | exact ld_ints (by kernel_rfl) (by kernel_rfl) (by omega) | exact ldm_ints (by kernel_rfl) (by kernel_rfl) (by first | omega | (simp; omega)), ?_⟩
      refine ⟨acall_b (acall_hit (c := c71a.to) (0, ia x j, ia q j) _ rfl (k1 _)) a1, ?_⟩
      refine ⟨wr _ (by omega) (by omega), ?_⟩
      refine ⟨by first | with_reducible assumption | omega | assumption, ?_⟩
      refine ⟨by first | with_reducible assumption | omega | assumption, ?_⟩
      exact ⟨rfl, rfl, hk⟩
    · have a1 : wn 0 (ia x j) [ia q j] = false := by rw [wn1]; exact decide_eq_false c
      have hk := quB_f hz' c
      refine ⟨[Ans.o (Orc.b true), Ans.o (Orc.val 17 (AV.cptr (ints (List.drop j x))) H.nil), Ans.o (Orc.val 18 (I (x.getD j i0)) H.nil), Ans.o (Orc.val 22 (AV.cptr (ints (List.drop j q))) H.nil), Ans.o (Orc.val 23 (I (q.getD j i0)) H.nil), Ans.o (Orc.val 25 (AV.bool false) (H.mk [] [] []))], fun u => of_eq ((↑j : Int) < (↑x.length : Int) ∧ aIndexAddr Try.prog (31 : Nat) (AV.sl (ints x) x.length r) (I (↑j : Int)) = some (AV.cptr (ints (List.drop j x))) ∧ aLoad Try.prog (3 : Nat) (ints (List.drop j x)) = some (I (x.getD j i0)) ∧ aIndexAddr Try.prog (31 : Nat) (AV.sl (ints q) q.length r') (I (↑j : Int)) = some (AV.cptr (ints (List.drop j q))) ∧ aLoad Try.prog (3 : Nat) (ints (List.drop j q)) = some (I (q.getD j i0)) ∧ aCall (Sof [c71a.to]) (AV.fn (Fn.func (71 : Nat)) [] []) [I 0, I (x.getD j i0), AV.sl [I (q.getD j i0)] (1 : Nat) Room.full] (H.mk [] [] []) = some (AV.bool false, H.mk [] [] []) ∧ (28 : Nat) = (28 : Nat) ∧ hits [Out.mk Unit AX.ret [(4 : Nat)] (fun x_1 => quB x q = false) (fun x => [AV.bool false]) (fun x => H.nil) fun x => [], Out.mk Unit (AX.exit (0 : Nat)) [] (fun x_1 => quB x q = true) (fun x => []) (fun x => H.nil) fun x => []] AX.ret [AV.sl (ints q) q.length r', u (1 : Nat), u (2 : Nat), u (3 : Nat), AV.bool false, I (↑j : Int), I (x.getD j i0), u (7 : Nat), u (8 : Nat), u (9 : Nat), u (10 : Nat), u (11 : Nat), AV.sl (ints x) x.length r, I (↑x.length : Int), I (↑j : Int), AV.bool true, I (↑j : Int), AV.cptr (ints (List.drop j x)), I (x.getD j i0), I (x.getD j i0), AV.sl (ints q) q.length r', I (↑j : Int), AV.cptr (ints (List.drop j q)), I (q.getD j i0), AV.sl [I (q.getD j i0)] (1 : Nat) Room.full, AV.bool false, AV.bool true, u (27 : Nat)] (H.mk [] [] [])) (by kernel_rfl) ?_⟩
      refine ⟨by first | with_reducible assumption | omega | assumption, ?_⟩
      refine ⟨by first | exact ix_ints (by kernel_rfl) hz' z1 | exact ix_ints (by kernel_rfl) (by omega) z2, ?_⟩
      refine ⟨by first | exact ld_ints (by kernel_rfl) (by kernel_rfl) (by omega) | exact ldm_ints (by kernel_rfl) (by kernel_rfl) (by first | omega | (simp; omega)), ?_⟩
      refine ⟨by first | exact ix_ints (by kernel_rfl) hz' z1 | exact ix_ints (by kernel_rfl) (by omega) z2, ?_⟩
      refine ⟨by first | exact ld_ints (by kernel_rfl) (by kernel_rfl) (by omega) | exact ldm_ints (by kernel_rfl) (by kernel_rfl) (by first | omega | (simp; omega)), ?_⟩
      refine ⟨acall_b (acall_hit (c := c71a.to) (0, ia x j, ia q j) _ rfl (k1 _)) a1, ?_⟩
      refine ⟨by first | with_reducible assumption | omega | assumption, ?_⟩
      exact .inl ⟨(), hk, rfl, rfl, rfl⟩
  · have hz : (x.length : Int) ≤ j := by omega
    have hj' : j = x.length := by omega
    subst hj'
    have hk := quB_t.2 ⟨he, ha⟩
    refine ⟨[Ans.o (Orc.b false)], fun u => of_eq ((↑x.length : Int) ≤ (↑x.length : Int) ∧ (28 : Nat) = (28 : Nat) ∧ hits [Out.mk Unit AX.ret [(4 : Nat)] (fun x_1 => quB x q = false) (fun x => [AV.bool false]) (fun x => H.nil) fun x => [], Out.mk Unit (AX.exit (0 : Nat)) [] (fun x_1 => quB x q = true) (fun x => []) (fun x => H.nil) fun x => []] (AX.exit (0 : Nat)) [AV.sl (ints q) q.length r', u (1 : Nat), u (2 : Nat), u (3 : Nat), u (4 : Nat), u (5 : Nat), u (6 : Nat), u (7 : Nat), u (8 : Nat), u (9 : Nat), u (10 : Nat), u (11 : Nat), AV.sl (ints x) x.length r, I (↑x.length : Int), I (↑x.length : Int), AV.bool false, u (16 : Nat), u (17 : Nat), u (18 : Nat), u (19 : Nat), u (20 : Nat), u (21 : Nat), u (22 : Nat), u (23 : Nat), u (24 : Nat), u (25 : Nat), u (26 : Nat), u (27 : Nat)] (H.mk [] [] [])) (by kernel_rfl) ?_⟩
    refine ⟨by first | with_reducible assumption | omega | assumption, ?_⟩
    refine ⟨by first | with_reducible assumption | omega | assumption, ?_⟩
    exact .inr (.inl ⟨(), hk, rfl, rfl, rfl⟩)
theorem ok67 : FokM Try.prog none1 67 Try.f67 := ⟨mixed, by kernel_rfl, by kernel_rfl, by kernel_rfl, by kernel_rfl⟩
theorem r67 (q : List Int) (r' : Room) (x : List Int) (r : Room) (hp : (lim x.length ∧ rok x r) ∧ rok q r') : Body ⟨Try.prog, Sof (P := Try.prog) [c71a.to], Pof (P := Try.prog) [], H.nil.base, 300⟩ none1 Try.f67 [ls q r', ls x r] .nil (.bool (quB x q), .nil) := by
  obtain ⟨⟨h3, h4⟩, h5⟩ := hp
  by_cases he : q.length = x.length
  · have he' : (q.length : Int) = x.length := by omega
    refine body_s ([Ans.o (Orc.b false), Ans.loop [(0 : Nat), (12 : Nat), (13 : Nat), (14 : Nat)] [Out.mk Unit AX.ret [(4 : Nat)] (fun x_1 => quB x q = false) (fun x => [AV.bool false]) (fun x => H.nil) fun y => [], Out.mk Unit (AX.exit (0 : Nat)) [] (fun x_1 => quB x q = true) (fun x => []) (fun x => H.nil) fun y => []]]) ((↑q.length : Int) = (↑x.length : Int) ∧ LoopS (Env.mk Try.prog (Sof [c71a.to]) (Pof (P := Try.prog) []) H.nil.base (300 : Nat)) (loopAt Try.f67 (0 : Nat)) (28 : Nat) [(0 : Nat), (12 : Nat), (13 : Nat), (14 : Nat)] [AV.sl (ints q) q.length r', AV.sl (ints x) x.length r, I (↑x.length : Int), I 0] (H.mk [] [] []) [Out.mk Unit AX.ret [(4 : Nat)] (fun x_1 => quB x q = false) (fun x => [AV.bool false]) (fun x => H.nil) fun y => [], Out.mk Unit (AX.exit (0 : Nat)) [] (fun x_1 => quB x q = true) (fun x => []) (fun x => H.nil) fun y => []] ∧ (∀ (y : Unit), quB x q = false → ∀ (u : Nat → AV), (AV.bool false, H.mk [] [] []) = (AV.bool (quB x q), H.mk [] [] [])) ∧ (∀ (y : Unit), quB x q = true → ∀ (u : Nat → AV), (AV.bool true, H.mk [] [] []) = (AV.bool (quB x q), H.mk [] [] [])) ∧ True) (by kernel_rfl) ?_
    refine ⟨by first | with_reducible assumption | omega | assumption, ?_⟩
    refine ⟨lp67 x q r r' h3 h4 h5 he, ?_⟩
    refine And.intro ?_ ?_
    · skip
      intro y
      intro w1
      intro u
      first | exact congrArg (fun b => (AV.bool b, H.nil)) (by with_reducible assumption : quB x q = false).symm | exact congrArg (fun b => (AV.bool b, H.nil)) (by with_reducible assumption : quB x q = true).symm
    · skip
      refine And.intro ?_ ?_
      · skip
        intro y
        intro w1
        intro u
        first | exact congrArg (fun b => (AV.bool b, H.nil)) (by with_reducible assumption : quB x q = false).symm | exact congrArg (fun b => (AV.bool b, H.nil)) (by with_reducible assumption : quB x q = true).symm
      · skip
        trivial
  · have he' : (q.length : Int) ≠ x.length := by omega
    rw [quB_len he]
    refine body_s ([Ans.o (Orc.b true)]) ((↑q.length : Int) ≠ (↑x.length : Int) ∧ (AV.bool false, H.mk [] [] []) = (AV.bool false, H.mk [] [] [])) (by kernel_rfl) ?_
    refine ⟨by first | with_reducible assumption | omega | assumption, ?_⟩
    first | rfl | (exfalso; omega)
noncomputable def c67 : PCtr Try.prog := sctr ok67 (X := List Int × Room × List Int × Room) (fun x => [ls x.1 x.2.1, ls x.2.2.1 x.2.2.2]) (fun x => (lim x.2.2.1.length ∧ rok x.2.2.1 x.2.2.2) ∧ rok x.1 x.2.1) (fun x => .bool (quB x.2.2.1 x.1)) (by intro x y e _ _; simp [Int.natCast_inj] at e; simp [e]) (fun x => by simp [AV.bnds, AV.bnd, AV.wk, rm_wk_bnd]) (fun x => by first | rfl | (simp [AV.bnd, rm_wk_bnd]; done)  | (simp [AV.bnd, AV.bnds, rm_wk_bnd]; done) | simp [AV.bnd, AV.bnds, Room.bnd, rm_wk_bnd]) (fun x hx => ⟨_, _, _, .pure c71a (.nil), r67 (x.1) (x.2.1).wk (x.2.2.1) (x.2.2.2).wk (by first | exact hx | (simp only [rok_wk]; exact hx) | (simp only [rok_wk, lst_wk]; exact hx) | (simp only [rok_wk, lst_wk, lsn_wk]; exact hx))⟩)
abbrev o39 (x q : List Int) (r r' : Room) : List Out :=
  [.mk Unit .ret [4] (fun _ => quB x q = false) (fun _ => [.bool false]) (fun _ => .nil) (fun _ => []), .mk Unit (.exit 0) [0, 1] (fun _ => quB x q = decide (q.length = x.length)) (fun _ => [ls x r, ls q r']) (fun _ => .nil) (fun _ => [])]
theorem simp39 : allSimpleM none1 (loopAt Try.f39 0) = true := by kernel_rfl
theorem lp39 (x q : List Int) (r r' : Room) (hl : lim x.length) (hlq : lim q.length) (hr : rok x r) (hr' : rok q r') :
    LoopS (En6 []) (loopAt Try.f39 0) 36 [0, 1, 7, 8, 9] [ls x r, ls q r', ls q r', I q.length, I 0] .nil (o39 x q r r') := by
  have hR : Rests (En6 []) none1 := rests mixed .nil
  refine loop_s hR simp39 none (by intro _ h; cases h) (fun j vs h => h = .nil ∧ vs = [ls x r, ls q r', ls q r', I q.length, I j] ∧ j ≤ x.length ∧ ∀ i, i < j → qP x q i) q.length ⟨rfl, rfl, by omega, fun i hi => absurd hi (by omega)⟩ (by intro _ h; cases h) ?_
  rintro j vs h hj ⟨rfl, rfl, hjx, ha⟩
  by_cases hz : (j : Int) < q.length
  · have hz' : j < q.length := by omega
    have z2 := rok_idx hr' hz'
    by_cases c0 : (x.length : Int) ≤ j
    · have hk := quB_len (x := x) (q := q) (by omega)
      refine ⟨[Ans.o (Orc.b true), Ans.o (Orc.val 12 (AV.cptr (ints (List.drop j q))) H.nil), Ans.o (Orc.val 13 (I (q.getD j i0)) H.nil), Ans.o (Orc.b true)], fun u => of_eq ((↑j : Int) < (↑q.length : Int) ∧ aIndexAddr Try.prog (31 : Nat) (AV.sl (ints q) q.length r') (I (↑j : Int)) = some (AV.cptr (ints (List.drop j q))) ∧ aLoad Try.prog (3 : Nat) (ints (List.drop j q)) = some (I (q.getD j i0)) ∧ (↑x.length : Int) ≤ (↑j : Int) ∧ (36 : Nat) = (36 : Nat) ∧ hits [Out.mk Unit AX.ret [(4 : Nat)] (fun x_1 => quB x q = false) (fun x => [AV.bool false]) (fun x => H.nil) fun x => [], Out.mk Unit (AX.exit (0 : Nat)) [(0 : Nat), (1 : Nat)] (fun x_1 => quB x q = decide (q.length = x.length)) (fun x_1 => [ls x r, ls q r']) (fun x => H.nil) fun x => []] AX.ret [AV.sl (ints x) x.length r, AV.sl (ints q) q.length r', u (2 : Nat), u (3 : Nat), AV.bool false, I (↑j : Int), I (q.getD j i0), AV.sl (ints q) q.length r', I (↑q.length : Int), I (↑j : Int), AV.bool true, I (↑j : Int), AV.cptr (ints (List.drop j q)), I (q.getD j i0), I (↑j : Int), AV.sl (ints x) x.length r, I (↑x.length : Int), AV.bool true, AV.bool true, AV.tup [], AV.tup [], AV.bool true, AV.bool true, AV.tup [], AV.tup [], AV.tup [], AV.tup [], AV.tup [], AV.tup [], AV.bool true, u (30 : Nat), u (31 : Nat), u (32 : Nat), u (33 : Nat), u (34 : Nat), u (35 : Nat)] (H.mk [] [] [])) (by kernel_rfl) ?_⟩
      refine ⟨by first | with_reducible assumption | omega | assumption, ?_⟩
      refine ⟨by first | exact ix_ints (by kernel_rfl) (by omega) (by assumption) | exact ix_ints (by kernel_rfl) (by omega) (rok_idx (by assumption) (by omega)), ?_⟩
      refine ⟨by first | exact ld_ints (by kernel_rfl) (by kernel_rfl) (by omega) | exact ldm_ints (by kernel_rfl) (by kernel_rfl) (by first | omega | (simp; omega)), ?_⟩
      refine ⟨by first | with_reducible assumption | omega | assumption, ?_⟩
      refine ⟨by first | with_reducible assumption | omega | assumption, ?_⟩
      exact .inl ⟨(), hk, rfl, rfl, rfl⟩
    · have c0' : (j : Int) < x.length := by omega
      have c1 : j < x.length := by omega
      have z1 := rok_idx hr c1
      by_cases c2 : ia q j < 0
      · have hk := quB_f c1 (q := q) (fun h => by have := h.1; omega)
        refine ⟨[Ans.o (Orc.b true), Ans.o (Orc.val 12 (AV.cptr (ints (List.drop j q))) H.nil), Ans.o (Orc.val 13 (I (q.getD j i0)) H.nil), Ans.o (Orc.b false), Ans.o (Orc.b true)], fun u => of_eq ((↑j : Int) < (↑q.length : Int) ∧ aIndexAddr Try.prog (31 : Nat) (AV.sl (ints q) q.length r') (I (↑j : Int)) = some (AV.cptr (ints (List.drop j q))) ∧ aLoad Try.prog (3 : Nat) (ints (List.drop j q)) = some (I (q.getD j i0)) ∧ (↑j : Int) < (↑x.length : Int) ∧ q.getD j i0 < (0 : Int) ∧ (36 : Nat) = (36 : Nat) ∧ hits [Out.mk Unit AX.ret [(4 : Nat)] (fun x_1 => quB x q = false) (fun x => [AV.bool false]) (fun x => H.nil) fun x => [], Out.mk Unit (AX.exit (0 : Nat)) [(0 : Nat), (1 : Nat)] (fun x_1 => quB x q = decide (q.length = x.length)) (fun x_1 => [ls x r, ls q r']) (fun x => H.nil) fun x => []] AX.ret [AV.sl (ints x) x.length r, AV.sl (ints q) q.length r', u (2 : Nat), u (3 : Nat), AV.bool false, I (↑j : Int), I (q.getD j i0), AV.sl (ints q) q.length r', I (↑q.length : Int), I (↑j : Int), AV.bool true, I (↑j : Int), AV.cptr (ints (List.drop j q)), I (q.getD j i0), I (↑j : Int), AV.sl (ints x) x.length r, I (↑x.length : Int), AV.bool false, AV.bool false, I (q.getD j i0), AV.bool true, AV.bool true, AV.bool true, AV.tup [], AV.tup [], AV.tup [], AV.tup [], AV.tup [], AV.tup [], AV.bool true, u (30 : Nat), u (31 : Nat), u (32 : Nat), u (33 : Nat), u (34 : Nat), u (35 : Nat)] (H.mk [] [] [])) (by kernel_rfl) ?_⟩
        refine ⟨by first | with_reducible assumption | omega | assumption, ?_⟩
        refine ⟨by first | exact ix_ints (by kernel_rfl) (by omega) (by assumption) | exact ix_ints (by kernel_rfl) (by omega) (rok_idx (by assumption) (by omega)), ?_⟩
        refine ⟨by first | exact ld_ints (by kernel_rfl) (by kernel_rfl) (by omega) | exact ldm_ints (by kernel_rfl) (by kernel_rfl) (by first | omega | (simp; omega)), ?_⟩
        refine ⟨by first | with_reducible assumption | omega | assumption, ?_⟩
        refine ⟨by first | with_reducible assumption | omega | assumption, ?_⟩
        refine ⟨by first | with_reducible assumption | omega | assumption, ?_⟩
        exact .inl ⟨(), hk, rfl, rfl, rfl⟩
      · have c2 : 0 ≤ ia q j := by omega
        by_cases c3 : ia x j < ia q j
        · have hk := quB_f c1 (q := q) (fun h => by have := h.2; omega)
          refine ⟨[Ans.o (Orc.b true), Ans.o (Orc.val 12 (AV.cptr (ints (List.drop j q))) H.nil), Ans.o (Orc.val 13 (I (q.getD j i0)) H.nil), Ans.o (Orc.b false), Ans.o (Orc.b false), Ans.o (Orc.val 26 (AV.cptr (ints (List.drop j x))) H.nil), Ans.o (Orc.val 27 (I (x.getD j i0)) H.nil), Ans.o (Orc.b true)], fun u => of_eq ((↑j : Int) < (↑q.length : Int) ∧ aIndexAddr Try.prog (31 : Nat) (AV.sl (ints q) q.length r') (I (↑j : Int)) = some (AV.cptr (ints (List.drop j q))) ∧ aLoad Try.prog (3 : Nat) (ints (List.drop j q)) = some (I (q.getD j i0)) ∧ (↑j : Int) < (↑x.length : Int) ∧ (0 : Int) ≤ q.getD j i0 ∧ aIndexAddr Try.prog (31 : Nat) (AV.sl (ints x) x.length r) (I (↑j : Int)) = some (AV.cptr (ints (List.drop j x))) ∧ aLoad Try.prog (3 : Nat) (ints (List.drop j x)) = some (I (x.getD j i0)) ∧ x.getD j i0 < q.getD j i0 ∧ (36 : Nat) = (36 : Nat) ∧ hits [Out.mk Unit AX.ret [(4 : Nat)] (fun x_1 => quB x q = false) (fun x => [AV.bool false]) (fun x => H.nil) fun x => [], Out.mk Unit (AX.exit (0 : Nat)) [(0 : Nat), (1 : Nat)] (fun x_1 => quB x q = decide (q.length = x.length)) (fun x_1 => [ls x r, ls q r']) (fun x => H.nil) fun x => []] AX.ret [AV.sl (ints x) x.length r, AV.sl (ints q) q.length r', u (2 : Nat), u (3 : Nat), AV.bool false, I (↑j : Int), I (q.getD j i0), AV.sl (ints q) q.length r', I (↑q.length : Int), I (↑j : Int), AV.bool true, I (↑j : Int), AV.cptr (ints (List.drop j q)), I (q.getD j i0), I (↑j : Int), AV.sl (ints x) x.length r, I (↑x.length : Int), AV.bool false, AV.bool false, I (q.getD j i0), AV.bool false, AV.bool false, AV.bool false, I (q.getD j i0), AV.sl (ints x) x.length r, I (↑j : Int), AV.cptr (ints (List.drop j x)), I (x.getD j i0), AV.bool true, AV.bool true, u (30 : Nat), u (31 : Nat), u (32 : Nat), u (33 : Nat), u (34 : Nat), u (35 : Nat)] (H.mk [] [] [])) (by kernel_rfl) ?_⟩
          refine ⟨by first | with_reducible assumption | omega | assumption, ?_⟩
          refine ⟨by first | exact ix_ints (by kernel_rfl) c1 z1 | exact ix_ints (by kernel_rfl) hz' z2, ?_⟩
          refine ⟨by first | exact ld_ints (by kernel_rfl) (by kernel_rfl) (by omega) | exact ldm_ints (by kernel_rfl) (by kernel_rfl) (by first | omega | (simp; omega)), ?_⟩
          refine ⟨by first | with_reducible assumption | omega | assumption, ?_⟩
          refine ⟨by first | with_reducible assumption | omega | assumption, ?_⟩
          refine ⟨by first | exact ix_ints (by kernel_rfl) c1 z1 | exact ix_ints (by kernel_rfl) hz' z2, ?_⟩
          refine ⟨by first | exact ld_ints (by kernel_rfl) (by kernel_rfl) (by omega) | exact ldm_ints (by kernel_rfl) (by kernel_rfl) (by first | omega | (simp; omega)), ?_⟩
          refine ⟨by first | with_reducible assumption | omega | assumption, ?_⟩
          refine ⟨by first | with_reducible assumption | omega | assumption, ?_⟩
          exact .inl ⟨(), hk, rfl, rfl, rfl⟩
        · have c3 : ia q j ≤ ia x j := by omega
          have hk : ∀ i, i < j + 1 → qP x q i := fun i hi => by
            by_cases h : i = j
            · subst h; exact ⟨c2, c3⟩
            · exact ha i (by omega)
          refine ⟨[Ans.o (Orc.b true), Ans.o (Orc.val 12 (AV.cptr (ints (List.drop j q))) H.nil), Ans.o (Orc.val 13 (I (q.getD j i0)) H.nil), Ans.o (Orc.b false), Ans.o (Orc.b false), Ans.o (Orc.val 26 (AV.cptr (ints (List.drop j x))) H.nil), Ans.o (Orc.val 27 (I (x.getD j i0)) H.nil), Ans.o (Orc.b false)], fun u => of_eq ((↑j : Int) < (↑q.length : Int) ∧ aIndexAddr Try.prog (31 : Nat) (AV.sl (ints q) q.length r') (I (↑j : Int)) = some (AV.cptr (ints (List.drop j q))) ∧ aLoad Try.prog (3 : Nat) (ints (List.drop j q)) = some (I (q.getD j i0)) ∧ (↑j : Int) < (↑x.length : Int) ∧ (0 : Int) ≤ q.getD j i0 ∧ aIndexAddr Try.prog (31 : Nat) (AV.sl (ints x) x.length r) (I (↑j : Int)) = some (AV.cptr (ints (List.drop j x))) ∧ aLoad Try.prog (3 : Nat) (ints (List.drop j x)) = some (I (x.getD j i0)) ∧ q.getD j i0 ≤ x.getD j i0 ∧ IntKind.i64.wrap ((↑j : Int) + (1 : Int)) = (↑j : Int) + (1 : Int) ∧ (36 : Nat) = (36 : Nat) ∧ j < q.length ∧ Keep (H.mk [] [] [] = H.mk [] [] [] ∧ [AV.sl (ints x) x.length r, AV.sl (ints q) q.length r', AV.sl (ints q) q.length r', I (↑q.length : Int), I ((↑j : Int) + (1 : Int))] = [AV.sl (ints x) x.length r, AV.sl (ints q) q.length r', AV.sl (ints q) q.length r', I (↑q.length : Int), I (↑(j + (1 : Nat)) : Int)] ∧ j + (1 : Nat) ≤ x.length ∧ ∀ (i : Nat), i < j + (1 : Nat) → qP x q i)) (by kernel_rfl) ?_⟩
          refine ⟨by first | with_reducible assumption | omega | assumption, ?_⟩
          refine ⟨by first | exact ix_ints (by kernel_rfl) c1 z1 | exact ix_ints (by kernel_rfl) hz' z2, ?_⟩
          refine ⟨by first | exact ld_ints (by kernel_rfl) (by kernel_rfl) (by omega) | exact ldm_ints (by kernel_rfl) (by kernel_rfl) (by first | omega | (simp; omega)), ?_⟩
          refine ⟨by first | with_reducible assumption | omega | assumption, ?_⟩
          refine ⟨by first | with_reducible assumption | omega | assumption, ?_⟩
          refine ⟨by first | exact ix_ints (by kernel_rfl) c1 z1 | exact ix_ints (by kernel_rfl) hz' z2, ?_⟩
          refine ⟨by first | exact ld_ints (by kernel_rfl) (by kernel_rfl) (by omega) | exact ldm_ints (by kernel_rfl) (by kernel_rfl) (by first | omega | (simp; omega)), ?_⟩
          refine ⟨by first | with_reducible assumption | omega | assumption, ?_⟩
          refine ⟨wr _ (by omega) (by omega), ?_⟩
          refine ⟨by first | with_reducible assumption | omega | assumption, ?_⟩
          refine ⟨by first | with_reducible assumption | omega | assumption, ?_⟩
          exact ⟨rfl, rfl, c1, hk⟩
  · have hz : (q.length : Int) ≤ j := by omega
    have hj' : j = q.length := by omega
    subst hj'
    have hk : quB x q = decide (q.length = x.length) := by
      by_cases h : q.length = x.length
      · rw [decide_eq_true h]; exact quB_t.2 ⟨h, fun i hi => ha i (by omega)⟩
      · rw [decide_eq_false h]; exact quB_len h
    refine ⟨[Ans.o (Orc.b false)], fun u => of_eq ((↑q.length : Int) ≤ (↑q.length : Int) ∧ (36 : Nat) = (36 : Nat) ∧ hits [Out.mk Unit AX.ret [(4 : Nat)] (fun x_1 => quB x q = false) (fun x => [AV.bool false]) (fun x => H.nil) fun x => [], Out.mk Unit (AX.exit (0 : Nat)) [(0 : Nat), (1 : Nat)] (fun x_1 => quB x q = decide (q.length = x.length)) (fun x_1 => [ls x r, ls q r']) (fun x => H.nil) fun x => []] (AX.exit (0 : Nat)) [AV.sl (ints x) x.length r, AV.sl (ints q) q.length r', u (2 : Nat), u (3 : Nat), u (4 : Nat), u (5 : Nat), u (6 : Nat), AV.sl (ints q) q.length r', I (↑q.length : Int), I (↑q.length : Int), AV.bool false, u (11 : Nat), u (12 : Nat), u (13 : Nat), u (14 : Nat), u (15 : Nat), u (16 : Nat), u (17 : Nat), u (18 : Nat), u (19 : Nat), u (20 : Nat), u (21 : Nat), u (22 : Nat), u (23 : Nat), u (24 : Nat), u (25 : Nat), u (26 : Nat), u (27 : Nat), u (28 : Nat), u (29 : Nat), u (30 : Nat), u (31 : Nat), u (32 : Nat), u (33 : Nat), u (34 : Nat), u (35 : Nat)] (H.mk [] [] [])) (by kernel_rfl) ?_⟩
    refine ⟨by first | with_reducible assumption | omega | assumption, ?_⟩
    refine ⟨by first | with_reducible assumption | omega | assumption, ?_⟩
    exact .inr (.inl ⟨(), hk, rfl, rfl, rfl⟩)
theorem ok39 : FokM Try.prog none1 39 Try.f39 := ⟨mixed, by kernel_rfl, by kernel_rfl, by kernel_rfl, by kernel_rfl⟩
theorem r39 (x : List Int) (r : Room) (q : List Int) (r' : Room) (hp : (lim x.length ∧ rok x r) ∧ lim q.length ∧ rok q r') : Body ⟨Try.prog, Sof (P := Try.prog) [], Pof (P := Try.prog) [], H.nil.base, 300⟩ none1 Try.f39 [ls x r, ls q r'] .nil (.bool (quB x q), .nil) := by
  obtain ⟨⟨h3, h4⟩, h5, h6⟩ := hp
  by_cases he : q.length = x.length
  · have he' : (q.length : Int) = x.length := by omega
    refine body_s ([Ans.loop [(0 : Nat), (1 : Nat), (7 : Nat), (8 : Nat), (9 : Nat)] [Out.mk Unit AX.ret [(4 : Nat)] (fun x_1 => quB x q = false) (fun x => [AV.bool false]) (fun x => H.nil) fun y => [], Out.mk Unit (AX.exit (0 : Nat)) [(0 : Nat), (1 : Nat)] (fun x_1 => quB x q = decide (q.length = x.length)) (fun x_1 => [ls x r, ls q r']) (fun x => H.nil) fun y => [Ans.o (Orc.b true)]]]) (LoopS (Env.mk Try.prog (Sof (P := Try.prog) []) (Pof (P := Try.prog) []) H.nil.base (300 : Nat)) (loopAt Try.f39 (0 : Nat)) (36 : Nat) [(0 : Nat), (1 : Nat), (7 : Nat), (8 : Nat), (9 : Nat)] [AV.sl (ints x) x.length r, AV.sl (ints q) q.length r', AV.sl (ints q) q.length r', I (↑q.length : Int), I 0] (H.mk [] [] []) [Out.mk Unit AX.ret [(4 : Nat)] (fun x_1 => quB x q = false) (fun x => [AV.bool false]) (fun x => H.nil) fun y => [], Out.mk Unit (AX.exit (0 : Nat)) [(0 : Nat), (1 : Nat)] (fun x_1 => quB x q = decide (q.length = x.length)) (fun x_1 => [ls x r, ls q r']) (fun x => H.nil) fun y => [Ans.o (Orc.b true)]] ∧ (∀ (y : Unit), quB x q = false → ∀ (u : Nat → AV), (AV.bool false, H.mk [] [] []) = (AV.bool (quB x q), H.mk [] [] [])) ∧ (∀ (y : Unit), quB x q = decide (q.length = x.length) → ∀ (u : Nat → AV), (↑q.length : Int) = (↑x.length : Int) ∧ (AV.bool true, H.mk [] [] []) = (AV.bool (quB x q), H.mk [] [] [])) ∧ True) (by kernel_rfl) ?_
    refine ⟨lp39 x q r r' h3 h5 h4 h6, ?_⟩
    refine And.intro ?_ ?_
    · skip
      intro y
      intro w1
      intro u
      first | exact congrArg (fun b => (AV.bool b, H.nil)) (by with_reducible assumption : quB x q = false).symm | (rw [(by with_reducible assumption : quB x q = decide (q.length = x.length)), decide_eq_true he])
    · skip
      refine And.intro ?_ ?_
      · skip
        intro y
        intro w1
        intro u
        refine ⟨by first | with_reducible assumption | omega | assumption, ?_⟩
        first | exact congrArg (fun b => (AV.bool b, H.nil)) (by with_reducible assumption : quB x q = false).symm | (rw [(by with_reducible assumption : quB x q = decide (q.length = x.length)), decide_eq_true he])
      · skip
        trivial
  · have he' : (q.length : Int) ≠ x.length := by omega
    rw [quB_len he]
    refine body_s ([Ans.loop [(0 : Nat), (1 : Nat), (7 : Nat), (8 : Nat), (9 : Nat)] [Out.mk Unit AX.ret [(4 : Nat)] (fun x_1 => quB x q = false) (fun x => [AV.bool false]) (fun x => H.nil) fun y => [], Out.mk Unit (AX.exit (0 : Nat)) [(0 : Nat), (1 : Nat)] (fun x_1 => quB x q = decide (q.length = x.length)) (fun x_1 => [ls x r, ls q r']) (fun x => H.nil) fun y => [Ans.o (Orc.b false)]]]) (LoopS (Env.mk Try.prog (Sof (P := Try.prog) []) (Pof (P := Try.prog) []) H.nil.base (300 : Nat)) (loopAt Try.f39 (0 : Nat)) (36 : Nat) [(0 : Nat), (1 : Nat), (7 : Nat), (8 : Nat), (9 : Nat)] [AV.sl (ints x) x.length r, AV.sl (ints q) q.length r', AV.sl (ints q) q.length r', I (↑q.length : Int), I 0] (H.mk [] [] []) [Out.mk Unit AX.ret [(4 : Nat)] (fun x_1 => quB x q = false) (fun x => [AV.bool false]) (fun x => H.nil) fun y => [], Out.mk Unit (AX.exit (0 : Nat)) [(0 : Nat), (1 : Nat)] (fun x_1 => quB x q = decide (q.length = x.length)) (fun x_1 => [ls x r, ls q r']) (fun x => H.nil) fun y => [Ans.o (Orc.b false)]] ∧ (∀ (y : Unit), quB x q = false → ∀ (u : Nat → AV), (AV.bool false, H.mk [] [] []) = (AV.bool false, H.mk [] [] [])) ∧ (∀ (y : Unit), quB x q = decide (q.length = x.length) → ∀ (u : Nat → AV), (↑q.length : Int) ≠ (↑x.length : Int) ∧ (AV.bool false, H.mk [] [] []) = (AV.bool false, H.mk [] [] [])) ∧ True) (by kernel_rfl) ?_
    refine ⟨lp39 x q r r' h3 h5 h4 h6, ?_⟩
    refine And.intro ?_ ?_
    · skip
      intro y
      intro w1
      intro u
      first | rfl | (exfalso; omega)
    · skip
      refine And.intro ?_ ?_
      · skip
        intro y
        intro w1
        intro u
        refine ⟨by first | with_reducible assumption | omega | assumption, ?_⟩
        first | rfl | (exfalso; omega)
      · skip
        trivial
noncomputable def c39 : PCtr Try.prog := sctr ok39 (X := List Int × Room × List Int × Room) (fun x => [ls x.1 x.2.1, ls x.2.2.1 x.2.2.2]) (fun x => (lim x.1.length ∧ rok x.1 x.2.1) ∧ lim x.2.2.1.length ∧ rok x.2.2.1 x.2.2.2) (fun x => .bool (quB x.1 x.2.2.1)) (by intro x y e _ _; simp [Int.natCast_inj] at e; simp [e]) (fun x => by simp [AV.bnds, AV.bnd, AV.wk, rm_wk_bnd]) (fun x => by first | rfl | (simp [AV.bnd, rm_wk_bnd]; done)  | (simp [AV.bnd, AV.bnds, rm_wk_bnd]; done) | simp [AV.bnd, AV.bnds, Room.bnd, rm_wk_bnd]) (fun x hx => ⟨_, _, _, .nil, r39 (x.1) (x.2.1).wk (x.2.2.1) (x.2.2.2).wk (by first | exact hx | (simp only [rok_wk]; exact hx) | (simp only [rok_wk, lst_wk]; exact hx) | (simp only [rok_wk, lst_wk, lsn_wk]; exact hx))⟩)
end Go.Proofs.Gss

