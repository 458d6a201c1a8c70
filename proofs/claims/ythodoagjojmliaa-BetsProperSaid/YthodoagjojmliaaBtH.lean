/- Layer 9: fractions copied, compared and reduced. -/
import Derived.Test.YthodoagjojmliaaBtG
import Derived.Test.YthodoagjojmliaaVm7
import Derived.KernelRfl
set_option linter.unusedSimpArgs false
set_option linter.unusedVariables false
set_option linter.unnecessarySimpa false
set_option maxHeartbeats 4000000
set_option maxRecDepth 100000
namespace Go.Proofs.Bts
open Go Go.VM

theorem no_ne : Room.no ≠ Room.nil := by decide
theorem leave_bs (bs : List (List AV)) {v : AV} (hb : v.bnd 0 0 0 = true) : leave ⟨0, 0, 0⟩ v ⟨bs, [], []⟩ = (v, .nil) := by
  simp [leave, hb, H.nil]
/-- the room of a copy -/
def rcl : Room → Room
  | .nil => .nil
  | _ => .no
theorem rcl_rok {α : Type} {l : List α} {r : Room} (h : rok l r) : rok l (rcl r) := fun hne => by
  have := h hne
  cases r <;> simp_all [rcl]
/-- a contract at one argument -/
noncomputable def at1 (c : PCtr Try.prog) (x : c.X) (hx : c.pre x) (xs : List AV) (v : AV) (ha : c.args x = xs) (hv : c.v x = v) : PCtr Try.prog where
  f := c.f
  X := Unit
  args _ := xs
  pre _ := True
  v _ := v
  det _ _ _ _ _ := rfl
  ok _ _ := by subst ha; subst hv; exact c.ok x hx
abbrev emp (l : List Pr) (r : Room) : Prop := r = .e → l = []
theorem ok58 : FokM Try.prog none1 58 Try.f58 := ⟨mixed, by kernel_rfl, by kernel_rfl, by kernel_rfl, by kernel_rfl⟩
theorem r58 (x : Pr) (l : List Pr) (n : Nat) (hn : (x :: l).length = n) (hb : n ≤ 1000000000) : Body (En6 []) none1 Try.f58 [.sl (pairsA (x :: l)) n .no] .nil (.sl (pairsA (x :: l)) n (.tok 0 2), ⟨[], [n], []⟩) := by
  have h0 : n ≠ 0 := by subst hn; simp
  refine body_s ([Ans.o (Orc.val 7 (AV.sl (pairsA (x :: l)) n (Room.tok 0 2)) (H.mk [] [n] []))]) (aAppend Try.prog (23 : Nat) (23 : Nat) (AV.sl [] (0 : Nat) Room.full) (AV.sl (pairsA (x :: l)) n Room.no) (H.mk [] [] []) = some (AV.sl (pairsA (x :: l)) n (Room.tok 0 2), H.mk [] [n] []) ∧ leave (Base.mk H.nil.blk.length H.nil.toks.length H.nil.maps.length) (AV.sl (pairsA (x :: l)) n (Room.tok 0 2)) (H.mk [] [n] []) = (AV.sl (pairsA (x :: l)) n (Room.tok 0 2), H.mk [] [n] [])) (by kernel_rfl) ?_
  refine ⟨app_new2 (by kernel_rfl) h0 hn (by omega), ?_⟩
  exact leave_pairs _ _
theorem r58z : Body (En6 []) none1 Try.f58 [.sl (pairsA []) 0 .no] .nil (.sl [] 0 .full, .nil) := by
  refine body_s ([]) ((AV.sl [] (0 : Nat) Room.full, H.mk [] [] []) = (AV.sl [] (0 : Nat) Room.full, H.mk [] [] [])) (by kernel_rfl) ?_
  first | with_reducible rfl | (refine bleaf_t ?_; omega) | (refine bleaf_f ?_; omega) | (refine ileaf ?_; omega) | rfl | (exfalso; omega)
theorem r58e : Body (En6 []) none1 Try.f58 [.sl (pairsA []) 0 .e] .nil (.sl [] 0 .full, .nil) := by
  refine body_s ([]) ((AV.sl [] (0 : Nat) Room.full, H.mk [] [] []) = (AV.sl [] (0 : Nat) Room.full, H.mk [] [] [])) (by kernel_rfl) ?_
  first | with_reducible rfl | (refine bleaf_t ?_; omega) | (refine bleaf_f ?_; omega) | (refine ileaf ?_; omega) | rfl | (exfalso; omega)
theorem r58n : Body (En6 []) none1 Try.f58 [.sl (pairsA []) 0 .nil] .nil (.sl [] 0 .nil, .nil) := by
  refine body_s ([]) ((AV.sl [] (0 : Nat) Room.nil, H.mk [] [] []) = (AV.sl [] (0 : Nat) Room.nil, H.mk [] [] [])) (by kernel_rfl) ?_
  first | with_reducible rfl | (refine bleaf_t ?_; omega) | (refine bleaf_f ?_; omega) | (refine ileaf ?_; omega) | rfl | (exfalso; omega)
theorem clone_nop (l : List Pr) (n : Nat) (hn : l.length = n) (hb : n ≤ 1000000000) (H : H) : CallOk Try.prog 58 [.sl (pairsA l) n .no] H (.sl (pairsA l) n .no) H := by
  subst hn
  cases l with
  | nil => exact pure_call ((r58z.run ok58 .nil rfl).drop rfl) rfl rfl H
  | cons x l =>
    have := ((r58 x l _ rfl hb).run ok58 .nil rfl).drop (by show AV.plains (pairsA (x :: l)) = true; exact plains_pairs _)
    simp only [AV.wkd, wkds_pairs, Room.wk] at this
    exact pure_call this (by simp [AV.bnds, AV.bnd, Room.bnd, -pairsA_cons]) (by simp [AV.bnd, Room.bnd, -pairsA_cons]) H
/-- 'Clone' of pairs -/
noncomputable def c58 : PCtr Try.prog where
  f := 58
  X := List Pr × Room × Nat
  args x := [.sl (pairsA x.1) x.2.2 x.2.1]
  pre x := x.1.length = x.2.2 ∧ x.2.2 ≤ 1000000000 ∧ rok x.1 x.2.1 ∧ emp x.1 x.2.1
  v x := .sl (pairsA x.1) x.2.2 (rcl x.2.1)
  det := by
    rintro ⟨l, r, n⟩ ⟨l', r', n'⟩ e _ _
    simp only [List.cons.injEq, AV.sl.injEq, and_true] at e
    obtain ⟨e1, rfl, rfl⟩ := e
    rw [pairsA_inj e1]
  ok := by
    rintro ⟨l, r, n⟩ ⟨hn, hb, hr, he⟩
    refine ⟨ok58.call, fun H => ?_⟩
    have hno := clone_nop l n hn hb H
    cases r with
    | nil =>
      have : l = [] := Classical.byContradiction fun h => hr h rfl
      subst this
      simp at hn; subst hn
      exact pure_call ((r58n.run ok58 .nil rfl).drop rfl) rfl rfl H
    | e =>
      have := he rfl
      subst this
      simp at hn; subst hn
      exact pure_call ((r58e.run ok58 .nil rfl).drop rfl) rfl rfl H
    | no => exact hno
    | full => exact CallOk.wk (args := [.sl (pairsA l) n .full]) hno
    | tok t z => exact CallOk.wk (args := [.sl (pairsA l) n (.tok t z)]) hno
noncomputable def c58n : PCtr Try.prog := at1 c58 ([], .nil, 0) ⟨rfl, by decide, fun h => absurd rfl h, fun _ => rfl⟩ [.sl [] 0 .nil] (.sl [] 0 .nil) rfl rfl
noncomputable def c58e : PCtr Try.prog := at1 c58 ([], .e, 0) ⟨rfl, by decide, fun h => absurd rfl h, fun _ => rfl⟩ [.sl [] 0 .e] (.sl [] 0 .no) rfl rfl
abbrev cutp (l : List Pr) : List Pr := l.take 8
theorem ok21 : FokM Try.prog none1 21 Try.f21 := ⟨mixed, by kernel_rfl, by kernel_rfl, by kernel_rfl, by kernel_rfl⟩
theorem r21 (l : List Pr) (hb : lim l.length) : Body (En6 [c58.to]) none1 Try.f21 [pz l .no] .nil (pz (cutp l) .no, .nil) := by
  have hk : (l.take (pick2 false (l.length : Int) 8).toNat) = cutp l ∧ (pick2 false (l.length : Int) 8).toNat = (cutp l).length ∧ 0 ≤ pick2 false (l.length : Int) 8 ∧ pick2 false (l.length : Int) 8 ≤ 8 ∧ pick2 false (l.length : Int) 8 ≤ l.length := by
    simp only [pick2, Bool.false_eq_true, if_false, cutp, List.length_take]
    by_cases h : (8 : Int) < l.length
    · rw [if_pos h]; refine ⟨rfl, by simp; omega, by omega, by omega, by omega⟩
    · rw [if_neg h]
      have : l.length ≤ 8 := by omega
      refine ⟨?_, by simp; omega, by omega, by omega, by omega⟩
      rw [List.take_of_length_le this, List.take_of_length_le (by simp)]
  have p58 : (l.take (pick2 false (l.length : Int) 8).toNat).length = (pick2 false (l.length : Int) 8).toNat ∧ (pick2 false (l.length : Int) 8).toNat ≤ 1000000000 ∧ rok (l.take (pick2 false (l.length : Int) 8).toNat) .no ∧ emp (l.take (pick2 false (l.length : Int) 8).toNat) .no := ⟨by rw [hk.1, hk.2.1], by omega, fun _ => no_ne, fun h => by cases h⟩
  refine body_s ([Ans.o (Orc.val 7 (AV.sl (pairsA (List.take (pick2 false (↑l.length : Int) (8 : Int)).toNat l)) (pick2 false (↑l.length : Int) (8 : Int)).toNat Room.no) H.nil), Ans.o (Orc.val 8 (AV.sl (pairsA (List.take (pick2 false (↑l.length : Int) (8 : Int)).toNat l)) (pick2 false (↑l.length : Int) (8 : Int)).toNat Room.no) (H.mk [] [] []))]) (aSlice Try.prog (23 : Nat) (AV.sl (pairsA l) l.length Room.no) none (some (I (pick2 false (↑l.length : Int) (8 : Int)))) none (H.mk [] [] []) = some (AV.sl (pairsA (List.take (pick2 false (↑l.length : Int) (8 : Int)).toNat l)) (pick2 false (↑l.length : Int) (8 : Int)).toNat Room.no) ∧ aCall (Sof [c58.to]) (AV.fn (Fn.func (58 : Nat)) [] []) [AV.sl (pairsA (List.take (pick2 false (↑l.length : Int) (8 : Int)).toNat l)) (pick2 false (↑l.length : Int) (8 : Int)).toNat Room.no] (H.mk [] [] []) = some (AV.sl (pairsA (List.take (pick2 false (↑l.length : Int) (8 : Int)).toNat l)) (pick2 false (↑l.length : Int) (8 : Int)).toNat Room.no, H.mk [] [] []) ∧ leave (Base.mk H.nil.blk.length H.nil.toks.length H.nil.maps.length) (AV.sl (pairsA (List.take (pick2 false (↑l.length : Int) (8 : Int)).toNat l)) (pick2 false (↑l.length : Int) (8 : Int)).toNat Room.no) (H.mk [] [] []) = (AV.sl (pairsA (cutp l)) (cutp l).length Room.no, H.mk [] [] [])) (by kernel_rfl) ?_
  refine ⟨sl_pairs (by kernel_rfl) hk.2.2.1 hk.2.2.2.2, ?_⟩
  refine ⟨acall_hit (c := c58.to) (l.take (pick2 false (l.length : Int) 8).toNat, .no, (pick2 false (l.length : Int) 8).toNat) _ rfl p58, ?_⟩
  (rw [hk.1, hk.2.1]; exact leave_bs [] (by simp [AV.bnd, Room.bnd]))
theorem r21n : Body (En6 [c58n.to]) none1 Try.f21 [pz [] .nil] .nil (pz [] .nil, .nil) := by
  refine body_s ([Ans.o (Orc.val 8 (AV.sl [] (0 : Nat) Room.nil) (H.mk [] [] []))]) (aCall (Sof [c58n.to]) (AV.fn (Fn.func (58 : Nat)) [] []) [AV.sl [] (0 : Nat) Room.nil] (H.mk [] [] []) = some (AV.sl [] (0 : Nat) Room.nil, H.mk [] [] []) ∧ (AV.sl [] (0 : Nat) Room.nil, H.mk [] [] []) = (AV.sl (pairsA []) (0 : Nat) Room.nil, H.mk [] [] [])) (by kernel_rfl) ?_
  refine ⟨acall_hit (c := c58n.to) () _ rfl trivial, ?_⟩
  first | with_reducible rfl | (refine bleaf_t ?_; omega) | (refine bleaf_f ?_; omega) | (refine ileaf ?_; omega) | rfl | (exfalso; omega)
theorem r21e : Body (En6 [c58e.to]) none1 Try.f21 [pz [] .e] .nil (pz [] .no, .nil) := by
  refine body_s ([Ans.o (Orc.val 8 (AV.sl [] (0 : Nat) Room.no) (H.mk [] [] []))]) (aCall (Sof [c58e.to]) (AV.fn (Fn.func (58 : Nat)) [] []) [AV.sl [] (0 : Nat) Room.e] (H.mk [] [] []) = some (AV.sl [] (0 : Nat) Room.no, H.mk [] [] []) ∧ (AV.sl [] (0 : Nat) Room.no, H.mk [] [] []) = (AV.sl (pairsA []) (0 : Nat) Room.no, H.mk [] [] [])) (by kernel_rfl) ?_
  refine ⟨acall_hit (c := c58e.to) () _ rfl trivial, ?_⟩
  first | with_reducible rfl | (refine bleaf_t ?_; omega) | (refine bleaf_f ?_; omega) | (refine ileaf ?_; omega) | rfl | (exfalso; omega)
/-- 'fracs' -/
noncomputable def c21 : PCtr Try.prog where
  f := 21
  X := List Pr × Room
  args x := [pz x.1 x.2]
  pre x := lim x.1.length ∧ rok x.1 x.2 ∧ emp x.1 x.2
  v x := pz (cutp x.1) (rcl x.2)
  det := by
    rintro ⟨l, r⟩ ⟨l', r'⟩ e _ _
    simp only [List.cons.injEq, AV.sl.injEq, and_true] at e
    obtain ⟨e1, _, rfl⟩ := e
    rw [pairsA_inj e1]
  ok := by
    rintro ⟨l, r⟩ ⟨hb, hr, he⟩
    refine ⟨ok21.call, fun H => ?_⟩
    have hno : CallOk Try.prog 21 [pz l .no] H (pz (cutp l) .no) H := pure_call ((r21 l hb).run ok21 (.pure _ .nil) rfl) (by simp [AV.bnds, AV.bnd, Room.bnd]) (by simp [AV.bnd, Room.bnd]) H
    cases r with
    | nil =>
      have : l = [] := Classical.byContradiction fun h => hr h rfl
      subst this
      exact pure_call (r21n.run ok21 (.pure _ .nil) rfl) rfl rfl H
    | e =>
      have := he rfl
      subst this
      exact pure_call (r21e.run ok21 (.pure _ .nil) rfl) rfl rfl H
    | no => exact hno
    | full => exact CallOk.wk (args := [pz l .full]) hno
    | tok t z => exact CallOk.wk (args := [pz l (.tok t z)]) hno

theorem cutp_id {l : List Pr} (h : l.length ≤ 8) : cutp l = l := List.take_of_length_le h
abbrev hZ2 : H := ⟨[[I 0, I 0]], [], []⟩
abbrev o94 (a b g : Int) : List Out := [.mk Unit (.exit 0) [0, 1, 4, 5] (fun _ => True) (fun _ => [I a, I b, .ptr 0 0, I g]) (fun _ => hZ2) (fun _ => [])]
theorem simp94 : allSimpleM none1 (loopAt Try.f94 0) = true := by kernel_rfl
theorem lp94 (a b : Int) (ha : nn6 (abI a)) (hb : nn6 b) : LoopS (En6 []) (loopAt Try.f94 0) 31 [0, 1, 4, 5, 6] [I a, I b, .ptr 0 0, I (abI a), I b] hZ2 (o94 a b (gcI (abI a) b)) := by
  have hR : Rests (En6 []) none1 := rests mixed .nil
  refine loop_s hR simp94 none (by intro _ h; cases h) (fun j vs H => H = hZ2 ∧ ∃ x y : Int, vs = [I a, I b, .ptr 0 0, I x, I y] ∧ nn6 x ∧ nn6 y ∧ gcI x y = gcI (abI a) b ∧ y.toNat + j ≤ b.toNat) b.toNat ⟨rfl, abI a, b, rfl, ha, hb, rfl, by omega⟩ (by intro _ h; cases h) ?_
  rintro j vs H hj ⟨rfl, x, y, rfl, hx, hy, hg, hle⟩
  by_cases hz : y = 0
  · have e : x = gcI (abI a) b := by
      rw [← hg, hz]
      have hx : 0 ≤ x := hx
      show x = ((Nat.gcd x.toNat 0 : Nat) : Int)
      rw [Nat.gcd_zero_right]; omega
    subst hz
    rw [← e]
    refine ⟨[Ans.o Orc.dflt], fun u => of_eq ((31 : Nat) = (31 : Nat) ∧ hits [Out.mk Unit (AX.exit (0 : Nat)) [(0 : Nat), (1 : Nat), (4 : Nat), (5 : Nat)] (fun x => True) (fun x_1 => [I a, I b, AV.ptr 0 0, I x]) (fun x => hZ2) fun x => []] (AX.exit (0 : Nat)) [I a, I b, u (2 : Nat), u (3 : Nat), AV.ptr 0 0, I x, I 0, u (7 : Nat), u (8 : Nat), u (9 : Nat), u (10 : Nat), u (11 : Nat), u (12 : Nat), u (13 : Nat), u (14 : Nat), u (15 : Nat), u (16 : Nat), u (17 : Nat), I 0, AV.bool false, u (20 : Nat), u (21 : Nat), u (22 : Nat), u (23 : Nat), u (24 : Nat), u (25 : Nat), u (26 : Nat), u (27 : Nat), u (28 : Nat), u (29 : Nat), u (30 : Nat)] (H.mk [[I 0, I 0]] [] [])) (by kernel_rfl) ?_⟩
    refine ⟨by first | with_reducible assumption | omega | assumption, ?_⟩
    exact .inl ⟨(), trivial, rfl, rfl, rfl⟩
  · have hz : y ≠ 0 := hz
    have hx : 0 ≤ x := hx
    have hy : 0 ≤ y := hy
    obtain ⟨X, rfl⟩ : ∃ X : Nat, x = X := ⟨x.toNat, by omega⟩
    obtain ⟨Y, rfl⟩ : ∃ Y : Nat, y = Y := ⟨y.toNat, by omega⟩
    have hm : X % Y < Y := Nat.mod_lt _ (by omega)
    have ev0 : (X : Int).tmod (Y : Int) = ((X % Y : Nat) : Int) := by rw [Int.ofNat_tmod]
    have hg2 : gcI (Y : Nat) ((X % Y : Nat) : Int) = gcI (abI a) b := by
      rw [← hg]
      show ((Nat.gcd (Y : Int).toNat ((X % Y : Nat) : Int).toNat : Nat) : Int) = ((Nat.gcd (X : Int).toNat (Y : Int).toNat : Nat) : Int)
      rw [Int.toNat_natCast, Int.toNat_natCast, Int.toNat_natCast, Nat.gcd_comm X Y, Nat.gcd_rec Y X, Nat.gcd_comm]
    have h1 : nn6 ((X % Y : Nat) : Int) := Int.natCast_nonneg _
    have h2 : ((X % Y : Nat) : Int).toNat + (j + 1) ≤ b.toNat := by rw [Int.toNat_natCast]; rw [Int.toNat_natCast] at hle; omega
    have h3 : nn6 ((Y : Nat) : Int) := Int.natCast_nonneg _
    refine ⟨[Ans.o (Orc.b true), Ans.o (Orc.val 23 (I (↑(X % Y) : Int)) H.nil)], fun u => of_eq ((↑Y : Int) ≠ (0 : Int) ∧ aBin Try.prog BinOp.rem (3 : Nat) (I (↑X : Int)) (I (↑Y : Int)) = some (I (↑(X % Y) : Int)) ∧ (31 : Nat) = (31 : Nat) ∧ j < b.toNat ∧ Keep (H.mk [[I 0, I 0]] [] [] = H.mk [[I 0, I 0]] [] [] ∧ ∃ x y, [I a, I b, AV.ptr 0 0, I (↑Y : Int), I (↑(X % Y) : Int)] = [I a, I b, AV.ptr 0 0, I x, I y] ∧ nn6 x ∧ nn6 y ∧ gcI x y = gcI (abI a) b ∧ y.toNat + (j + (1 : Nat)) ≤ b.toNat)) (by kernel_rfl) ?_⟩
    refine ⟨by first | with_reducible assumption | omega | assumption, ?_⟩
    refine ⟨told_rem (by first | decide | omega) (by with_reducible assumption), ?_⟩
    refine ⟨by first | with_reducible assumption | omega | assumption, ?_⟩
    refine ⟨by first | with_reducible assumption | omega | assumption, ?_⟩
    exact ⟨rfl, _, _, rfl, h3, h1, hg2, h2⟩
theorem ok94 : FokM Try.prog none1 94 Try.f94 := ⟨mixed, by kernel_rfl, by kernel_rfl, by kernel_rfl, by kernel_rfl⟩
theorem r94 (a : Int) (b : Int) (hp : (-9223372036854775807 ≤ a ∧ a ≤ 9223372036854775807) ∧ 1 ≤ b ∧ b ≤ 9223372036854775807) : Body ⟨Try.prog, Sof (P := Try.prog) [], Pof (P := Try.prog) [], H.nil.base, 300⟩ none1 Try.f94 [I a, I b] .nil (.agg [I (lwN a b), I (lwD a b)], .nil) := by
  obtain ⟨⟨a0, a1⟩, b0, b1⟩ := hp
  have ev0 : pick2 true a (0 - a) = abI a := by
    simp only [pick2, if_true, abI]
    have e : 0 - a = -a := by omega
    rw [e]
  have b00 : 0 ≤ b := by omega
  have lp := lp94 a b (abI_nn a) (by show 0 ≤ b; omega)
  have g1 := gcd1 (abI a) b b0
  have g0 : gcI (abI a) b ≠ 0 := by omega
  have d1 := td_le a _ g1
  have d2 := td_le b _ g1
  have ev1 : IntKind.i64.wrap (a.tdiv (gcI (abI a) b)) = lwN a b := wr _ (by by_cases h : 0 ≤ a <;> omega) (by by_cases h : 0 ≤ a <;> omega)
  have ev2 : IntKind.i64.wrap (b.tdiv (gcI (abI a) b)) = lwD a b := wr _ (by omega) (by omega)
  refine body_s ([Ans.o (Orc.b false), Ans.o (Orc.val 16 (I (abI a)) (H.mk [[I 0, I 0]] [] [])), Ans.loop [(0 : Nat), (1 : Nat), (4 : Nat), (5 : Nat), (6 : Nat)] [Out.mk Unit (AX.exit (0 : Nat)) [(0 : Nat), (1 : Nat), (4 : Nat), (5 : Nat)] (fun x => True) (fun x => [I a, I b, AV.ptr 0 0, I (gcI (abI a) b)]) (fun x => hZ2) fun y => []]]) ((0 : Int) ≤ b ∧ IntKind.i64.wrap ((0 : Int) - a) = (0 : Int) - a ∧ aMin true [I a, I ((0 : Int) - a)] = some (I (abI a)) ∧ LoopS (Env.mk Try.prog (Sof (P := Try.prog) []) (Pof (P := Try.prog) []) H.nil.base (300 : Nat)) (loopAt Try.f94 (0 : Nat)) (31 : Nat) [(0 : Nat), (1 : Nat), (4 : Nat), (5 : Nat), (6 : Nat)] [I a, I b, AV.ptr 0 0, I (abI a), I b] (H.mk [[I 0, I 0]] [] []) [Out.mk Unit (AX.exit (0 : Nat)) [(0 : Nat), (1 : Nat), (4 : Nat), (5 : Nat)] (fun x => True) (fun x => [I a, I b, AV.ptr 0 0, I (gcI (abI a) b)]) (fun x => hZ2) fun y => []] ∧ (∀ (y : Unit), True → ∀ (u : Nat → AV), gcI (abI a) b ≠ (0 : Int) ∧ IntKind.i64.wrap (a.tdiv (gcI (abI a) b)) = a.tdiv (gcI (abI a) b) ∧ gcI (abI a) b ≠ (0 : Int) ∧ IntKind.i64.wrap (b.tdiv (gcI (abI a) b)) = b.tdiv (gcI (abI a) b) ∧ (AV.agg [I (a.tdiv (gcI (abI a) b)), I (b.tdiv (gcI (abI a) b))], H.mk [] [] []) = (AV.agg [I (lwN a b), I (lwD a b)], H.mk [] [] [])) ∧ True) (by kernel_rfl) ?_
  refine ⟨by first | with_reducible assumption | omega | assumption, ?_⟩
  refine ⟨wr _ (by omega) (by omega), ?_⟩
  refine ⟨congrArg (fun z => some (I z)) ev0, ?_⟩
  refine ⟨lp, ?_⟩
  refine And.intro ?_ ?_
  · skip
    intro y
    intro w1
    intro u
    refine ⟨by first | with_reducible assumption | omega | assumption, ?_⟩
    refine ⟨wr _ (by omega) (by omega), ?_⟩
    refine ⟨by first | with_reducible assumption | omega | assumption, ?_⟩
    refine ⟨wr _ (by omega) (by omega), ?_⟩
    rfl
  · skip
    trivial
noncomputable def c94 : PCtr Try.prog := sctr ok94 (X := Int × Int) (fun x => [I x.1, I x.2]) (fun x => (-9223372036854775807 ≤ x.1 ∧ x.1 ≤ 9223372036854775807) ∧ 1 ≤ x.2 ∧ x.2 ≤ 9223372036854775807) (fun x => .agg [I (lwN x.1 x.2), I (lwD x.1 x.2)]) (by intro x y e _ _; simp [Int.natCast_inj] at e; simp [e]) (fun x => by simp [AV.bnds, AV.bnd, AV.wk, rm_wk_bnd]) (fun x => by first | rfl | (simp [AV.bnd, rm_wk_bnd]; done)  | (simp [AV.bnd, AV.bnds, rm_wk_bnd]; done) | simp [AV.bnd, AV.bnds, Room.bnd, rm_wk_bnd]) (fun x hx => ⟨_, _, _, .nil, r94 (x.1) (x.2) hx⟩)
end Go.Proofs.Bts

