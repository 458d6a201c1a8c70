/- Layer 9: sums of fractions, by the program. -/
import Derived.Test.YthodoagjojmliaaBtD
import Derived.Test.YthodoagjojmliaaSuM
import Derived.KernelRfl
set_option linter.unusedSimpArgs false
set_option linter.unusedVariables false
set_option linter.unnecessarySimpa false
set_option maxHeartbeats 4000000
set_option maxRecDepth 100000
namespace Go.Proofs.Bts
open Go Go.VM
open Go.Proofs.Sur (i_and i_shl i_shr bit_01)

abbrev Rm := Room
theorem fz_det {a b : List Int} {r s : Room} {d e : Int} (h : fz a r d = fz b s e) : a = b ∧ d = e := by
  simp only [fz, AV.agg.injEq, List.cons.injEq, AV.sl.injEq, AV.int.injEq, and_true, true_and] at h
  exact ⟨ints_inj h.1.1, h.2⟩
theorem r72f (l : List Pr) (r : Room) (hp : pJ l r) (h : ¬ jOK l) : Body (En6 [c118.to, c116p.to]) none1 Try.f72 [pz l r.wk] .nil (.tup [.agg nz, .bool false], .nil) := by
  obtain ⟨h1, h2, h3⟩ := hp
  have p116 : lim l.length ∧ rok l r.wk := ⟨by show l.length ≤ _; omega, by simpa using h2⟩
  by_cases hq : okQ l
  · have la := lp72a l r h1 h2 hq h3
    have hb := okBs_t (l := l) hq
    have hn : ¬ dn l l.length ≤ 10000000000 := fun q => h ⟨hq, q⟩
    refine body_s ([Ans.o (Orc.val 11 (AV.bool true) (H.mk [[AV.sl [] (0 : Nat) Room.nil, I 0]] [] [])), Ans.loop [(0 : Nat), (2 : Nat), (4 : Nat), (15 : Nat), (16 : Nat), (17 : Nat)] [Out.mk (List (List AV)) AX.ret [(2 : Nat), (3 : Nat)] (fun x => (10000000000 : Nat) < dn l l.length) (fun x => [AV.ptr 0 0, AV.bool false]) (fun bs => H.mk (nz :: bs) [] []) fun y => [], Out.mk Unit (AX.exit (0 : Nat)) [(0 : Nat), (2 : Nat), (4 : Nat)] (fun x => dn l l.length ≤ (10000000000 : Nat)) (fun x => [pz l r.wk, AV.ptr 0 0, AV.ptr 1 0]) (fun x => hJ (dn l l.length) []) fun y => [Ans.loop [(2 : Nat), (4 : Nat), (41 : Nat), (42 : Nat), (43 : Nat)] []]]]) (aCall (Sof [c118.to, c116p.to]) (AV.fn (Fn.func (116 : Nat)) [] []) [AV.sl (pairsA l) l.length r.wk, AV.fn (Fn.func (117 : Nat)) [] []] (H.mk [[AV.sl [] (0 : Nat) Room.nil, I 0]] [] []) = some (AV.bool true, H.mk [[AV.sl [] (0 : Nat) Room.nil, I 0]] [] []) ∧ LoopS (Env.mk Try.prog (Sof [c118.to, c116p.to]) (Pof (P := Try.prog) []) H.nil.base (300 : Nat)) (loopAt Try.f72 (0 : Nat)) (62 : Nat) [(0 : Nat), (2 : Nat), (4 : Nat), (15 : Nat), (16 : Nat), (17 : Nat)] [AV.sl (pairsA l) l.length r.wk, AV.ptr 0 0, AV.ptr 1 0, AV.sl (pairsA l) l.length r.wk, I (↑l.length : Int), I 0] (H.mk [[AV.sl [] (0 : Nat) Room.nil, I 0], [AV.sl [] (0 : Nat) Room.nil, I 1]] [] []) [Out.mk (List (List AV)) AX.ret [(2 : Nat), (3 : Nat)] (fun x => (10000000000 : Nat) < dn l l.length) (fun x => [AV.ptr 0 0, AV.bool false]) (fun bs => H.mk (nz :: bs) [] []) fun y => [], Out.mk Unit (AX.exit (0 : Nat)) [(0 : Nat), (2 : Nat), (4 : Nat)] (fun x => dn l l.length ≤ (10000000000 : Nat)) (fun x => [pz l r.wk, AV.ptr 0 0, AV.ptr 1 0]) (fun x => hJ (dn l l.length) []) fun y => [Ans.loop [(2 : Nat), (4 : Nat), (41 : Nat), (42 : Nat), (43 : Nat)] []]] ∧ (∀ (y : List (List AV)), (10000000000 : Nat) < dn l l.length → ∀ (u : Nat → AV), (AV.tup [AV.agg [AV.sl [] (0 : Nat) Room.nil, I 0], AV.bool false], H.mk [] [] []) = (AV.tup [AV.agg [AV.sl [] (0 : Nat) Room.nil, I 0], AV.bool false], H.mk [] [] [])) ∧ (∀ (y : Unit), dn l l.length ≤ (10000000000 : Nat) → ∀ (u : Nat → AV), LoopS (Env.mk Try.prog (Sof [c118.to, c116p.to]) (Pof (P := Try.prog) []) H.nil.base (300 : Nat)) (loopAt Try.f72 (1 : Nat)) (62 : Nat) [(2 : Nat), (4 : Nat), (41 : Nat), (42 : Nat), (43 : Nat)] [AV.ptr 0 0, AV.ptr 1 0, AV.sl (pairsA l) l.length r.wk, I (↑l.length : Int), I 0] (H.mk [[AV.sl [] (0 : Nat) Room.nil, I 0], [AV.sl (ints []) (0 : Nat) Room.nil, I (↑(dn l l.length) : Int)]] [] []) [] ∧ True) ∧ True) (by kernel_rfl) ?_
    refine ⟨acall_b (acall_hit (c := c116p.to) (l, r.wk) _ rfl p116) hb, ?_⟩
    refine ⟨la, ?_⟩
    refine And.intro ?_ ?_
    · skip
      intro y
      intro w1
      intro u
      first | rfl | exact absurd (by assumption) hn
    · skip
      refine And.intro ?_ ?_
      · skip
        intro y
        intro w1
        intro u
        refine ⟨absurd (by assumption) hn, ?_⟩
        trivial
      · skip
        trivial
  · have hb := okBs_f (l := l) hq
    refine body_s ([Ans.o (Orc.val 11 (AV.bool false) (H.mk [[AV.sl [] (0 : Nat) Room.nil, I 0]] [] []))]) (aCall (Sof [c118.to, c116p.to]) (AV.fn (Fn.func (116 : Nat)) [] []) [AV.sl (pairsA l) l.length r.wk, AV.fn (Fn.func (117 : Nat)) [] []] (H.mk [[AV.sl [] (0 : Nat) Room.nil, I 0]] [] []) = some (AV.bool false, H.mk [[AV.sl [] (0 : Nat) Room.nil, I 0]] [] []) ∧ (AV.tup [AV.agg [AV.sl [] (0 : Nat) Room.nil, I 0], AV.bool false], H.mk [] [] []) = (AV.tup [AV.agg [AV.sl [] (0 : Nat) Room.nil, I 0], AV.bool false], H.mk [] [] [])) (by kernel_rfl) ?_
    refine ⟨acall_b (acall_hit (c := c116p.to) (l, r.wk) _ rfl p116) hb, ?_⟩
    rfl
theorem pz_det {l m : List Pr} {r s : Room} (h : pz l r = pz m s) : l = m := by
  simp only [pz, AV.sl.injEq] at h
  exact pairsA_inj h.1
noncomputable def c72t : PCtr Try.prog := sctr ok72 (X := List Pr × Room) (fun x => [pz x.1 x.2]) (fun x => pJ x.1 x.2 ∧ jOK x.1) (fun x => .tup [fz (nums x.1) (rn (nums x.1)) (dn x.1 x.1.length : Nat), .bool true])
  (by rintro ⟨l, r⟩ ⟨m, s⟩ e _ _; rw [pz_det (List.cons.inj e).1]) (fun x => by simp [AV.bnds, AV.bnd, AV.wk, rm_wk_bnd]) (fun x => by simp [AV.bnd, AV.bnds, rm_wk_bnd])
  (fun x hx => ⟨_, _, _, .pure _ (.pure _ .nil), r72t x.1 x.2 hx.1 hx.2⟩)
noncomputable def c72f : PCtr Try.prog := sctr ok72 (X := List Pr × Room) (fun x => [pz x.1 x.2]) (fun x => pJ x.1 x.2 ∧ ¬ jOK x.1) (fun x => .tup [.agg nz, .bool false])
  (fun _ _ _ _ _ => rfl) (fun x => by simp [AV.bnds, AV.bnd, AV.wk, rm_wk_bnd]) (fun x => rfl)
  (fun x hx => ⟨_, _, _, .pure _ (.pure _ .nil), r72f x.1 x.2 hx.1 hx.2⟩)

/-- its numbers lie from 0 to a bound -/
abbrev bnI (a : List Int) (B : Int) : Prop := ∀ i, i < a.length → 0 ≤ ia a i ∧ ia a i ≤ B
/-- the sum of those in a set -/
def sS (a : List Int) (s : Nat) (j : Nat) : Int := sI (fun i => ia a i * ((s.testBit i).toNat : Int)) j
theorem bit_b (s i : Nat) : ((s.testBit i).toNat : Int) = 0 ∨ ((s.testBit i).toNat : Int) = 1 := by cases s.testBit i <;> simp
theorem sS_b {a : List Int} {B : Int} (h : bnI a B) (s : Nat) {j : Nat} (hj : j ≤ a.length) : 0 ≤ sS a s j ∧ sS a s j ≤ j * B := sI_b fun i hi => by
  have := h i (by omega)
  rcases bit_b s i with e | e <;> rw [e] <;> omega
abbrev hF (a : List Int) (r : Room) (D : Int) : H := ⟨[[ls a r, I D]], [], []⟩
abbrev o88 (a : List Int) (r : Room) (s : Nat) (D : Int) : List Out := [.mk Unit (.exit 0) [5] (fun _ => True) (fun _ => [I (sS a s a.length)]) (fun _ => hF a r D) (fun _ => [])]
theorem simp88 : allSimpleM none1 (loopAt Try.f88 0) = true := by kernel_rfl
abbrev pS (a : List Int) (r : Room) (s : Nat) : Prop := (a.length ≤ 60 ∧ rok a r) ∧ s < 4611686018427387904 ∧ bnI a 100000000000
theorem lp88 (a : List Int) (r : Room) (s : Nat) (D : Int) (hp : pS a r s) :
    LoopS (En6 []) (loopAt Try.f88 0) 26 [1, 5, 9, 10, 11] [I s, I 0, ls a r, I a.length, I 0] (hF a r D) (o88 a r s D) := by
  have hR : Rests (En6 []) none1 := rests mixed .nil
  obtain ⟨⟨h6, hr0⟩, hs, hb⟩ := hp
  refine loop_s hR simp88 none (by intro _ h; cases h) (fun j vs h => h = hF a r D ∧ vs = [I s, I (sS a s j), ls a r, I a.length, I (j : Nat)]) a.length ⟨rfl, rfl⟩ (by intro _ h; cases h) ?_
  rintro j vs h hj ⟨rfl, rfl⟩
  by_cases hz : (j : Int) < a.length
  · have hz' : j < a.length := by omega
    have hr := rok_idx hr0 hz'
    have ev0 := wj1 (j := j) (by omega)
    have ev1 : Int.fdiv (s : Int) (2 ^ min ((j : Int)).toNat IntKind.i64.bits) = ((s >>> j : Nat) : Int) := i_shr (by omega)
    have hle : s >>> j ≤ s := Nat.shiftRight_le s j
    have ev2 : IntKind.i64.wrap ((BitVec.ofInt IntKind.i64.bits ((s >>> j : Nat) : Int) &&& BitVec.ofInt IntKind.i64.bits 1).toNat : Int) = ((s.testBit j).toNat : Int) := by
      have := i_and (a := s >>> j) (b := 1) (by omega) (by decide)
      rw [bit_01] at this; exact this
    have h1 := hb j hz'
    have h2 := sS_b hb s (j := j) (by omega)
    have h3 := sS_b hb s (j := j + 1) (by omega)
    have e1 : sS a s (j + 1) = sS a s j + ia a j * ((s.testBit j).toNat : Int) := rfl
    have ev3 : IntKind.i64.wrap (ia a j * ((s.testBit j).toNat : Int)) = ia a j * ((s.testBit j).toNat : Int) := by
      rcases bit_b s j with e | e <;> rw [e] <;> exact wr _ (by omega) (by omega)
    have ev4 : IntKind.i64.wrap (sS a s j + ia a j * ((s.testBit j).toNat : Int)) = sS a s (j + 1) := by rw [← e1]; exact wr _ (by omega) (by omega)
    refine ⟨[Ans.o (Orc.b true), Ans.o (Orc.val 14 (AV.cptr (ints (List.drop j a))) H.nil), Ans.o (Orc.val 15 (I (a.getD j i0)) H.nil), Ans.o (Orc.val 20 (I (↑(s >>> j) : Int)) H.nil), Ans.o (Orc.val 21 (I (↑(s.testBit j).toNat : Int)) H.nil), Ans.o (Orc.val 22 (I (ia a j * (↑(s.testBit j).toNat : Int))) H.nil), Ans.o (Orc.val 23 (I (sS a s (j + (1 : Nat)))) H.nil), Ans.o (Orc.val 24 (I (↑(j + (1 : Nat)) : Int)) H.nil)], fun u => of_eq ((↑j : Int) < (↑a.length : Int) ∧ aIndexAddr Try.prog (36 : Nat) (AV.sl (ints a) a.length r) (I (↑j : Int)) = some (AV.cptr (ints (List.drop j a))) ∧ aLoad Try.prog (3 : Nat) (ints (List.drop j a)) = some (I (a.getD j i0)) ∧ aBin Try.prog BinOp.shr (3 : Nat) (I (↑s : Int)) (I (↑j : Int)) = some (I (↑(s >>> j) : Int)) ∧ aBin Try.prog BinOp.and (3 : Nat) (I (↑(s >>> j) : Int)) (I 1) = some (I (↑(s.testBit j).toNat : Int)) ∧ aBin Try.prog BinOp.mul (3 : Nat) (I (a.getD j i0)) (I (↑(s.testBit j).toNat : Int)) = some (I (ia a j * (↑(s.testBit j).toNat : Int))) ∧ aBin Try.prog BinOp.add (3 : Nat) (I (sS a s j)) (I (ia a j * (↑(s.testBit j).toNat : Int))) = some (I (sS a s (j + (1 : Nat)))) ∧ aBin Try.prog BinOp.add (3 : Nat) (I (↑j : Int)) (I 1) = some (I (↑(j + (1 : Nat)) : Int)) ∧ (26 : Nat) = (26 : Nat) ∧ j < a.length ∧ Keep (H.mk [[AV.sl (ints a) a.length r, I D]] [] [] = H.mk [[AV.sl (ints a) a.length r, I D]] [] [] ∧ [I (↑s : Int), I (sS a s (j + (1 : Nat))), AV.sl (ints a) a.length r, I (↑a.length : Int), I (↑(j + (1 : Nat)) : Int)] = [I (↑s : Int), I (sS a s (j + (1 : Nat))), AV.sl (ints a) a.length r, I (↑a.length : Int), I (↑(j + (1 : Nat)) : Int)])) (by kernel_rfl) ?_⟩
    refine ⟨by first | with_reducible assumption | omega | assumption, ?_⟩
    refine ⟨by first | exact ix_ints (by kernel_rfl) (by omega) (by assumption) | exact ix_ints (by kernel_rfl) (by omega) (rok_idx (by assumption) (by omega)), ?_⟩
    refine ⟨by first | exact ld_ints (by kernel_rfl) (by kernel_rfl) (by omega) | exact ldm_ints (by kernel_rfl) (by kernel_rfl) (by first | omega | (simp; omega)), ?_⟩
    refine ⟨by first | exact told_shr (by first | exact Int.natCast_nonneg _ | omega) (by with_reducible assumption) | exact told_shr (by omega) rfl, ?_⟩
    refine ⟨told_and (by with_reducible assumption), ?_⟩
    refine ⟨told_mul (by with_reducible assumption), ?_⟩
    refine ⟨told_add (by with_reducible assumption), ?_⟩
    refine ⟨told_add (by with_reducible assumption), ?_⟩
    refine ⟨by first | with_reducible assumption | omega | assumption, ?_⟩
    refine ⟨by first | with_reducible assumption | omega | assumption, ?_⟩
    exact ⟨rfl, rfl⟩
  · have hz : (a.length : Int) ≤ j := by omega
    have e : j = a.length := by omega
    subst e
    refine ⟨[Ans.o (Orc.b false)], fun u => of_eq ((↑a.length : Int) ≤ (↑a.length : Int) ∧ (26 : Nat) = (26 : Nat) ∧ hits [Out.mk Unit (AX.exit (0 : Nat)) [(5 : Nat)] (fun x => True) (fun x => [I (sS a s a.length)]) (fun x => hF a r D) fun x => []] (AX.exit (0 : Nat)) [u (0 : Nat), I (↑s : Int), u (2 : Nat), u (3 : Nat), u (4 : Nat), I (sS a s a.length), u (6 : Nat), u (7 : Nat), u (8 : Nat), AV.sl (ints a) a.length r, I (↑a.length : Int), I (↑a.length : Int), AV.bool false, u (13 : Nat), u (14 : Nat), u (15 : Nat), u (16 : Nat), u (17 : Nat), u (18 : Nat), u (19 : Nat), u (20 : Nat), u (21 : Nat), u (22 : Nat), u (23 : Nat), u (24 : Nat), u (25 : Nat)] (H.mk [[AV.sl (ints a) a.length r, I D]] [] [])) (by kernel_rfl) ?_⟩
    refine ⟨by first | with_reducible assumption | omega | assumption, ?_⟩
    refine ⟨by first | with_reducible assumption | omega | assumption, ?_⟩
    exact .inl ⟨(), trivial, rfl, rfl, rfl⟩
theorem ok88 : FokM Try.prog none1 88 Try.f88 := ⟨mixed, by kernel_rfl, by kernel_rfl, by kernel_rfl, by kernel_rfl⟩
theorem r88 (a : List Int) (r : Room) (s : Nat) (D : Int) (hp : pS a r s) : Body (En6 []) none1 Try.f88 [fz a r D, I s] .nil (I (sS a s a.length), .nil) := by
  have hl := lp88 a r s D hp
  refine body_s ([Ans.loop [(1 : Nat), (5 : Nat), (9 : Nat), (10 : Nat), (11 : Nat)] [Out.mk Unit (AX.exit (0 : Nat)) [(5 : Nat)] (fun x => True) (fun x => [I (sS a s a.length)]) (fun x => hF a r D) fun y => []]]) (LoopS (Env.mk Try.prog (Sof (P := Try.prog) []) (Pof (P := Try.prog) []) H.nil.base (300 : Nat)) (loopAt Try.f88 (0 : Nat)) (26 : Nat) [(1 : Nat), (5 : Nat), (9 : Nat), (10 : Nat), (11 : Nat)] [I (↑s : Int), I 0, AV.sl (ints a) a.length r, I (↑a.length : Int), I 0] (H.mk [[AV.sl (ints a) a.length r, I D]] [] []) [Out.mk Unit (AX.exit (0 : Nat)) [(5 : Nat)] (fun x => True) (fun x => [I (sS a s a.length)]) (fun x => hF a r D) fun y => []] ∧ (∀ (y : Unit), True → ∀ (u : Nat → AV), (I (sS a s a.length), H.mk [] [] []) = (I (sS a s a.length), H.mk [] [] [])) ∧ True) (by kernel_rfl) ?_
  refine ⟨hl, ?_⟩
  refine And.intro ?_ ?_
  · skip
    intro y
    intro w1
    intro u
    rfl
  · skip
    trivial
noncomputable def c88 : PCtr Try.prog := sctr ok88 (X := List Int × Room × Nat × Int) (fun x => [fz x.1 x.2.1.wk x.2.2.2, I x.2.2.1]) (fun x => pS x.1 x.2.1 x.2.2.1) (fun x => I (sS x.1 x.2.2.1 x.1.length))
  (by
    rintro ⟨a, r, s, d⟩ ⟨b, q, t, e⟩ h _ _
    simp only [List.cons.injEq, and_true, AV.int.injEq, true_and] at h
    obtain ⟨rfl, _⟩ := fz_det h.1
    have : s = t := Int.natCast_inj.1 h.2
    rw [this]) (fun x => by simp [AV.bnds, AV.bnd, AV.wk, rm_wk_bnd]) (fun x => rfl)
  (fun x hx => ⟨_, _, _, .nil, r88 x.1 x.2.1.wk x.2.2.1 x.2.2.2 ⟨⟨hx.1.1, by simpa using hx.1.2⟩, hx.2⟩⟩)
theorem pw_one {n i : Nat} (h : i < n) : ((2 ^ n - 1).testBit i).toNat = 1 := by
  rw [Nat.testBit_two_pow_sub_one]; simp [h]
theorem sS_all (a : List Int) (n : Nat) {j : Nat} (hj : j ≤ n) : sS a (2 ^ n - 1) j = sI (ia a) j := sI_congr fun i hi => by
  rw [pw_one (by omega)]; simp
abbrev pT (a : List Int) (r : Room) : Prop := (a.length ≤ 60 ∧ rok a r) ∧ bnI a 100000000000
theorem ok99 : FokM Try.prog none1 99 Try.f99 := ⟨mixed, by kernel_rfl, by kernel_rfl, by kernel_rfl, by kernel_rfl⟩
theorem r99 (a : List Int) (r : Rm) (D : Int) (hp : pT a r) : Body ⟨Try.prog, Sof (P := Try.prog) [c88.to], Pof (P := Try.prog) [], H.nil.base, 300⟩ none1 Try.f99 [fz a r.wk D] .nil (I (sI (ia a) a.length), .nil) := by
  obtain ⟨⟨h6, hr0⟩, hb⟩ := hp
  have h2 : 2 ^ a.length ≤ 2 ^ 60 := Nat.pow_le_pow_right (by decide) h6
  have h0 : 1 ≤ 2 ^ a.length := Nat.one_le_two_pow
  have ev0 : IntKind.i64.wrap (1 * 2 ^ min ((a.length : Int)).toNat IntKind.i64.bits) = ((2 ^ a.length : Nat) : Int) := by
    have := i_shl (a := 1) (n := a.length) (by omega) (by omega)
    rw [Nat.one_mul] at this
    exact this
  have ev1 : IntKind.i64.wrap (((2 ^ a.length : Nat) : Int) - 1) = ((2 ^ a.length - 1 : Nat) : Int) := by rw [wr _ (by omega) (by omega)]; omega
  have p88 : pS a r (2 ^ a.length - 1) := ⟨⟨h6, hr0⟩, by omega, hb⟩
  rw [← sS_all a a.length (Nat.le_refl _)]
  refine body_s ([Ans.o (Orc.val 7 (I (↑((2 : Nat) ^ a.length) : Int)) H.nil), Ans.o (Orc.val 8 (I (↑((2 : Nat) ^ a.length - (1 : Nat)) : Int)) H.nil), Ans.o (Orc.val 9 (I (sS a ((2 : Nat) ^ a.length - (1 : Nat)) a.length)) (H.mk [[AV.sl (ints a) a.length (Room.wk r), I D]] [] []))]) (aBin Try.prog BinOp.shl (3 : Nat) (I 1) (I (↑a.length : Int)) = some (I (↑((2 : Nat) ^ a.length) : Int)) ∧ aBin Try.prog BinOp.sub (3 : Nat) (I (↑((2 : Nat) ^ a.length) : Int)) (I 1) = some (I (↑((2 : Nat) ^ a.length - (1 : Nat)) : Int)) ∧ aCall (Sof [c88.to]) (AV.fn (Fn.func (88 : Nat)) [] []) [AV.agg [AV.sl (ints a) a.length (Room.wk r), I D], I (↑((2 : Nat) ^ a.length - (1 : Nat)) : Int)] (H.mk [[AV.sl (ints a) a.length (Room.wk r), I D]] [] []) = some (I (sS a ((2 : Nat) ^ a.length - (1 : Nat)) a.length), H.mk [[AV.sl (ints a) a.length (Room.wk r), I D]] [] []) ∧ (I (sS a ((2 : Nat) ^ a.length - (1 : Nat)) a.length), H.mk [] [] []) = (I (sS a ((2 : Nat) ^ a.length - (1 : Nat)) a.length), H.mk [] [] [])) (by kernel_rfl) ?_
  refine ⟨by first | exact told_shl (by first | exact Int.natCast_nonneg _ | omega) (by with_reducible assumption) | exact told_shl (by omega) rfl, ?_⟩
  refine ⟨told_sub (by with_reducible assumption), ?_⟩
  refine ⟨acall_hit (c := c88.to) (a, r, 2 ^ a.length - 1, D) _ rfl p88, ?_⟩
  rfl
noncomputable def c99 : PCtr Try.prog := sctr ok99 (X := List Int × Rm × Int) (fun x => [fz x.1 x.2.1.wk x.2.2]) (fun x => pT x.1 x.2.1) (fun x => I (sI (ia x.1) x.1.length)) (by intro x y e _ _; simp [Int.natCast_inj] at e; simp [e]) (fun x => by simp [AV.bnds, AV.bnd, AV.wk, rm_wk_bnd]) (fun x => by first | rfl | (simp [AV.bnd, rm_wk_bnd]; done)  | (simp [AV.bnd, AV.bnds, rm_wk_bnd]; done) | simp [AV.bnd, AV.bnds, Room.bnd, rm_wk_bnd]) (fun x hx => ⟨_, _, _, .pure c88 (.nil), r99 (x.1) (x.2.1) (x.2.2) hx⟩)
/-- the sum of products -/
def pI (a b : List Int) (j : Nat) : Int := sI (fun i => ia a i * ia b i) j
theorem pI_b {a b : List Int} {A B : Int} (ha : bnI a A) (hb : bnI b B) (hB : 0 ≤ B) {j : Nat} (h1 : j ≤ a.length) (h2 : j ≤ b.length) : 0 ≤ pI a b j ∧ pI a b j ≤ j * (A * B) := sI_b fun i hi => by
  have q1 := ha i (by omega)
  have q2 := hb i (by omega)
  exact ⟨Int.mul_nonneg q1.1 q2.1, Int.mul_le_mul q1.2 q2.2 q2.1 (Int.le_trans q1.1 q1.2)⟩
abbrev h2F (a : List Int) (r : Room) (D : Int) (b : List Int) (q : Room) (E : Int) : H := ⟨[[ls a r, I D], [ls b q, I E]], [], []⟩
abbrev o128 (a : List Int) (r : Room) (D : Int) (b : List Int) (q : Room) (E : Int) : List Out := [.mk Unit (.exit 0) [5] (fun _ => True) (fun _ => [I (pI a b a.length)]) (fun _ => h2F a r D b q E) (fun _ => [])]
theorem simp128 : allSimpleM none1 (loopAt Try.f128 0) = true := by kernel_rfl
abbrev pP (a : List Int) (r : Room) (b : List Int) (q : Room) : Prop := ((a.length ≤ 60 ∧ rok a r) ∧ b.length = a.length ∧ rok b q) ∧ bnI a 30000 ∧ bnI b 30000
theorem lp128 (a : List Int) (r : Room) (D : Int) (b : List Int) (q : Room) (E : Int) (hp : pP a r b q) :
    LoopS (En6 []) (loopAt Try.f128 0) 27 [3, 5, 9, 10, 11] [.ptr 1 0, I 0, ls a r, I a.length, I 0] (h2F a r D b q E) (o128 a r D b q E) := by
  have hR : Rests (En6 []) none1 := rests mixed .nil
  obtain ⟨⟨⟨h6, hr0⟩, hl, hq0⟩, ha, hb⟩ := hp
  refine loop_s hR simp128 none (by intro _ h; cases h) (fun j vs h => h = h2F a r D b q E ∧ vs = [.ptr 1 0, I (pI a b j), ls a r, I a.length, I (j : Nat)]) a.length ⟨rfl, rfl⟩ (by intro _ h; cases h) ?_
  rintro j vs h hj ⟨rfl, rfl⟩
  by_cases hz : (j : Int) < a.length
  · have hz' : j < a.length := by omega
    have hzb : j < b.length := by omega
    have hzb' : (j : Int) < b.length := by omega
    have hr := rok_idx hr0 hz'
    have hr2 := rok_idx hq0 hzb
    have ev0 := wj1 (j := j) (by omega)
    have h1 := ha j hz'
    have h2 := hb j hzb
    have h3 := pI_b ha hb (by decide) (j := j) (by omega) (by omega)
    have h4 := pI_b ha hb (by decide) (j := j + 1) (by omega) (by omega)
    have h5 : 0 ≤ ia a j * ia b j ∧ ia a j * ia b j ≤ 30000 * 30000 := ⟨Int.mul_nonneg h1.1 h2.1, Int.mul_le_mul h1.2 h2.2 h2.1 (by decide)⟩
    have e1 : pI a b (j + 1) = pI a b j + ia a j * ia b j := rfl
    have ev3 : IntKind.i64.wrap (ia a j * ia b j) = ia a j * ia b j := wr _ (by omega) (by omega)
    have ev4 : IntKind.i64.wrap (pI a b j + ia a j * ia b j) = pI a b (j + 1) := by rw [← e1]; exact wr _ (by omega) (by omega)
    refine ⟨[Ans.o (Orc.b true), Ans.o (Orc.val 14 (AV.cptr (ints (List.drop j a))) H.nil), Ans.o (Orc.val 15 (I (a.getD j i0)) H.nil), Ans.o (Orc.val 21 (AV.cptr (ints (List.drop j b))) H.nil), Ans.o (Orc.val 22 (I (b.getD j i0)) H.nil), Ans.o (Orc.val 23 (I (ia a j * ia b j)) H.nil), Ans.o (Orc.val 24 (I (pI a b (j + (1 : Nat)))) H.nil), Ans.o (Orc.val 25 (I (↑(j + (1 : Nat)) : Int)) H.nil)], fun u => of_eq ((↑j : Int) < (↑a.length : Int) ∧ aIndexAddr Try.prog (36 : Nat) (AV.sl (ints a) a.length r) (I (↑j : Int)) = some (AV.cptr (ints (List.drop j a))) ∧ aLoad Try.prog (3 : Nat) (ints (List.drop j a)) = some (I (a.getD j i0)) ∧ aIndexAddr Try.prog (36 : Nat) (AV.sl (ints b) b.length q) (I (↑j : Int)) = some (AV.cptr (ints (List.drop j b))) ∧ aLoad Try.prog (3 : Nat) (ints (List.drop j b)) = some (I (b.getD j i0)) ∧ aBin Try.prog BinOp.mul (3 : Nat) (I (a.getD j i0)) (I (b.getD j i0)) = some (I (ia a j * ia b j)) ∧ aBin Try.prog BinOp.add (3 : Nat) (I (pI a b j)) (I (ia a j * ia b j)) = some (I (pI a b (j + (1 : Nat)))) ∧ aBin Try.prog BinOp.add (3 : Nat) (I (↑j : Int)) (I 1) = some (I (↑(j + (1 : Nat)) : Int)) ∧ (27 : Nat) = (27 : Nat) ∧ j < a.length ∧ Keep (H.mk [[AV.sl (ints a) a.length r, I D], [AV.sl (ints b) b.length q, I E]] [] [] = H.mk [[AV.sl (ints a) a.length r, I D], [AV.sl (ints b) b.length q, I E]] [] [] ∧ [AV.ptr 1 0, I (pI a b (j + (1 : Nat))), AV.sl (ints a) a.length r, I (↑a.length : Int), I (↑(j + (1 : Nat)) : Int)] = [AV.ptr 1 0, I (pI a b (j + (1 : Nat))), AV.sl (ints a) a.length r, I (↑a.length : Int), I (↑(j + (1 : Nat)) : Int)])) (by kernel_rfl) ?_⟩
    refine ⟨by first | with_reducible assumption | omega | assumption, ?_⟩
    refine ⟨by first | exact ix_ints (by kernel_rfl) (by omega) (by assumption) | exact ix_ints (by kernel_rfl) (by omega) (rok_idx (by assumption) (by omega)), ?_⟩
    refine ⟨by first | exact ld_ints (by kernel_rfl) (by kernel_rfl) (by omega) | exact ldm_ints (by kernel_rfl) (by kernel_rfl) (by first | omega | (simp; omega)), ?_⟩
    refine ⟨by first | exact ix_ints (by kernel_rfl) (by omega) (by assumption) | exact ix_ints (by kernel_rfl) (by omega) (rok_idx (by assumption) (by omega)), ?_⟩
    refine ⟨by first | exact ld_ints (by kernel_rfl) (by kernel_rfl) (by omega) | exact ldm_ints (by kernel_rfl) (by kernel_rfl) (by first | omega | (simp; omega)), ?_⟩
    refine ⟨told_mul (by with_reducible assumption), ?_⟩
    refine ⟨told_add (by with_reducible assumption), ?_⟩
    refine ⟨told_add (by with_reducible assumption), ?_⟩
    refine ⟨by first | with_reducible assumption | omega | assumption, ?_⟩
    refine ⟨by first | with_reducible assumption | omega | assumption, ?_⟩
    exact ⟨rfl, rfl⟩
  · have hz : (a.length : Int) ≤ j := by omega
    have e : j = a.length := by omega
    subst e
    refine ⟨[Ans.o (Orc.b false)], fun u => of_eq ((↑a.length : Int) ≤ (↑a.length : Int) ∧ (27 : Nat) = (27 : Nat) ∧ hits [Out.mk Unit (AX.exit (0 : Nat)) [(5 : Nat)] (fun x => True) (fun x => [I (pI a b a.length)]) (fun x => h2F a r D b q E) fun x => []] (AX.exit (0 : Nat)) [u (0 : Nat), u (1 : Nat), u (2 : Nat), AV.ptr 1 0, u (4 : Nat), I (pI a b a.length), u (6 : Nat), u (7 : Nat), u (8 : Nat), AV.sl (ints a) a.length r, I (↑a.length : Int), I (↑a.length : Int), AV.bool false, u (13 : Nat), u (14 : Nat), u (15 : Nat), u (16 : Nat), u (17 : Nat), u (18 : Nat), u (19 : Nat), u (20 : Nat), u (21 : Nat), u (22 : Nat), u (23 : Nat), u (24 : Nat), u (25 : Nat), u (26 : Nat)] (H.mk [[AV.sl (ints a) a.length r, I D], [AV.sl (ints b) b.length q, I E]] [] [])) (by kernel_rfl) ?_⟩
    refine ⟨by first | with_reducible assumption | omega | assumption, ?_⟩
    refine ⟨by first | with_reducible assumption | omega | assumption, ?_⟩
    exact .inl ⟨(), trivial, rfl, rfl, rfl⟩
theorem ok128 : FokM Try.prog none1 128 Try.f128 := ⟨mixed, by kernel_rfl, by kernel_rfl, by kernel_rfl, by kernel_rfl⟩
theorem r128 (a : List Int) (r : Rm) (D : Int) (b : List Int) (q : Rm) (E : Int) (hp : pP a r b q) : Body ⟨Try.prog, Sof (P := Try.prog) [], Pof (P := Try.prog) [], H.nil.base, 300⟩ none1 Try.f128 [fz a r.wk D, fz b q.wk E] .nil (I (pI a b a.length), .nil) := by
  have hl := lp128 a r.wk D b q.wk E ⟨⟨⟨hp.1.1.1, by simpa using hp.1.1.2⟩, hp.1.2.1, by simpa using hp.1.2.2⟩, hp.2⟩
  refine body_s ([Ans.loop [(3 : Nat), (5 : Nat), (9 : Nat), (10 : Nat), (11 : Nat)] [Out.mk Unit (AX.exit (0 : Nat)) [(5 : Nat)] (fun x => True) (fun x => [I (pI a b a.length)]) (fun x => h2F a (Room.wk r) D b (Room.wk q) E) fun y => []]]) (LoopS (Env.mk Try.prog (Sof (P := Try.prog) []) (Pof (P := Try.prog) []) H.nil.base (300 : Nat)) (loopAt Try.f128 (0 : Nat)) (27 : Nat) [(3 : Nat), (5 : Nat), (9 : Nat), (10 : Nat), (11 : Nat)] [AV.ptr 1 0, I 0, AV.sl (ints a) a.length (Room.wk r), I (↑a.length : Int), I 0] (H.mk [[AV.sl (ints a) a.length (Room.wk r), I D], [AV.sl (ints b) b.length (Room.wk q), I E]] [] []) [Out.mk Unit (AX.exit (0 : Nat)) [(5 : Nat)] (fun x => True) (fun x => [I (pI a b a.length)]) (fun x => h2F a (Room.wk r) D b (Room.wk q) E) fun y => []] ∧ (∀ (y : Unit), True → ∀ (u : Nat → AV), (I (pI a b a.length), H.mk [] [] []) = (I (pI a b a.length), H.mk [] [] [])) ∧ True) (by kernel_rfl) ?_
  refine ⟨hl, ?_⟩
  refine And.intro ?_ ?_
  · skip
    intro y
    intro w1
    intro u
    rfl
  · skip
    trivial
noncomputable def c128 : PCtr Try.prog := sctr ok128 (X := List Int × Rm × Int × List Int × Rm × Int) (fun x => [fz x.1 x.2.1.wk x.2.2.1, fz x.2.2.2.1 x.2.2.2.2.1.wk x.2.2.2.2.2]) (fun x => pP x.1 x.2.1 x.2.2.2.1 x.2.2.2.2.1) (fun x => I (pI x.1 x.2.2.2.1 x.1.length)) (by intro x y e _ _; simp [Int.natCast_inj] at e; simp [e]) (fun x => by simp [AV.bnds, AV.bnd, AV.wk, rm_wk_bnd]) (fun x => by first | rfl | (simp [AV.bnd, rm_wk_bnd]; done)  | (simp [AV.bnd, AV.bnds, rm_wk_bnd]; done) | simp [AV.bnd, AV.bnds, Room.bnd, rm_wk_bnd]) (fun x hx => ⟨_, _, _, .nil, r128 (x.1) (x.2.1) (x.2.2.1) (x.2.2.2.1) (x.2.2.2.2.1) (x.2.2.2.2.2) hx⟩)
end Go.Proofs.Bts

