/- Layer 5: the reference's near, count and most. -/
import Derived.Test.YtlomlnkafakloaaDoorSuZ
import Derived.Test.YtlomlnkafakloaaDoorSuK
import Derived.Test.YtlomlnkafakloaaDoorSuE
import Derived.KernelRfl
set_option linter.unusedSimpArgs false
set_option linter.unusedVariables false
set_option linter.unnecessarySimpa false
set_option maxHeartbeats 4000000
set_option maxRecDepth 100000
namespace Go.Proofs.Sur
open Go Go.VM

abbrev o93 (b : W) : List Out := [.mk Unit (.exit 0) [3] (fun _ => True) (fun _ => [I ((bits b).length : Nat)]) (fun _ => .nil) (fun _ => [])]
theorem simp93 : allSimpleM none1 (loopAt Tryd.f93 0) = true := by kernel_rfl
theorem lp93 (b : W) : LoopS (En6 []) (loopAt Tryd.f93 0) 13 [0, 3] [u64A b, I 0] .nil (o93 b) := by
  have hR : Rests (En6 []) none1 := rests mixed .nil
  refine loop_s hR simp93 none (by intro _ h; cases h) (fun j vs h => ∃ t : W, h = .nil ∧ vs = [u64A t, I j] ∧ (bits b).length = j + (bits t).length) 64 ⟨b, rfl, rfl, by simp⟩ (by intro _ h; cases h) ?_
  rintro j vs h hj ⟨t, rfl, rfl, ha⟩
  by_cases hz : t = 0#64
  · have hu : (t.toNat : Int) ≤ 0 := by rw [(w_eq0 t).2 hz]; omega
    have he : (bits b).length = j := by rw [ha, hz, bits_0]; simp
    refine ⟨[Ans.o (Orc.b false)], fun u => of_eq ((↑(BitVec.toNat t) : Int) ≤ (0 : Int) ∧ (13 : Nat) = (13 : Nat) ∧ hits [Out.mk Unit (AX.exit (0 : Nat)) [(3 : Nat)] (fun x => True) (fun x => [I (↑(bits b).length : Int)]) (fun x => H.nil) fun x => []] (AX.exit (0 : Nat)) [AV.int IntKind.u64 (↑(BitVec.toNat t) : Int), u (1 : Nat), u (2 : Nat), I (↑j : Int), AV.int IntKind.u64 (↑(BitVec.toNat t) : Int), AV.bool false, u (6 : Nat), u (7 : Nat), u (8 : Nat), u (9 : Nat), u (10 : Nat), u (11 : Nat), u (12 : Nat)] (H.mk [] [] [])) (by kernel_rfl) ?_⟩
    refine And.intro (by first | with_reducible assumption | omega | assumption) ?_
    refine And.intro (by first | with_reducible assumption | omega | assumption) ?_
    exact .inl ⟨(), trivial, rfl, by rw [he]; rfl, rfl⟩
  · have hu : (0 : Int) < (t.toNat : Int) := by
      have : (t.toNat : Int) ≠ 0 := fun h => hz ((w_eq0 t).1 h)
      omega
    have ev0 := sub_nat t
    have ev1 := w_and t (t - 1#64)
    have hq := bits_cons hz
    have hb := bits_len b
    rw [hq, List.length_cons] at ha
    have ha : (bits b).length = (j + 1) + (bits (cl t)).length := by omega
    have hj2 : j < 64 := by omega
    refine ⟨[Ans.o (Orc.b true), Ans.o (Orc.val (8 : Nat) (AV.int IntKind.u64 (↑(BitVec.toNat (t - BitVec.ofNat (64 : Nat) (1 : Nat))) : Int)) (H.mk [] [] [])), Ans.o (Orc.val (9 : Nat) (AV.int IntKind.u64 (↑(BitVec.toNat (t &&& t - BitVec.ofNat (64 : Nat) (1 : Nat))) : Int)) (H.mk [] [] []))], fun u => of_eq ((0 : Int) < (↑(BitVec.toNat t) : Int) ∧ IntKind.i64.wrap ((↑j : Int) + (1 : Int)) = (↑j : Int) + (1 : Int) ∧ aBin Tryd.prog BinOp.sub (71 : Nat) (AV.int IntKind.u64 (↑(BitVec.toNat t) : Int)) (AV.int IntKind.u64 (1 : Int)) = some (AV.int IntKind.u64 (↑(BitVec.toNat (t - BitVec.ofNat (64 : Nat) (1 : Nat))) : Int)) ∧ aBin Tryd.prog BinOp.and (71 : Nat) (AV.int IntKind.u64 (↑(BitVec.toNat t) : Int)) (AV.int IntKind.u64 (↑(BitVec.toNat (t - BitVec.ofNat (64 : Nat) (1 : Nat))) : Int)) = some (AV.int IntKind.u64 (↑(BitVec.toNat (t &&& t - BitVec.ofNat (64 : Nat) (1 : Nat))) : Int)) ∧ (13 : Nat) = (13 : Nat) ∧ j < (64 : Nat) ∧ Keep (∃ t_1, H.mk [] [] [] = H.mk [] [] [] ∧ [AV.int IntKind.u64 (↑(BitVec.toNat (t &&& t - BitVec.ofNat (64 : Nat) (1 : Nat))) : Int), I ((↑j : Int) + (1 : Int))] = [AV.int IntKind.u64 (↑(BitVec.toNat t_1) : Int), I (↑(j + (1 : Nat)) : Int)] ∧ (bits b).length = j + (1 : Nat) + (bits t_1).length)) (by kernel_rfl) ?_⟩
    refine And.intro (by first | with_reducible assumption | omega | assumption) ?_
    refine And.intro (by exact wr _ (by omega) (by omega)) ?_
    refine And.intro (by exact told_sub (by with_reducible assumption)) ?_
    refine And.intro (by exact told_and (by with_reducible assumption)) ?_
    refine And.intro (by first | with_reducible assumption | omega | assumption) ?_
    refine And.intro (by first | with_reducible assumption | omega | assumption) ?_
    exact ⟨cl t, rfl, rfl, ha⟩
theorem ok93 : FokM Tryd.prog none1 93 Tryd.f93 := ⟨mixed, by kernel_rfl, by kernel_rfl, by kernel_rfl, by kernel_rfl⟩
theorem r93 (b : W) (hp : True) : Body ⟨Tryd.prog, Sof (P := Tryd.prog) [], Pof (P := Tryd.prog) [], H.nil.base, 300⟩ none1 Tryd.f93 [u64A b] .nil (I ((bits b).length : Nat), .nil) := by
  refine body_s ([Ans.loop [(0 : Nat), (3 : Nat)] [Out.mk Unit (AX.exit (0 : Nat)) [(3 : Nat)] (fun x => True) (fun x => [I (↑(bits b).length : Int)]) (fun x => H.nil) fun y => []]]) (LoopS (Env.mk Tryd.prog (Sof (P := Tryd.prog) []) (Pof (P := Tryd.prog) []) H.nil.base (300 : Nat)) (loopAt Tryd.f93 (0 : Nat)) (13 : Nat) [(0 : Nat), (3 : Nat)] [AV.int IntKind.u64 (↑(BitVec.toNat b) : Int), I (0 : Int)] (H.mk [] [] []) [Out.mk Unit (AX.exit (0 : Nat)) [(3 : Nat)] (fun x => True) (fun x => [I (↑(bits b).length : Int)]) (fun x => H.nil) fun y => []] ∧ (∀ (y : Unit), True → ∀ (u : Nat → AV), (I (↑(bits b).length : Int), H.mk [] [] []) = (I (↑(bits b).length : Int), H.mk [] [] [])) ∧ True) (by kernel_rfl) ?_
  refine And.intro (by exact lp93 b) ?_
  refine And.intro ?_ ?_
  · skip
    intro y
    intro w1
    intro u
    first | with_reducible rfl | (refine bleaf_t ?_; omega) | (refine bleaf_f ?_; omega) | (refine ileaf ?_; omega) | rfl | (exfalso; omega)
  · skip
    trivial
noncomputable def c93 : PCtr Tryd.prog := sctr ok93 (X := W) (fun x => [u64A x]) (fun x => True) (fun x => I ((bits x).length : Nat)) (by intro x y e _ _; simp at e; simp [e]) (fun x => by simp [AV.bnds, AV.bnd, AV.wk, rm_wk_bnd]) (fun x => by first | rfl | (simp [AV.bnd, rm_wk_bnd]; done)  | (simp [AV.bnd, AV.bnds, rm_wk_bnd]; done) | simp [AV.bnd, AV.bnds, Room.bnd, rm_wk_bnd]) (fun x hx => ⟨_, _, _, .nil, r93 (x) hx⟩)
abbrev o65 (g : List Int) (k a b : Nat) : List Out :=
  [.mk Unit .ret [8] (fun _ => nrK g k a b = false) (fun _ => [.bool false]) (fun _ => .nil) (fun _ => []), .mk Unit (.exit 0) [] (fun _ => nrK g k a b = true) (fun _ => []) (fun _ => .nil) (fun _ => [])]
theorem simp65 : allSimpleM none1 (loopAt Tryd.f65 0) = true := by kernel_rfl
theorem i_mod {a n : Nat} : Int.tmod (a : Int) (n : Int) = ((a % n : Nat) : Int) := rfl
theorem i_div {a n : Nat} (h : a < 9223372036854775808) : IntKind.i64.wrap (Int.tdiv (a : Int) (n : Int)) = ((a / n : Nat) : Int) := by
  have : Int.tdiv (a : Int) (n : Int) = ((a / n : Nat) : Int) := rfl
  rw [this]; exact i_wrap (Nat.lt_of_le_of_lt (Nat.div_le_self a n) h)
theorem i_modw {a n : Nat} (h : a < 9223372036854775808) : IntKind.i64.wrap (Int.tmod (a : Int) (n : Int)) = ((a % n : Nat) : Int) := by
  rw [i_mod]; exact i_wrap (Nat.lt_of_le_of_lt (Nat.mod_le a n) h)
theorem lp65 (g : List Int) (r : Room) (hg : Gr g) (hr : rok g r) (k a b : Nat) (ha : a < 1000) (hb : b < 1000) (hk : k ≤ 64) :
    LoopS (En6 []) (loopAt Tryd.f65 0) 44 [0, 2, 3, 11, 12] [ls g r, I (a : Int), I (b : Int), I (k : Int), I 0] .nil (o65 g k a b) := by
  have hR : Rests (En6 []) none1 := rests mixed .nil
  have p : 0 < g.length := hg.1.1
  have h6 := hg.1.2
  refine loop_s hR simp65 none (by intro _ h; cases h) (fun j vs h => ∃ x y : Nat, x < 1000 ∧ y < 1000 ∧ h = .nil ∧ vs = [ls g r, I (x : Int), I (y : Int), I (k : Int), I j] ∧ nrK g k a b = nrK g (k - j) x y) k ⟨a, b, ha, hb, rfl, rfl, rfl⟩ (by intro _ h; cases h) ?_
  rintro j vs h hj ⟨x, y, hx, hy, rfl, rfl, hq⟩
  by_cases hz : (j : Int) < k
  · have e : k - j = (k - (j + 1)) + 1 := by omega
    rw [e] at hq
    simp only [nrK] at hq
    have x2 := Nat.mod_lt x p
    have y2 := Nat.mod_lt y p
    have hr' := rok_idx hr x2
    have n0 : (g.length : Int) ≠ 0 := by omega
    have ev0 : Int.tmod (x : Int) (g.length : Int) = ((x % g.length : Nat) : Int) := rfl
    have ev1 : Int.tmod (y : Int) (g.length : Int) = ((y % g.length : Nat) : Int) := rfl
    have ev2 : Int.tdiv (x : Int) (g.length : Int) = ((x / g.length : Nat) : Int) := rfl
    have ev3 : Int.tdiv (y : Int) (g.length : Int) = ((y / g.length : Nat) : Int) := rfl
    have ev6 := i_modw (a := x) (n := g.length) (by omega)
    have ev7 := i_modw (a := y) (n := g.length) (by omega)
    have ev8 := i_div (a := x) (n := g.length) (by omega)
    have ev9 := i_div (a := y) (n := g.length) (by omega)
    have d1 : x / g.length < 1000 := Nat.lt_of_le_of_lt (Nat.div_le_self _ _) hx
    have d2 : y / g.length < 1000 := Nat.lt_of_le_of_lt (Nat.div_le_self _ _) hy
    have bx := rg_lt hg.1 hg.2.1 x2
    have hxx : (0 : Int) < g.length := by omega
    by_cases c1 : x % g.length = y % g.length
    · have c1' : ((x % g.length : Nat) : Int) = ((y % g.length : Nat) : Int) := by omega
      rw [decide_eq_true c1, Bool.true_or, Bool.true_and] at hq
      refine ⟨[Ans.o (Orc.b true), Ans.o (Orc.val (17 : Nat) (I (↑(x % g.length) : Int)) (H.mk [] [] [])), Ans.o (Orc.val (21 : Nat) (I (↑(y % g.length) : Int)) (H.mk [] [] [])), Ans.o (Orc.b false), Ans.o (Orc.val (38 : Nat) (I (↑(x / g.length) : Int)) (H.mk [] [] [])), Ans.o (Orc.val (42 : Nat) (I (↑(y / g.length) : Int)) (H.mk [] [] []))], fun u => of_eq ((↑j : Int) < (↑k : Int) ∧ aBin Tryd.prog BinOp.rem (3 : Nat) (I (↑x : Int)) (I (↑g.length : Int)) = some (I (↑(x % g.length) : Int)) ∧ aBin Tryd.prog BinOp.rem (3 : Nat) (I (↑y : Int)) (I (↑g.length : Int)) = some (I (↑(y % g.length) : Int)) ∧ (↑(x % g.length) : Int) = (↑(y % g.length) : Int) ∧ aBin Tryd.prog BinOp.quo (3 : Nat) (I (↑x : Int)) (I (↑g.length : Int)) = some (I (↑(x / g.length) : Int)) ∧ aBin Tryd.prog BinOp.quo (3 : Nat) (I (↑y : Int)) (I (↑g.length : Int)) = some (I (↑(y / g.length) : Int)) ∧ IntKind.i64.wrap ((↑j : Int) + (1 : Int)) = (↑j : Int) + (1 : Int) ∧ (44 : Nat) = (44 : Nat) ∧ j < k ∧ Keep (∃ x_1 y_1, x_1 < (1000 : Nat) ∧ y_1 < (1000 : Nat) ∧ H.mk [] [] [] = H.mk [] [] [] ∧ [AV.sl (ints g) g.length r, I (↑(x / g.length) : Int), I (↑(y / g.length) : Int), I (↑k : Int), I ((↑j : Int) + (1 : Int))] = [AV.sl (ints g) g.length r, I (↑x_1 : Int), I (↑y_1 : Int), I (↑k : Int), I (↑(j + (1 : Nat)) : Int)] ∧ nrK g k a b = nrK g (k - (j + (1 : Nat))) x_1 y_1)) (by kernel_rfl) ?_⟩
      refine And.intro (by first | with_reducible assumption | omega | assumption) ?_
      refine And.intro (by exact told_rem (by first | decide | omega) (by with_reducible assumption)) ?_
      refine And.intro (by exact told_rem (by first | decide | omega) (by with_reducible assumption)) ?_
      refine And.intro (by first | with_reducible assumption | omega | assumption) ?_
      refine And.intro (by exact told_quo (by first | decide | omega) (by with_reducible assumption)) ?_
      refine And.intro (by exact told_quo (by first | decide | omega) (by with_reducible assumption)) ?_
      refine And.intro (by exact wr _ (by omega) (by omega)) ?_
      refine And.intro (by first | with_reducible assumption | omega | assumption) ?_
      refine And.intro (by first | with_reducible assumption | omega | assumption) ?_
      exact ⟨_, _, d1, d2, rfl, rfl, hq⟩
    · have c1' : ((x % g.length : Nat) : Int) ≠ ((y % g.length : Nat) : Int) := by omega
      rw [decide_eq_false c1, Bool.false_or] at hq
      cases c2 : bi (at_ g (x % g.length)) (y % g.length)
      · obtain ⟨ev4, ev5⟩ := i_bitv bx.1 bx.2 (show y % g.length ≤ 64 by omega) false c2
        have ev5 : _ = (0 : Int) := ev5
        rw [c2, Bool.false_and] at hq
        refine ⟨[Ans.o (Orc.b true), Ans.o (Orc.val (17 : Nat) (I (↑(x % g.length) : Int)) (H.mk [] [] [])), Ans.o (Orc.val (21 : Nat) (I (↑(y % g.length) : Int)) (H.mk [] [] [])), Ans.o (Orc.b true), Ans.o (Orc.val (28 : Nat) (AV.cptr (ints (List.drop (x % g.length) g))) (H.mk [] [] [])), Ans.o (Orc.val (29 : Nat) (I (g.getD (x % g.length) i0)) (H.mk [] [] [])), Ans.o (Orc.val (31 : Nat) (I (↑((at_ g (x % g.length)).toNat >>> (y % g.length)) : Int)) (H.mk [] [] [])), Ans.o (Orc.val (32 : Nat) (I (↑false.toNat : Int)) (H.mk [] [] [])), Ans.o Orc.dflt], fun u => of_eq ((↑j : Int) < (↑k : Int) ∧ aBin Tryd.prog BinOp.rem (3 : Nat) (I (↑x : Int)) (I (↑g.length : Int)) = some (I (↑(x % g.length) : Int)) ∧ aBin Tryd.prog BinOp.rem (3 : Nat) (I (↑y : Int)) (I (↑g.length : Int)) = some (I (↑(y % g.length) : Int)) ∧ (↑(x % g.length) : Int) ≠ (↑(y % g.length) : Int) ∧ aIndexAddr Tryd.prog (22 : Nat) (AV.sl (ints g) g.length r) (I (↑(x % g.length) : Int)) = some (AV.cptr (ints (List.drop (x % g.length) g))) ∧ aLoad Tryd.prog (3 : Nat) (ints (List.drop (x % g.length) g)) = some (I (g.getD (x % g.length) i0)) ∧ aBin Tryd.prog BinOp.shr (3 : Nat) (I (g.getD (x % g.length) i0)) (I (↑(y % g.length) : Int)) = some (I (↑((at_ g (x % g.length)).toNat >>> (y % g.length)) : Int)) ∧ aBin Tryd.prog BinOp.and (3 : Nat) (I (↑((at_ g (x % g.length)).toNat >>> (y % g.length)) : Int)) (I (1 : Int)) = some (I (0 : Int)) ∧ (44 : Nat) = (44 : Nat) ∧ hits [Out.mk Unit AX.ret [(8 : Nat)] (fun x => nrK g k a b = false) (fun x => [AV.bool false]) (fun x => H.nil) fun x => [], Out.mk Unit (AX.exit (0 : Nat)) [] (fun x => nrK g k a b = true) (fun x => []) (fun x => H.nil) fun x => []] AX.ret [AV.sl (ints g) g.length r, u (1 : Nat), I (↑x : Int), I (↑y : Int), u (4 : Nat), u (5 : Nat), u (6 : Nat), u (7 : Nat), AV.bool false, I (↑(x % g.length) : Int), I (↑(y % g.length) : Int), I (↑k : Int), I (↑j : Int), AV.bool true, I (↑x : Int), AV.sl (ints g) g.length r, I (↑g.length : Int), I (↑(x % g.length) : Int), I (↑y : Int), AV.sl (ints g) g.length r, I (↑g.length : Int), I (↑(y % g.length) : Int), I (↑(x % g.length) : Int), I (↑(y % g.length) : Int), AV.bool true, AV.bool true, AV.sl (ints g) g.length r, I (↑(x % g.length) : Int), AV.cptr (ints (List.drop (x % g.length) g)), I (g.getD (x % g.length) i0), I (↑(y % g.length) : Int), I (↑((at_ g (x % g.length)).toNat >>> (y % g.length)) : Int), I (0 : Int), AV.bool true, AV.bool true, u (35 : Nat), u (36 : Nat), u (37 : Nat), u (38 : Nat), u (39 : Nat), u (40 : Nat), u (41 : Nat), u (42 : Nat), u (43 : Nat)] (H.mk [] [] [])) (by kernel_rfl) ?_⟩
        refine And.intro (by first | with_reducible assumption | omega | assumption) ?_
        refine And.intro (by exact told_rem (by first | decide | omega) (by with_reducible assumption)) ?_
        refine And.intro (by exact told_rem (by first | decide | omega) (by with_reducible assumption)) ?_
        refine And.intro (by first | with_reducible assumption | omega | assumption) ?_
        refine And.intro (by first | exact ix_ints (by kernel_rfl) (by omega) (by assumption) | exact ix_ints (by kernel_rfl) (by omega) (rok_idx (by assumption) (by omega))) ?_
        refine And.intro (by first | exact ld_ints (by kernel_rfl) (by kernel_rfl) (by omega) | exact ldm_ints (by kernel_rfl) (by kernel_rfl) (by first | omega | (simp; omega))) ?_
        refine And.intro (by first | exact told_shr (by omega) (by with_reducible assumption) | exact told_shr (by omega) rfl) ?_
        refine And.intro (by exact told_and (by with_reducible assumption)) ?_
        refine And.intro (by first | with_reducible assumption | omega | assumption) ?_
        exact .inl ⟨(), hq, rfl, rfl, rfl⟩
      · obtain ⟨ev4, ev5⟩ := i_bitv bx.1 bx.2 (show y % g.length ≤ 64 by omega) true c2
        have ev5 : _ = (1 : Int) := ev5
        rw [c2, Bool.true_and] at hq
        refine ⟨[Ans.o (Orc.b true), Ans.o (Orc.val (17 : Nat) (I (↑(x % g.length) : Int)) (H.mk [] [] [])), Ans.o (Orc.val (21 : Nat) (I (↑(y % g.length) : Int)) (H.mk [] [] [])), Ans.o (Orc.b true), Ans.o (Orc.val (28 : Nat) (AV.cptr (ints (List.drop (x % g.length) g))) (H.mk [] [] [])), Ans.o (Orc.val (29 : Nat) (I (g.getD (x % g.length) i0)) (H.mk [] [] [])), Ans.o (Orc.val (31 : Nat) (I (↑((at_ g (x % g.length)).toNat >>> (y % g.length)) : Int)) (H.mk [] [] [])), Ans.o (Orc.val (32 : Nat) (I (↑true.toNat : Int)) (H.mk [] [] [])), Ans.o Orc.dflt, Ans.o (Orc.val (38 : Nat) (I (↑(x / g.length) : Int)) (H.mk [] [] [])), Ans.o (Orc.val (42 : Nat) (I (↑(y / g.length) : Int)) (H.mk [] [] []))], fun u => of_eq ((↑j : Int) < (↑k : Int) ∧ aBin Tryd.prog BinOp.rem (3 : Nat) (I (↑x : Int)) (I (↑g.length : Int)) = some (I (↑(x % g.length) : Int)) ∧ aBin Tryd.prog BinOp.rem (3 : Nat) (I (↑y : Int)) (I (↑g.length : Int)) = some (I (↑(y % g.length) : Int)) ∧ (↑(x % g.length) : Int) ≠ (↑(y % g.length) : Int) ∧ aIndexAddr Tryd.prog (22 : Nat) (AV.sl (ints g) g.length r) (I (↑(x % g.length) : Int)) = some (AV.cptr (ints (List.drop (x % g.length) g))) ∧ aLoad Tryd.prog (3 : Nat) (ints (List.drop (x % g.length) g)) = some (I (g.getD (x % g.length) i0)) ∧ aBin Tryd.prog BinOp.shr (3 : Nat) (I (g.getD (x % g.length) i0)) (I (↑(y % g.length) : Int)) = some (I (↑((at_ g (x % g.length)).toNat >>> (y % g.length)) : Int)) ∧ aBin Tryd.prog BinOp.and (3 : Nat) (I (↑((at_ g (x % g.length)).toNat >>> (y % g.length)) : Int)) (I (1 : Int)) = some (I (1 : Int)) ∧ aBin Tryd.prog BinOp.quo (3 : Nat) (I (↑x : Int)) (I (↑g.length : Int)) = some (I (↑(x / g.length) : Int)) ∧ aBin Tryd.prog BinOp.quo (3 : Nat) (I (↑y : Int)) (I (↑g.length : Int)) = some (I (↑(y / g.length) : Int)) ∧ IntKind.i64.wrap ((↑j : Int) + (1 : Int)) = (↑j : Int) + (1 : Int) ∧ (44 : Nat) = (44 : Nat) ∧ j < k ∧ Keep (∃ x_1 y_1, x_1 < (1000 : Nat) ∧ y_1 < (1000 : Nat) ∧ H.mk [] [] [] = H.mk [] [] [] ∧ [AV.sl (ints g) g.length r, I (↑(x / g.length) : Int), I (↑(y / g.length) : Int), I (↑k : Int), I ((↑j : Int) + (1 : Int))] = [AV.sl (ints g) g.length r, I (↑x_1 : Int), I (↑y_1 : Int), I (↑k : Int), I (↑(j + (1 : Nat)) : Int)] ∧ nrK g k a b = nrK g (k - (j + (1 : Nat))) x_1 y_1)) (by kernel_rfl) ?_⟩
        refine And.intro (by first | with_reducible assumption | omega | assumption) ?_
        refine And.intro (by exact told_rem (by first | decide | omega) (by with_reducible assumption)) ?_
        refine And.intro (by exact told_rem (by first | decide | omega) (by with_reducible assumption)) ?_
        refine And.intro (by first | with_reducible assumption | omega | assumption) ?_
        refine And.intro (by first | exact ix_ints (by kernel_rfl) (by omega) (by assumption) | exact ix_ints (by kernel_rfl) (by omega) (rok_idx (by assumption) (by omega))) ?_
        refine And.intro (by first | exact ld_ints (by kernel_rfl) (by kernel_rfl) (by omega) | exact ldm_ints (by kernel_rfl) (by kernel_rfl) (by first | omega | (simp; omega))) ?_
        refine And.intro (by first | exact told_shr (by omega) (by with_reducible assumption) | exact told_shr (by omega) rfl) ?_
        refine And.intro (by exact told_and (by with_reducible assumption)) ?_
        refine And.intro (by exact told_quo (by first | decide | omega) (by with_reducible assumption)) ?_
        refine And.intro (by exact told_quo (by first | decide | omega) (by with_reducible assumption)) ?_
        refine And.intro (by exact wr _ (by omega) (by omega)) ?_
        refine And.intro (by first | with_reducible assumption | omega | assumption) ?_
        refine And.intro (by first | with_reducible assumption | omega | assumption) ?_
        exact ⟨_, _, d1, d2, rfl, rfl, hq⟩
  · have hz : (k : Int) ≤ j := by omega
    have e : k - j = 0 := by omega
    rw [e] at hq
    have hq : nrK g k a b = true := hq
    refine ⟨[Ans.o (Orc.b false)], fun u => of_eq ((↑k : Int) ≤ (↑j : Int) ∧ (44 : Nat) = (44 : Nat) ∧ hits [Out.mk Unit AX.ret [(8 : Nat)] (fun x => nrK g k a b = false) (fun x => [AV.bool false]) (fun x => H.nil) fun x => [], Out.mk Unit (AX.exit (0 : Nat)) [] (fun x => nrK g k a b = true) (fun x => []) (fun x => H.nil) fun x => []] (AX.exit (0 : Nat)) [AV.sl (ints g) g.length r, u (1 : Nat), I (↑x : Int), I (↑y : Int), u (4 : Nat), u (5 : Nat), u (6 : Nat), u (7 : Nat), u (8 : Nat), u (9 : Nat), u (10 : Nat), I (↑k : Int), I (↑j : Int), AV.bool false, u (14 : Nat), u (15 : Nat), u (16 : Nat), u (17 : Nat), u (18 : Nat), u (19 : Nat), u (20 : Nat), u (21 : Nat), u (22 : Nat), u (23 : Nat), u (24 : Nat), u (25 : Nat), u (26 : Nat), u (27 : Nat), u (28 : Nat), u (29 : Nat), u (30 : Nat), u (31 : Nat), u (32 : Nat), u (33 : Nat), u (34 : Nat), u (35 : Nat), u (36 : Nat), u (37 : Nat), u (38 : Nat), u (39 : Nat), u (40 : Nat), u (41 : Nat), u (42 : Nat), u (43 : Nat)] (H.mk [] [] [])) (by kernel_rfl) ?_⟩
    refine And.intro (by first | with_reducible assumption | omega | assumption) ?_
    refine And.intro (by first | with_reducible assumption | omega | assumption) ?_
    exact .inr (.inl ⟨(), hq, rfl, rfl, rfl⟩)
theorem ok65 : FokM Tryd.prog none1 65 Tryd.f65 := ⟨mixed, by kernel_rfl, by kernel_rfl, by kernel_rfl, by kernel_rfl⟩
theorem r65 (g : List Int) (r : Room) (k : Int) (a : Int) (b : Int) (hp : (Gr g ∧ rok g r) ∧ (0 ≤ k ∧ k ≤ 64) ∧ (0 ≤ a ∧ a < 1000) ∧ 0 ≤ b ∧ b < 1000) : Body ⟨Tryd.prog, Sof (P := Tryd.prog) [], Pof (P := Tryd.prog) [], H.nil.base, 300⟩ none1 Tryd.f65 [ls g r, I k, I a, I b] .nil (.bool (nrK g k.toNat a.toNat b.toNat), .nil) := by
  obtain ⟨⟨hg, hr⟩, ⟨k1, k2⟩, ⟨a1, a2⟩, b1, b2⟩ := hp
  obtain ⟨k, rfl⟩ : ∃ n : Nat, k = n := ⟨k.toNat, by omega⟩
  obtain ⟨a, rfl⟩ : ∃ n : Nat, a = n := ⟨a.toNat, by omega⟩
  obtain ⟨b, rfl⟩ : ∃ n : Nat, b = n := ⟨b.toNat, by omega⟩
  simp only [Int.toNat_natCast]
  refine body_s ([Ans.loop [(0 : Nat), (2 : Nat), (3 : Nat), (11 : Nat), (12 : Nat)] [Out.mk Unit AX.ret [(8 : Nat)] (fun x => nrK g k a b = false) (fun x => [AV.bool false]) (fun x => H.nil) fun y => [], Out.mk Unit (AX.exit (0 : Nat)) [] (fun x => nrK g k a b = true) (fun x => []) (fun x => H.nil) fun y => []]]) (LoopS (Env.mk Tryd.prog (Sof (P := Tryd.prog) []) (Pof (P := Tryd.prog) []) H.nil.base (300 : Nat)) (loopAt Tryd.f65 (0 : Nat)) (44 : Nat) [(0 : Nat), (2 : Nat), (3 : Nat), (11 : Nat), (12 : Nat)] [AV.sl (ints g) g.length r, I (↑a : Int), I (↑b : Int), I (↑k : Int), I (0 : Int)] (H.mk [] [] []) [Out.mk Unit AX.ret [(8 : Nat)] (fun x => nrK g k a b = false) (fun x => [AV.bool false]) (fun x => H.nil) fun y => [], Out.mk Unit (AX.exit (0 : Nat)) [] (fun x => nrK g k a b = true) (fun x => []) (fun x => H.nil) fun y => []] ∧ (∀ (y : Unit), nrK g k a b = false → ∀ (u : Nat → AV), (AV.bool false, H.mk [] [] []) = (AV.bool (nrK g k a b), H.mk [] [] [])) ∧ (∀ (y : Unit), nrK g k a b = true → ∀ (u : Nat → AV), (AV.bool true, H.mk [] [] []) = (AV.bool (nrK g k a b), H.mk [] [] [])) ∧ True) (by kernel_rfl) ?_
  refine And.intro (by exact lp65 g r hg hr k a b (by omega) (by omega) (by omega)) ?_
  refine And.intro ?_ ?_
  · skip
    intro y
    intro w1
    intro u
    first | exact congrArg (fun b => (AV.bool b, H.nil)) (by with_reducible assumption : nrK g k a b = false).symm | exact congrArg (fun b => (AV.bool b, H.nil)) (by with_reducible assumption : nrK g k a b = true).symm
  · skip
    refine And.intro ?_ ?_
    · skip
      intro y
      intro w1
      intro u
      first | exact congrArg (fun b => (AV.bool b, H.nil)) (by with_reducible assumption : nrK g k a b = false).symm | exact congrArg (fun b => (AV.bool b, H.nil)) (by with_reducible assumption : nrK g k a b = true).symm
    · skip
      trivial
noncomputable def c65 : PCtr Tryd.prog := sctr ok65 (X := List Int × Room × Int × Int × Int) (fun x => [ls x.1 x.2.1, I x.2.2.1, I x.2.2.2.1, I x.2.2.2.2]) (fun x => (Gr x.1 ∧ rok x.1 x.2.1) ∧ (0 ≤ x.2.2.1 ∧ x.2.2.1 ≤ 64) ∧ (0 ≤ x.2.2.2.1 ∧ x.2.2.2.1 < 1000) ∧ 0 ≤ x.2.2.2.2 ∧ x.2.2.2.2 < 1000) (fun x => .bool (nrK x.1 x.2.2.1.toNat x.2.2.2.1.toNat x.2.2.2.2.toNat)) (by intro x y e _ _; simp at e; simp [e]) (fun x => by simp [AV.bnds, AV.bnd, AV.wk, rm_wk_bnd]) (fun x => by first | rfl | (simp [AV.bnd, rm_wk_bnd]; done)  | (simp [AV.bnd, AV.bnds, rm_wk_bnd]; done) | simp [AV.bnd, AV.bnds, Room.bnd, rm_wk_bnd]) (fun x hx => ⟨_, _, _, .nil, r65 (x.1) (x.2.1).wk (x.2.2.1) (x.2.2.2.1) (x.2.2.2.2) (by first | exact hx | (simp only [rok_wk]; exact hx) | (simp only [rok_wk, lst_wk]; exact hx) | (simp only [rok_wk, lst_wk, lsn_wk]; exact hx))⟩)
end Go.Proofs.Sur
