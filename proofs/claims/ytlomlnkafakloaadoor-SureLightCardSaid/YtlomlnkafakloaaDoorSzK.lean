/- Joined: SzK, SzL. -/
import Derived.Test.YtlomlnkafakloaaDoorSzJ
import Derived.KernelRfl
set_option linter.unusedSimpArgs false
set_option linter.unusedVariables false
set_option linter.unnecessarySimpa false
section
set_option maxHeartbeats 4000000
set_option maxRecDepth 100000
namespace Go.Proofs.Sur
open Go Go.VM

abbrev hz0 : H := ⟨[[I 0, I 0]], [], []⟩
abbrev o72 (a b g : Int) : List Out := [.mk Unit (.exit 0) [0, 1, 4, 5] (fun _ => True) (fun _ => [I a, I b, .ptr 0 0, I g]) (fun _ => hz0) (fun _ => [])]
theorem simp72 : allSimpleM none1 (loopAt Tryd.f72 0) = true := by kernel_rfl
theorem lp72 (a b : Int) (ha : nn6 a) (hb : nn6 b) : LoopS (En6 []) (loopAt Tryd.f72 0) 31 [0, 1, 4, 5, 6] [I a, I b, .ptr 0 0, I a, I b] hz0 (o72 a b (gcI a b)) := by
  have hR : Rests (En6 []) none1 := rests mixed .nil
  refine loop_s hR simp72 none (by intro _ h; cases h) (fun j vs H => H = hz0 ∧ ∃ x y : Int, vs = [I a, I b, .ptr 0 0, I x, I y] ∧ nn6 x ∧ nn6 y ∧ gcI x y = gcI a b ∧ y.toNat + j ≤ b.toNat) b.toNat ⟨rfl, a, b, rfl, ha, hb, rfl, by omega⟩ (by intro _ h; cases h) ?_
  rintro j vs H hj ⟨rfl, x, y, rfl, hx, hy, hg, hle⟩
  by_cases hz : y = 0
  · have e : x = gcI a b := by
      rw [← hg, hz]
      have := hx.1
      show x = ((Nat.gcd x.toNat 0 : Nat) : Int)
      rw [Nat.gcd_zero_right]; omega
    subst hz
    rw [← e]
    refine ⟨[Ans.o Orc.dflt], fun u => of_eq ((31 : Nat) = (31 : Nat) ∧ hits [Out.mk Unit (AX.exit 0) [0, 1, 4, 5] (fun x => True) (fun x_1 => [I a, I b, AV.ptr 0 0, I x]) (fun x => hz0) fun x => []] (AX.exit 0) [I a, I b, u (2 : Nat), u (3 : Nat), AV.ptr 0 0, I x, I 0, u (7 : Nat), u (8 : Nat), u (9 : Nat), u (10 : Nat), u (11 : Nat), u (12 : Nat), u (13 : Nat), u (14 : Nat), u (15 : Nat), u (16 : Nat), u (17 : Nat), I 0, AV.bool false, u (20 : Nat), u (21 : Nat), u (22 : Nat), u (23 : Nat), u (24 : Nat), u (25 : Nat), u (26 : Nat), u (27 : Nat), u (28 : Nat), u (29 : Nat), u (30 : Nat)] (H.mk [[I 0, I 0]] [] [])) (by kernel_rfl) ?_⟩
    refine ⟨by first | with_reducible assumption | omega | assumption, ?_⟩
    exact .inl ⟨(), trivial, rfl, rfl, rfl⟩
  · have hz : y ≠ 0 := hz
    obtain ⟨hx1, hx2⟩ := hx
    obtain ⟨hy1, hy2⟩ := hy
    obtain ⟨X, rfl⟩ : ∃ X : Nat, x = X := ⟨x.toNat, by omega⟩
    obtain ⟨Y, rfl⟩ : ∃ Y : Nat, y = Y := ⟨y.toNat, by omega⟩
    have hm : X % Y < Y := Nat.mod_lt _ (by omega)
    have ev0 : (X : Int).tmod (Y : Int) = ((X % Y : Nat) : Int) := by rw [Int.ofNat_tmod]
    have hg2 : gcI (Y : Nat) ((X % Y : Nat) : Int) = gcI a b := by
      rw [← hg]
      show ((Nat.gcd (Y : Int).toNat ((X % Y : Nat) : Int).toNat : Nat) : Int) = ((Nat.gcd (X : Int).toNat (Y : Int).toNat : Nat) : Int)
      rw [Int.toNat_natCast, Int.toNat_natCast, Int.toNat_natCast, Nat.gcd_comm X Y, Nat.gcd_rec Y X, Nat.gcd_comm]
    have h1 : nn6 ((X % Y : Nat) : Int) := ⟨by omega, by omega⟩
    have h2 : ((X % Y : Nat) : Int).toNat + (j + 1) ≤ b.toNat := by rw [Int.toNat_natCast]; rw [Int.toNat_natCast] at hle; omega
    have h3 : nn6 ((Y : Nat) : Int) := ⟨hy1, hy2⟩
    refine ⟨[Ans.o (Orc.b true), Ans.o (Orc.val 23 (I (↑(X % Y) : Int)) H.nil)], fun u => of_eq ((↑Y : Int) ≠ (0 : Int) ∧ aBin Tryd.prog BinOp.rem (3 : Nat) (I (↑X : Int)) (I (↑Y : Int)) = some (I (↑(X % Y) : Int)) ∧ (31 : Nat) = (31 : Nat) ∧ j < b.toNat ∧ Keep (H.mk [[I 0, I 0]] [] [] = H.mk [[I 0, I 0]] [] [] ∧ ∃ x y, [I a, I b, AV.ptr 0 0, I (↑Y : Int), I (↑(X % Y) : Int)] = [I a, I b, AV.ptr 0 0, I x, I y] ∧ nn6 x ∧ nn6 y ∧ gcI x y = gcI a b ∧ y.toNat + (j + (1 : Nat)) ≤ b.toNat)) (by kernel_rfl) ?_⟩
    refine ⟨by first | with_reducible assumption | omega | assumption, ?_⟩
    refine ⟨told_rem (by first | decide | omega) (by with_reducible assumption), ?_⟩
    refine ⟨by first | with_reducible assumption | omega | assumption, ?_⟩
    refine ⟨by first | with_reducible assumption | omega | assumption, ?_⟩
    exact ⟨rfl, _, _, rfl, h3, h1, hg2, h2⟩
theorem ok72 : FokM Tryd.prog none1 72 Tryd.f72 := ⟨mixed, by kernel_rfl, by kernel_rfl, by kernel_rfl, by kernel_rfl⟩
theorem r72 (a : Int) (b : Int) (hp : (0 ≤ a ∧ a ≤ b) ∧ 1 ≤ b ∧ b ≤ 60) : Body ⟨Tryd.prog, Sof (P := Tryd.prog) [], Pof (P := Tryd.prog) [], H.nil.base, 300⟩ none1 Tryd.f72 [I a, I b] .nil (.agg [I (a.tdiv (gcI a b)), I (b.tdiv (gcI a b))], .nil) := by
  obtain ⟨⟨a0, a1⟩, b0, b1⟩ := hp
  have lp := lp72 a b ⟨a0, by omega⟩ ⟨by omega, by omega⟩
  have bn : 0 ≤ b := by omega
  have ev0 : pick2 true a (0 - a) = a := by
    simp only [pick2, if_true]; split <;> omega
  have g1 : 1 ≤ gcI a b := by
    have : 0 < Nat.gcd a.toNat b.toNat := Nat.gcd_pos_of_pos_right _ (by omega)
    show (1 : Int) ≤ ((Nat.gcd a.toNat b.toNat : Nat) : Int)
    omega
  have g0 : gcI a b ≠ 0 := by omega
  have d1 : 0 ≤ a.tdiv (gcI a b) ∧ a.tdiv (gcI a b) ≤ a := ⟨Int.tdiv_nonneg a0 (by omega), by rw [Int.tdiv_eq_ediv_of_nonneg a0]; exact Int.ediv_le_self _ a0⟩
  have d2 : 0 ≤ b.tdiv (gcI a b) ∧ b.tdiv (gcI a b) ≤ b := ⟨Int.tdiv_nonneg (by omega) (by omega), by rw [Int.tdiv_eq_ediv_of_nonneg (by omega)]; exact Int.ediv_le_self _ (by omega)⟩
  have ev1 : IntKind.i64.wrap (a.tdiv (gcI a b)) = a.tdiv (gcI a b) := wr _ (by omega) (by omega)
  have ev2 : IntKind.i64.wrap (b.tdiv (gcI a b)) = b.tdiv (gcI a b) := wr _ (by omega) (by omega)
  refine body_s ([Ans.o (Orc.b false), Ans.o (Orc.val 16 (I a) (H.mk [[I 0, I 0]] [] [])), Ans.loop [0, 1, 4, 5, 6] [Out.mk Unit (AX.exit 0) [0, 1, 4, 5] (fun x => True) (fun x => [I a, I b, AV.ptr 0 0, I (gcI a b)]) (fun x => hz0) fun y => []]]) ((0 : Int) ≤ b ∧ IntKind.i64.wrap ((0 : Int) - a) = (0 : Int) - a ∧ aMin true [I a, I ((0 : Int) - a)] = some (I a) ∧ LoopS (Env.mk Tryd.prog (Sof (P := Tryd.prog) []) (Pof (P := Tryd.prog) []) H.nil.base (300 : Nat)) (loopAt Tryd.f72 0) 31 [0, 1, 4, 5, 6] [I a, I b, AV.ptr 0 0, I a, I b] (H.mk [[I 0, I 0]] [] []) [Out.mk Unit (AX.exit 0) [0, 1, 4, 5] (fun x => True) (fun x => [I a, I b, AV.ptr 0 0, I (gcI a b)]) (fun x => hz0) fun y => []] ∧ (∀ (y : Unit), True → ∀ (u : Nat → AV), gcI a b ≠ (0 : Int) ∧ IntKind.i64.wrap (a.tdiv (gcI a b)) = a.tdiv (gcI a b) ∧ gcI a b ≠ (0 : Int) ∧ IntKind.i64.wrap (b.tdiv (gcI a b)) = b.tdiv (gcI a b) ∧ (AV.agg [I (a.tdiv (gcI a b)), I (b.tdiv (gcI a b))], H.mk [] [] []) = (AV.agg [I (a.tdiv (gcI a b)), I (b.tdiv (gcI a b))], H.mk [] [] [])) ∧ True) (by kernel_rfl) ?_
  refine ⟨by first | with_reducible assumption | omega | assumption, ?_⟩
  refine ⟨wr _ (by omega) (by omega), ?_⟩
  refine ⟨congrArg (fun z => some (I z)) ev0, ?_⟩
  refine ⟨lp, ?_⟩
  refine And.intro ?_ ?_
  · skip
    intro y
    intro w1
    intro u
    refine ⟨by first | with_reducible assumption | omega | assumption, ?_⟩
    refine ⟨wr _ (by omega) (by omega), ?_⟩
    refine ⟨by first | with_reducible assumption | omega | assumption, ?_⟩
    refine ⟨wr _ (by omega) (by omega), ?_⟩
    first | with_reducible rfl | (refine bleaf_t ?_; omega) | (refine bleaf_f ?_; omega) | (refine ileaf ?_; omega) | rfl | (exfalso; omega)
  · skip
    trivial
noncomputable def c72 : PCtr Tryd.prog := sctr ok72 (X := Int × Int) (fun x => [I x.1, I x.2]) (fun x => (0 ≤ x.1 ∧ x.1 ≤ x.2) ∧ 1 ≤ x.2 ∧ x.2 ≤ 60) (fun x => .agg [I (x.1.tdiv (gcI x.1 x.2)), I (x.2.tdiv (gcI x.1 x.2))]) (by intro x y e _ _; simp at e; simp [e]) (fun x => by simp [AV.bnds, AV.bnd, AV.wk, rm_wk_bnd]) (fun x => by first | rfl | (simp [AV.bnd, rm_wk_bnd]; done)  | (simp [AV.bnd, AV.bnds, rm_wk_bnd]; done) | simp [AV.bnd, AV.bnds, Room.bnd, rm_wk_bnd]) (fun x hx => ⟨_, _, _, .nil, r72 (x.1) (x.2) hx⟩)
end Go.Proofs.Sur
end
section
set_option maxHeartbeats 4000000
set_option maxRecDepth 100000
namespace Go.Proofs.Sur
open Go Go.VM

abbrev o37 (g : List Int) (q : Room) (l : List Pr) (r : Room) : List Out :=
  [.mk (List (List AV)) .ret [4] (fun _ => ¬ wOKs l) (fun _ => [.bool false]) (fun bs => ⟨bs, [], []⟩) (fun _ => []),
   .mk Unit (.exit 0) [0, 1] (fun _ => wOKs l) (fun _ => [ls g q.wk, pz l r.wk]) (fun _ => .nil) (fun _ => [])]
theorem simp37 : allSimpleM none1 (loopAt Tryd.f37 0) = true := by kernel_rfl
theorem lp37 (g : List Int) (q : Room) (l : List Pr) (r : Room) (h1 : lim l.length) (h2 : rok l r) :
    LoopS (En6 [c72.to]) (loopAt Tryd.f37 0) 48 [0, 1, 7, 8, 9] [ls g q.wk, pz l r.wk, pz l r.wk, I l.length, I 0] .nil (o37 g q l r) := by
  have hR : Rests (En6 [c72.to]) none1 := rests mixed (.pure _ .nil)
  refine loop_s hR simp37 (some 0) (by intro nb h; cases h; exact ⟨Nat.zero_le _, Nat.le_refl 0⟩) (fun j vs h => h = .nil ∧ vs = [ls g q.wk, pz l r.wk, pz l r.wk, I l.length, I (j : Nat)] ∧ ∀ i, i < j → wOK l i) l.length ⟨rfl, rfl, fun i hi => absurd hi (by omega)⟩ (by rintro nb h j vs h' ⟨rfl, _⟩; cases h; exact Nat.le_refl 0) ?_
  have h3 : rok l r.wk := by simpa using h2
  rintro j vs h hj ⟨rfl, rfl, ha⟩
  by_cases hz : (j : Int) < l.length
  · have hz' : j < l.length := by omega
    have hr := rok_idx h3 hz'
    have ev0 : IntKind.i64.wrap ((j : Int) + 1) = ((j + 1 : Nat) : Int) := by
      have : (j : Int) + 1 = ((j + 1 : Nat) : Int) := by omega
      rw [this]; exact i_wrap (by simp only [lim] at h1; omega)
    have bad : ∀ (h : ¬ wOK l j), ¬ wOKs l := fun h k => h (k j hz')
    have hcl : AV.bnds 0 0 0 [ls g q.wk, pz l r.wk, pz l r.wk, I l.length, I (j + 1 : Nat)] = true := by simp [AV.bnds, AV.bnd, rm_wk_bnd]
    by_cases x0 : (l.getD j pair0).2 < 1
    · have hn := bad (fun h => by have := h.1.1; omega)
      refine ⟨[Ans.o (Orc.b true), Ans.o (Orc.val 11 (AV.cptr (pairsA (List.drop j l))) H.nil), Ans.o (Orc.val 12 (AV.agg [I (l.getD j pair0).fst, I (l.getD j pair0).snd]) H.nil), Ans.o (Orc.b true)], fun u => of_eq ((↑j : Int) < (↑l.length : Int) ∧ aIndexAddr Tryd.prog 42 (AV.sl (pairsA l) l.length r.wk) (I (↑j : Int)) = some (AV.cptr (pairsA (List.drop j l))) ∧ aLoad Tryd.prog 28 (pairsA (List.drop j l)) = some (AV.agg [I (l.getD j pair0).fst, I (l.getD j pair0).snd]) ∧ (l.getD j pair0).snd < (1 : Int) ∧ (48 : Nat) = (48 : Nat) ∧ hits [Out.mk (List (List AV)) AX.ret [4] (fun x => ¬wOKs l) (fun x => [AV.bool false]) (fun bs => H.mk bs [] []) fun x => [], Out.mk Unit (AX.exit 0) [0, 1] (fun x => wOKs l) (fun x => [ls g q.wk, pz l r.wk]) (fun x => H.nil) fun x => []] AX.ret [ls g q.wk, AV.sl (pairsA l) l.length r.wk, u (2 : Nat), u (3 : Nat), AV.bool false, u (5 : Nat), AV.ptr 0 0, AV.sl (pairsA l) l.length r.wk, I (↑l.length : Int), I (↑j : Int), AV.bool true, AV.cptr (pairsA (List.drop j l)), AV.agg [I (l.getD j pair0).fst, I (l.getD j pair0).snd], AV.ptr 0 1, I (l.getD j pair0).snd, AV.bool true, AV.bool true, AV.tup [], AV.tup [], AV.tup [], AV.bool true, AV.bool true, AV.tup [], AV.tup [], AV.tup [], AV.bool true, AV.bool true, AV.tup [], AV.tup [], AV.tup [], AV.tup [], AV.tup [], AV.bool true, AV.bool true, AV.tup [], AV.tup [], AV.tup [], AV.tup [], AV.tup [], AV.tup [], AV.tup [], AV.bool true, u (42 : Nat), u (43 : Nat), u (44 : Nat), u (45 : Nat), u (46 : Nat), u (47 : Nat)] (H.mk [[I (l.getD j pair0).fst, I (l.getD j pair0).snd]] [] [])) (by kernel_rfl) ?_⟩
      refine ⟨by first | with_reducible assumption | omega | assumption, ?_⟩
      refine ⟨by first | exact ix_pairs (by kernel_rfl) (by omega) (by assumption) | exact ix_pairs (by kernel_rfl) (by omega) (rok_idx (by assumption) (by omega)), ?_⟩
      refine ⟨ld_pairs (by kernel_rfl) (by kernel_rfl) (by kernel_rfl) (by omega), ?_⟩
      refine ⟨by first | with_reducible assumption | omega | assumption, ?_⟩
      refine ⟨by first | with_reducible assumption | omega | assumption, ?_⟩
      exact .inl ⟨_, hn, rfl, rfl, rfl⟩
    have x0 : 1 ≤ (l.getD j pair0).2 := by omega
    by_cases x1 : 60 < (l.getD j pair0).2
    · have hn := bad (fun h => by have := h.1.2; omega)
      refine ⟨[Ans.o (Orc.b true), Ans.o (Orc.val 11 (AV.cptr (pairsA (List.drop j l))) H.nil), Ans.o (Orc.val 12 (AV.agg [I (l.getD j pair0).fst, I (l.getD j pair0).snd]) H.nil), Ans.o (Orc.b false), Ans.o (Orc.b true)], fun u => of_eq ((↑j : Int) < (↑l.length : Int) ∧ aIndexAddr Tryd.prog 42 (AV.sl (pairsA l) l.length r.wk) (I (↑j : Int)) = some (AV.cptr (pairsA (List.drop j l))) ∧ aLoad Tryd.prog 28 (pairsA (List.drop j l)) = some (AV.agg [I (l.getD j pair0).fst, I (l.getD j pair0).snd]) ∧ (1 : Int) ≤ (l.getD j pair0).snd ∧ (60 : Int) < (l.getD j pair0).snd ∧ (48 : Nat) = (48 : Nat) ∧ hits [Out.mk (List (List AV)) AX.ret [4] (fun x => ¬wOKs l) (fun x => [AV.bool false]) (fun bs => H.mk bs [] []) fun x => [], Out.mk Unit (AX.exit 0) [0, 1] (fun x => wOKs l) (fun x => [ls g q.wk, pz l r.wk]) (fun x => H.nil) fun x => []] AX.ret [ls g q.wk, AV.sl (pairsA l) l.length r.wk, u (2 : Nat), u (3 : Nat), AV.bool false, u (5 : Nat), AV.ptr 0 0, AV.sl (pairsA l) l.length r.wk, I (↑l.length : Int), I (↑j : Int), AV.bool true, AV.cptr (pairsA (List.drop j l)), AV.agg [I (l.getD j pair0).fst, I (l.getD j pair0).snd], AV.ptr 0 1, I (l.getD j pair0).snd, AV.bool false, AV.bool false, AV.ptr 0 1, I (l.getD j pair0).snd, AV.bool true, AV.bool true, AV.bool true, AV.tup [], AV.tup [], AV.tup [], AV.bool true, AV.bool true, AV.tup [], AV.tup [], AV.tup [], AV.tup [], AV.tup [], AV.bool true, AV.bool true, AV.tup [], AV.tup [], AV.tup [], AV.tup [], AV.tup [], AV.tup [], AV.tup [], AV.bool true, u (42 : Nat), u (43 : Nat), u (44 : Nat), u (45 : Nat), u (46 : Nat), u (47 : Nat)] (H.mk [[I (l.getD j pair0).fst, I (l.getD j pair0).snd]] [] [])) (by kernel_rfl) ?_⟩
      refine ⟨by first | with_reducible assumption | omega | assumption, ?_⟩
      refine ⟨by first | exact ix_pairs (by kernel_rfl) (by omega) (by assumption) | exact ix_pairs (by kernel_rfl) (by omega) (rok_idx (by assumption) (by omega)), ?_⟩
      refine ⟨ld_pairs (by kernel_rfl) (by kernel_rfl) (by kernel_rfl) (by omega), ?_⟩
      refine ⟨by first | with_reducible assumption | omega | assumption, ?_⟩
      refine ⟨by first | with_reducible assumption | omega | assumption, ?_⟩
      refine ⟨by first | with_reducible assumption | omega | assumption, ?_⟩
      exact .inl ⟨_, hn, rfl, rfl, rfl⟩
    have x1 : (l.getD j pair0).2 ≤ 60 := by omega
    by_cases y0 : (l.getD j pair0).1 < 0
    · have hn := bad (fun h => by have := h.2.1.1; omega)
      refine ⟨[Ans.o (Orc.b true), Ans.o (Orc.val 11 (AV.cptr (pairsA (List.drop j l))) H.nil), Ans.o (Orc.val 12 (AV.agg [I (l.getD j pair0).fst, I (l.getD j pair0).snd]) H.nil), Ans.o (Orc.b false), Ans.o (Orc.b false), Ans.o (Orc.b true)], fun u => of_eq ((↑j : Int) < (↑l.length : Int) ∧ aIndexAddr Tryd.prog 42 (AV.sl (pairsA l) l.length r.wk) (I (↑j : Int)) = some (AV.cptr (pairsA (List.drop j l))) ∧ aLoad Tryd.prog 28 (pairsA (List.drop j l)) = some (AV.agg [I (l.getD j pair0).fst, I (l.getD j pair0).snd]) ∧ (1 : Int) ≤ (l.getD j pair0).snd ∧ (l.getD j pair0).snd ≤ (60 : Int) ∧ (l.getD j pair0).fst < (0 : Int) ∧ (48 : Nat) = (48 : Nat) ∧ hits [Out.mk (List (List AV)) AX.ret [4] (fun x => ¬wOKs l) (fun x => [AV.bool false]) (fun bs => H.mk bs [] []) fun x => [], Out.mk Unit (AX.exit 0) [0, 1] (fun x => wOKs l) (fun x => [ls g q.wk, pz l r.wk]) (fun x => H.nil) fun x => []] AX.ret [ls g q.wk, AV.sl (pairsA l) l.length r.wk, u (2 : Nat), u (3 : Nat), AV.bool false, u (5 : Nat), AV.ptr 0 0, AV.sl (pairsA l) l.length r.wk, I (↑l.length : Int), I (↑j : Int), AV.bool true, AV.cptr (pairsA (List.drop j l)), AV.agg [I (l.getD j pair0).fst, I (l.getD j pair0).snd], AV.ptr 0 1, I (l.getD j pair0).snd, AV.bool false, AV.bool false, AV.ptr 0 1, I (l.getD j pair0).snd, AV.bool false, AV.bool false, AV.bool false, AV.ptr 0 0, I (l.getD j pair0).fst, AV.bool true, AV.bool true, AV.bool true, AV.tup [], AV.tup [], AV.tup [], AV.tup [], AV.tup [], AV.bool true, AV.bool true, AV.tup [], AV.tup [], AV.tup [], AV.tup [], AV.tup [], AV.tup [], AV.tup [], AV.bool true, u (42 : Nat), u (43 : Nat), u (44 : Nat), u (45 : Nat), u (46 : Nat), u (47 : Nat)] (H.mk [[I (l.getD j pair0).fst, I (l.getD j pair0).snd]] [] [])) (by kernel_rfl) ?_⟩
      refine ⟨by first | with_reducible assumption | omega | assumption, ?_⟩
      refine ⟨by first | exact ix_pairs (by kernel_rfl) (by omega) (by assumption) | exact ix_pairs (by kernel_rfl) (by omega) (rok_idx (by assumption) (by omega)), ?_⟩
      refine ⟨ld_pairs (by kernel_rfl) (by kernel_rfl) (by kernel_rfl) (by omega), ?_⟩
      refine ⟨by first | with_reducible assumption | omega | assumption, ?_⟩
      refine ⟨by first | with_reducible assumption | omega | assumption, ?_⟩
      refine ⟨by first | with_reducible assumption | omega | assumption, ?_⟩
      refine ⟨by first | with_reducible assumption | omega | assumption, ?_⟩
      exact .inl ⟨_, hn, rfl, rfl, rfl⟩
    have y0 : 0 ≤ (l.getD j pair0).1 := by omega
    by_cases y1 : (l.getD j pair0).2 < (l.getD j pair0).1
    · have hn := bad (fun h => by have := h.2.1.2; omega)
      refine ⟨[Ans.o (Orc.b true), Ans.o (Orc.val 11 (AV.cptr (pairsA (List.drop j l))) H.nil), Ans.o (Orc.val 12 (AV.agg [I (l.getD j pair0).fst, I (l.getD j pair0).snd]) H.nil), Ans.o (Orc.b false), Ans.o (Orc.b false), Ans.o (Orc.b false), Ans.o (Orc.b true)], fun u => of_eq ((↑j : Int) < (↑l.length : Int) ∧ aIndexAddr Tryd.prog 42 (AV.sl (pairsA l) l.length r.wk) (I (↑j : Int)) = some (AV.cptr (pairsA (List.drop j l))) ∧ aLoad Tryd.prog 28 (pairsA (List.drop j l)) = some (AV.agg [I (l.getD j pair0).fst, I (l.getD j pair0).snd]) ∧ (1 : Int) ≤ (l.getD j pair0).snd ∧ (l.getD j pair0).snd ≤ (60 : Int) ∧ (0 : Int) ≤ (l.getD j pair0).fst ∧ (l.getD j pair0).snd < (l.getD j pair0).fst ∧ (48 : Nat) = (48 : Nat) ∧ hits [Out.mk (List (List AV)) AX.ret [4] (fun x => ¬wOKs l) (fun x => [AV.bool false]) (fun bs => H.mk bs [] []) fun x => [], Out.mk Unit (AX.exit 0) [0, 1] (fun x => wOKs l) (fun x => [ls g q.wk, pz l r.wk]) (fun x => H.nil) fun x => []] AX.ret [ls g q.wk, AV.sl (pairsA l) l.length r.wk, u (2 : Nat), u (3 : Nat), AV.bool false, u (5 : Nat), AV.ptr 0 0, AV.sl (pairsA l) l.length r.wk, I (↑l.length : Int), I (↑j : Int), AV.bool true, AV.cptr (pairsA (List.drop j l)), AV.agg [I (l.getD j pair0).fst, I (l.getD j pair0).snd], AV.ptr 0 1, I (l.getD j pair0).snd, AV.bool false, AV.bool false, AV.ptr 0 1, I (l.getD j pair0).snd, AV.bool false, AV.bool false, AV.bool false, AV.ptr 0 0, I (l.getD j pair0).fst, AV.bool false, AV.bool false, AV.bool false, AV.ptr 0 0, I (l.getD j pair0).fst, AV.ptr 0 1, I (l.getD j pair0).snd, AV.bool true, AV.bool true, AV.bool true, AV.tup [], AV.tup [], AV.tup [], AV.tup [], AV.tup [], AV.tup [], AV.tup [], AV.bool true, u (42 : Nat), u (43 : Nat), u (44 : Nat), u (45 : Nat), u (46 : Nat), u (47 : Nat)] (H.mk [[I (l.getD j pair0).fst, I (l.getD j pair0).snd]] [] [])) (by kernel_rfl) ?_⟩
      refine ⟨by first | with_reducible assumption | omega | assumption, ?_⟩
      refine ⟨by first | exact ix_pairs (by kernel_rfl) (by omega) (by assumption) | exact ix_pairs (by kernel_rfl) (by omega) (rok_idx (by assumption) (by omega)), ?_⟩
      refine ⟨ld_pairs (by kernel_rfl) (by kernel_rfl) (by kernel_rfl) (by omega), ?_⟩
      refine ⟨by first | with_reducible assumption | omega | assumption, ?_⟩
      refine ⟨by first | with_reducible assumption | omega | assumption, ?_⟩
      refine ⟨by first | with_reducible assumption | omega | assumption, ?_⟩
      refine ⟨by first | with_reducible assumption | omega | assumption, ?_⟩
      refine ⟨by first | with_reducible assumption | omega | assumption, ?_⟩
      exact .inl ⟨_, hn, rfl, rfl, rfl⟩
    have y1 : (l.getD j pair0).1 ≤ (l.getD j pair0).2 := by omega
    have p72 : (0 ≤ (l.getD j pair0).1 ∧ (l.getD j pair0).1 ≤ (l.getD j pair0).2) ∧ 1 ≤ (l.getD j pair0).2 ∧ (l.getD j pair0).2 ≤ 60 := ⟨⟨y0, y1⟩, x0, x1⟩
    by_cases z : gcI (l.getD j pair0).1 (l.getD j pair0).2 = 1
    · have hk := all_succ (q := wOK l) ha ⟨⟨x0, x1⟩, ⟨y0, y1⟩, z⟩
      have hq : ((l.getD j pair0).1.tdiv (gcI (l.getD j pair0).1 (l.getD j pair0).2) == (l.getD j pair0).1 && ((l.getD j pair0).2.tdiv (gcI (l.getD j pair0).1 (l.getD j pair0).2) == (l.getD j pair0).2 && true)) = true := by
        rw [z, Int.tdiv_one, Int.tdiv_one, beq_self_eq_true, beq_self_eq_true]; rfl
      have hq' : (!((l.getD j pair0).1.tdiv (gcI (l.getD j pair0).1 (l.getD j pair0).2) == (l.getD j pair0).1 && ((l.getD j pair0).2.tdiv (gcI (l.getD j pair0).1 (l.getD j pair0).2) == (l.getD j pair0).2 && true))) = false := by rw [hq]; rfl
      refine ⟨[Ans.o (Orc.b true), Ans.o (Orc.val 11 (AV.cptr (pairsA (List.drop j l))) H.nil), Ans.o (Orc.val 12 (AV.agg [I (l.getD j pair0).fst, I (l.getD j pair0).snd]) H.nil), Ans.o (Orc.b false), Ans.o (Orc.b false), Ans.o (Orc.b false), Ans.o (Orc.b false), Ans.o (Orc.val 38 (AV.agg [I ((l.getD j pair0).fst.tdiv (gcI (l.getD j pair0).fst (l.getD j pair0).snd)), I ((l.getD j pair0).snd.tdiv (gcI (l.getD j pair0).fst (l.getD j pair0).snd))]) (H.mk [[I (l.getD j pair0).fst, I (l.getD j pair0).snd]] [] [])), Ans.btold (40 : Nat) false, Ans.o (Orc.val 42 (I (↑(j + (1 : Nat)) : Int)) H.nil)], fun u => of_eq ((↑j : Int) < (↑l.length : Int) ∧ aIndexAddr Tryd.prog 42 (AV.sl (pairsA l) l.length r.wk) (I (↑j : Int)) = some (AV.cptr (pairsA (List.drop j l))) ∧ aLoad Tryd.prog 28 (pairsA (List.drop j l)) = some (AV.agg [I (l.getD j pair0).fst, I (l.getD j pair0).snd]) ∧ (1 : Int) ≤ (l.getD j pair0).snd ∧ (l.getD j pair0).snd ≤ (60 : Int) ∧ (0 : Int) ≤ (l.getD j pair0).fst ∧ (l.getD j pair0).fst ≤ (l.getD j pair0).snd ∧ aCall (Sof [c72.to]) (AV.fn (Fn.func 72) [] []) [I (l.getD j pair0).fst, I (l.getD j pair0).snd] (H.mk [[I (l.getD j pair0).fst, I (l.getD j pair0).snd]] [] []) = some (AV.agg [I ((l.getD j pair0).fst.tdiv (gcI (l.getD j pair0).fst (l.getD j pair0).snd)), I ((l.getD j pair0).snd.tdiv (gcI (l.getD j pair0).fst (l.getD j pair0).snd))], H.mk [[I (l.getD j pair0).fst, I (l.getD j pair0).snd]] [] []) ∧ (!((l.getD j pair0).fst.tdiv (gcI (l.getD j pair0).fst (l.getD j pair0).snd) == (l.getD j pair0).fst && ((l.getD j pair0).snd.tdiv (gcI (l.getD j pair0).fst (l.getD j pair0).snd) == (l.getD j pair0).snd && true))) = false ∧ aBin Tryd.prog BinOp.add (3 : Nat) (I (↑j : Int)) (I 1) = some (I (↑(j + (1 : Nat)) : Int)) ∧ (48 : Nat) = (48 : Nat) ∧ j < l.length ∧ Keep (AV.bnds (0 : Nat) (0 : Nat) (0 : Nat) [ls g q.wk, AV.sl (pairsA l) l.length r.wk, AV.sl (pairsA l) l.length r.wk, I (↑l.length : Int), I (↑(j + (1 : Nat)) : Int)] = true ∧ (H.mk [[I (l.getD j pair0).fst, I (l.getD j pair0).snd]] [] []).clean (0 : Nat) ∧ H.mk [] [] [] = H.mk [] [] [] ∧ [ls g q.wk, AV.sl (pairsA l) l.length r.wk, AV.sl (pairsA l) l.length r.wk, I (↑l.length : Int), I (↑(j + (1 : Nat)) : Int)] = [ls g q.wk, AV.sl (pairsA l) l.length r.wk, AV.sl (pairsA l) l.length r.wk, I (↑l.length : Int), I (↑(j + (1 : Nat)) : Int)] ∧ ∀ (i : Nat), i < j + (1 : Nat) → wOK l i)) (by kernel_rfl) ?_⟩
      refine ⟨by first | with_reducible assumption | omega | assumption, ?_⟩
      refine ⟨by first | exact ix_pairs (by kernel_rfl) (by omega) (by assumption) | exact ix_pairs (by kernel_rfl) (by omega) (rok_idx (by assumption) (by omega)), ?_⟩
      refine ⟨ld_pairs (by kernel_rfl) (by kernel_rfl) (by kernel_rfl) (by omega), ?_⟩
      refine ⟨by first | with_reducible assumption | omega | assumption, ?_⟩
      refine ⟨by first | with_reducible assumption | omega | assumption, ?_⟩
      refine ⟨by first | with_reducible assumption | omega | assumption, ?_⟩
      refine ⟨by first | with_reducible assumption | omega | assumption, ?_⟩
      refine ⟨acall_hit (c := c72.to) ((l.getD j pair0).1, (l.getD j pair0).2) _ rfl p72, ?_⟩
      refine ⟨by first | with_reducible assumption | omega | assumption, ?_⟩
      refine ⟨told_add (by with_reducible assumption), ?_⟩
      refine ⟨by first | with_reducible assumption | omega | assumption, ?_⟩
      refine ⟨by first | with_reducible assumption | omega | assumption, ?_⟩
      exact ⟨hcl, clean0 _, rfl, rfl, hk⟩
    · have hn := bad (fun h => z h.2.2)
      have hq : ((l.getD j pair0).1.tdiv (gcI (l.getD j pair0).1 (l.getD j pair0).2) == (l.getD j pair0).1 && ((l.getD j pair0).2.tdiv (gcI (l.getD j pair0).1 (l.getD j pair0).2) == (l.getD j pair0).2 && true)) = false := by
        have g1 : 1 ≤ gcI (l.getD j pair0).1 (l.getD j pair0).2 := by
          have : 0 < Nat.gcd (l.getD j pair0).1.toNat (l.getD j pair0).2.toNat := Nat.gcd_pos_of_pos_right _ (by omega)
          show (1 : Int) ≤ ((Nat.gcd _ _ : Nat) : Int)
          omega
        have hne : (l.getD j pair0).2.tdiv (gcI (l.getD j pair0).1 (l.getD j pair0).2) ≠ (l.getD j pair0).2 := fun e => by
          generalize gcI (l.getD j pair0).1 (l.getD j pair0).2 = G at *
          rw [Int.tdiv_eq_ediv_of_nonneg (by omega)] at e
          have h5 := Int.mul_ediv_add_emod (l.getD j pair0).2 G
          have h7 := Int.emod_nonneg (l.getD j pair0).2 (show G ≠ 0 by omega)
          rw [e] at h5
          have h6 := Int.mul_le_mul_of_nonneg_right (show (2 : Int) ≤ G by omega) (show 0 ≤ (l.getD j pair0).2 by omega)
          omega
        have : ((l.getD j pair0).2.tdiv (gcI (l.getD j pair0).1 (l.getD j pair0).2) == (l.getD j pair0).2) = false := by rw [beq_eq_false_iff_ne]; exact hne
        rw [this]; simp
      have hq' : (!((l.getD j pair0).1.tdiv (gcI (l.getD j pair0).1 (l.getD j pair0).2) == (l.getD j pair0).1 && ((l.getD j pair0).2.tdiv (gcI (l.getD j pair0).1 (l.getD j pair0).2) == (l.getD j pair0).2 && true))) = true := by rw [hq]; rfl
      refine ⟨[Ans.o (Orc.b true), Ans.o (Orc.val 11 (AV.cptr (pairsA (List.drop j l))) H.nil), Ans.o (Orc.val 12 (AV.agg [I (l.getD j pair0).fst, I (l.getD j pair0).snd]) H.nil), Ans.o (Orc.b false), Ans.o (Orc.b false), Ans.o (Orc.b false), Ans.o (Orc.b false), Ans.o (Orc.val 38 (AV.agg [I ((l.getD j pair0).fst.tdiv (gcI (l.getD j pair0).fst (l.getD j pair0).snd)), I ((l.getD j pair0).snd.tdiv (gcI (l.getD j pair0).fst (l.getD j pair0).snd))]) (H.mk [[I (l.getD j pair0).fst, I (l.getD j pair0).snd]] [] [])), Ans.btold (40 : Nat) true], fun u => of_eq ((↑j : Int) < (↑l.length : Int) ∧ aIndexAddr Tryd.prog 42 (AV.sl (pairsA l) l.length r.wk) (I (↑j : Int)) = some (AV.cptr (pairsA (List.drop j l))) ∧ aLoad Tryd.prog 28 (pairsA (List.drop j l)) = some (AV.agg [I (l.getD j pair0).fst, I (l.getD j pair0).snd]) ∧ (1 : Int) ≤ (l.getD j pair0).snd ∧ (l.getD j pair0).snd ≤ (60 : Int) ∧ (0 : Int) ≤ (l.getD j pair0).fst ∧ (l.getD j pair0).fst ≤ (l.getD j pair0).snd ∧ aCall (Sof [c72.to]) (AV.fn (Fn.func 72) [] []) [I (l.getD j pair0).fst, I (l.getD j pair0).snd] (H.mk [[I (l.getD j pair0).fst, I (l.getD j pair0).snd]] [] []) = some (AV.agg [I ((l.getD j pair0).fst.tdiv (gcI (l.getD j pair0).fst (l.getD j pair0).snd)), I ((l.getD j pair0).snd.tdiv (gcI (l.getD j pair0).fst (l.getD j pair0).snd))], H.mk [[I (l.getD j pair0).fst, I (l.getD j pair0).snd]] [] []) ∧ (!((l.getD j pair0).fst.tdiv (gcI (l.getD j pair0).fst (l.getD j pair0).snd) == (l.getD j pair0).fst && ((l.getD j pair0).snd.tdiv (gcI (l.getD j pair0).fst (l.getD j pair0).snd) == (l.getD j pair0).snd && true))) = true ∧ (48 : Nat) = (48 : Nat) ∧ hits [Out.mk (List (List AV)) AX.ret [4] (fun x => ¬wOKs l) (fun x => [AV.bool false]) (fun bs => H.mk bs [] []) fun x => [], Out.mk Unit (AX.exit 0) [0, 1] (fun x => wOKs l) (fun x => [ls g q.wk, pz l r.wk]) (fun x => H.nil) fun x => []] AX.ret [ls g q.wk, AV.sl (pairsA l) l.length r.wk, u (2 : Nat), u (3 : Nat), AV.bool false, u (5 : Nat), AV.ptr 0 0, AV.sl (pairsA l) l.length r.wk, I (↑l.length : Int), I (↑j : Int), AV.bool true, AV.cptr (pairsA (List.drop j l)), AV.agg [I (l.getD j pair0).fst, I (l.getD j pair0).snd], AV.ptr 0 1, I (l.getD j pair0).snd, AV.bool false, AV.bool false, AV.ptr 0 1, I (l.getD j pair0).snd, AV.bool false, AV.bool false, AV.bool false, AV.ptr 0 0, I (l.getD j pair0).fst, AV.bool false, AV.bool false, AV.bool false, AV.ptr 0 0, I (l.getD j pair0).fst, AV.ptr 0 1, I (l.getD j pair0).snd, AV.bool false, AV.bool false, AV.bool false, AV.ptr 0 0, I (l.getD j pair0).fst, AV.ptr 0 1, I (l.getD j pair0).snd, AV.agg [I ((l.getD j pair0).fst.tdiv (gcI (l.getD j pair0).fst (l.getD j pair0).snd)), I ((l.getD j pair0).snd.tdiv (gcI (l.getD j pair0).fst (l.getD j pair0).snd))], AV.agg [I (l.getD j pair0).fst, I (l.getD j pair0).snd], AV.bool true, AV.bool true, u (42 : Nat), u (43 : Nat), u (44 : Nat), u (45 : Nat), u (46 : Nat), u (47 : Nat)] (H.mk [[I (l.getD j pair0).fst, I (l.getD j pair0).snd]] [] [])) (by kernel_rfl) ?_⟩
      refine ⟨by first | with_reducible assumption | omega | assumption, ?_⟩
      refine ⟨by first | exact ix_pairs (by kernel_rfl) (by omega) (by assumption) | exact ix_pairs (by kernel_rfl) (by omega) (rok_idx (by assumption) (by omega)), ?_⟩
      refine ⟨ld_pairs (by kernel_rfl) (by kernel_rfl) (by kernel_rfl) (by omega), ?_⟩
      refine ⟨by first | with_reducible assumption | omega | assumption, ?_⟩
      refine ⟨by first | with_reducible assumption | omega | assumption, ?_⟩
      refine ⟨by first | with_reducible assumption | omega | assumption, ?_⟩
      refine ⟨by first | with_reducible assumption | omega | assumption, ?_⟩
      refine ⟨acall_hit (c := c72.to) ((l.getD j pair0).1, (l.getD j pair0).2) _ rfl p72, ?_⟩
      refine ⟨by first | with_reducible assumption | omega | assumption, ?_⟩
      refine ⟨by first | with_reducible assumption | omega | assumption, ?_⟩
      exact .inl ⟨_, hn, rfl, rfl, rfl⟩
  · have hz : (l.length : Int) ≤ j := by omega
    have hk : wOKs l := fun i hi => ha i (by omega)
    refine ⟨[Ans.o (Orc.b false)], fun u => of_eq ((↑l.length : Int) ≤ (↑j : Int) ∧ (48 : Nat) = (48 : Nat) ∧ hits [Out.mk (List (List AV)) AX.ret [4] (fun x => ¬wOKs l) (fun x => [AV.bool false]) (fun bs => H.mk bs [] []) fun x => [], Out.mk Unit (AX.exit 0) [0, 1] (fun x => wOKs l) (fun x => [ls g q.wk, pz l r.wk]) (fun x => H.nil) fun x => []] (AX.exit 0) [ls g q.wk, AV.sl (pairsA l) l.length r.wk, u (2 : Nat), u (3 : Nat), u (4 : Nat), u (5 : Nat), u (6 : Nat), AV.sl (pairsA l) l.length r.wk, I (↑l.length : Int), I (↑j : Int), AV.bool false, u (11 : Nat), u (12 : Nat), u (13 : Nat), u (14 : Nat), u (15 : Nat), u (16 : Nat), u (17 : Nat), u (18 : Nat), u (19 : Nat), u (20 : Nat), u (21 : Nat), u (22 : Nat), u (23 : Nat), u (24 : Nat), u (25 : Nat), u (26 : Nat), u (27 : Nat), u (28 : Nat), u (29 : Nat), u (30 : Nat), u (31 : Nat), u (32 : Nat), u (33 : Nat), u (34 : Nat), u (35 : Nat), u (36 : Nat), u (37 : Nat), u (38 : Nat), u (39 : Nat), u (40 : Nat), u (41 : Nat), u (42 : Nat), u (43 : Nat), u (44 : Nat), u (45 : Nat), u (46 : Nat), u (47 : Nat)] (H.mk [] [] [])) (by kernel_rfl) ?_⟩
    refine ⟨by first | with_reducible assumption | omega | assumption, ?_⟩
    refine ⟨by first | with_reducible assumption | omega | assumption, ?_⟩
    exact .inr (.inl ⟨(), hk, rfl, rfl, rfl⟩)
open Classical in
noncomputable def rwB (g : List Int) (l : List Pr) : Bool := decide (wOKs l ∧ l.length = g.length)
theorem rwB_t {g : List Int} {l : List Pr} (h : wOKs l ∧ l.length = g.length) : rwB g l = true := by simp only [rwB, decide_eq_true_eq]; exact h
theorem rwB_f {g : List Int} {l : List Pr} (h : ¬ (wOKs l ∧ l.length = g.length)) : rwB g l = false := by simp only [rwB, decide_eq_false_iff_not]; exact h
theorem ok37 : FokM Tryd.prog none1 37 Tryd.f37 := ⟨mixed, by kernel_rfl, by kernel_rfl, by kernel_rfl, by kernel_rfl⟩
theorem r37 (g : List Int) (q : Room) (l : List Pr) (r : Room) (h1 : lim l.length) (h2 : rok l r) : Body (En6 [c72.to]) none1 Tryd.f37 [ls g q.wk, pz l r.wk] .nil (.bool (rwB g l), .nil) := by
  by_cases he : l.length = g.length
  · have he' : (l.length : Int) = (g.length : Int) := by omega
    refine body_s ([Ans.loop [0, 1, 7, 8, 9] [Out.mk (List (List AV)) AX.ret [4] (fun x => ¬wOKs l) (fun x => [AV.bool false]) (fun bs => H.mk bs [] []) fun y => [], Out.mk Unit (AX.exit 0) [0, 1] (fun x => wOKs l) (fun x => [ls g q.wk, pz l r.wk]) (fun x => H.nil) fun y => [Ans.o (Orc.b true)]]]) (LoopS (En6 [c72.to]) (loopAt Tryd.f37 0) 48 [0, 1, 7, 8, 9] [ls g q.wk, AV.sl (pairsA l) l.length r.wk, AV.sl (pairsA l) l.length r.wk, I (↑l.length : Int), I 0] (H.mk [] [] []) [Out.mk (List (List AV)) AX.ret [4] (fun x => ¬wOKs l) (fun x => [AV.bool false]) (fun bs => H.mk bs [] []) fun y => [], Out.mk Unit (AX.exit 0) [0, 1] (fun x => wOKs l) (fun x => [ls g q.wk, pz l r.wk]) (fun x => H.nil) fun y => [Ans.o (Orc.b true)]] ∧ (∀ (y : List (List AV)), ¬wOKs l → ∀ (u : Nat → AV), (AV.bool false, H.mk [] [] []) = (AV.bool (rwB g l), H.mk [] [] [])) ∧ (∀ (y : Unit), (∀ (i : Nat), i < l.length → ((1 : Int) ≤ (l.getD i pair0).snd ∧ (l.getD i pair0).snd ≤ (60 : Int)) ∧ ((0 : Int) ≤ (l.getD i pair0).fst ∧ (l.getD i pair0).fst ≤ (l.getD i pair0).snd) ∧ gcI (l.getD i pair0).fst (l.getD i pair0).snd = (1 : Int)) → ∀ (u : Nat → AV), (↑l.length : Int) = (↑g.length : Int) ∧ (AV.bool true, H.mk [] [] []) = (AV.bool (rwB g l), H.mk [] [] [])) ∧ True) (by kernel_rfl) ?_
    refine ⟨lp37 g q l r h1 h2, ?_⟩
    refine And.intro ?_ ?_
    · skip
      intro y
      intro w1
      intro u
      first | exact congrArg (fun b => (AV.bool b, H.nil)) (rwB_f (fun h => (by with_reducible assumption : ¬ wOKs l) h.1)).symm | exact congrArg (fun b => (AV.bool b, H.nil)) (rwB_t ⟨by with_reducible assumption, he⟩).symm
    · skip
      refine And.intro ?_ ?_
      · skip
        intro y
        intro w1
        intro u
        refine ⟨by first | with_reducible assumption | omega | assumption, ?_⟩
        first | exact congrArg (fun b => (AV.bool b, H.nil)) (rwB_f (fun h => (by with_reducible assumption : ¬ wOKs l) h.1)).symm | exact congrArg (fun b => (AV.bool b, H.nil)) (rwB_t ⟨by with_reducible assumption, he⟩).symm
      · skip
        trivial
  · have he' : (l.length : Int) ≠ (g.length : Int) := by omega
    rw [rwB_f (fun h => he h.2)]
    refine body_s ([Ans.loop [0, 1, 7, 8, 9] [Out.mk (List (List AV)) AX.ret [4] (fun x => ¬wOKs l) (fun x => [AV.bool false]) (fun bs => H.mk bs [] []) fun y => [], Out.mk Unit (AX.exit 0) [0, 1] (fun x => wOKs l) (fun x => [ls g q.wk, pz l r.wk]) (fun x => H.nil) fun y => [Ans.o (Orc.b false)]]]) (LoopS (En6 [c72.to]) (loopAt Tryd.f37 0) 48 [0, 1, 7, 8, 9] [ls g q.wk, AV.sl (pairsA l) l.length r.wk, AV.sl (pairsA l) l.length r.wk, I (↑l.length : Int), I 0] (H.mk [] [] []) [Out.mk (List (List AV)) AX.ret [4] (fun x => ¬wOKs l) (fun x => [AV.bool false]) (fun bs => H.mk bs [] []) fun y => [], Out.mk Unit (AX.exit 0) [0, 1] (fun x => wOKs l) (fun x => [ls g q.wk, pz l r.wk]) (fun x => H.nil) fun y => [Ans.o (Orc.b false)]] ∧ (∀ (y : List (List AV)), ¬wOKs l → ∀ (u : Nat → AV), (AV.bool false, H.mk [] [] []) = (AV.bool false, H.mk [] [] [])) ∧ (∀ (y : Unit), (∀ (i : Nat), i < l.length → ((1 : Int) ≤ (l.getD i pair0).snd ∧ (l.getD i pair0).snd ≤ (60 : Int)) ∧ ((0 : Int) ≤ (l.getD i pair0).fst ∧ (l.getD i pair0).fst ≤ (l.getD i pair0).snd) ∧ gcI (l.getD i pair0).fst (l.getD i pair0).snd = (1 : Int)) → ∀ (u : Nat → AV), (↑l.length : Int) ≠ (↑g.length : Int) ∧ (AV.bool false, H.mk [] [] []) = (AV.bool false, H.mk [] [] [])) ∧ True) (by kernel_rfl) ?_
    refine ⟨lp37 g q l r h1 h2, ?_⟩
    refine And.intro ?_ ?_
    · skip
      intro y
      intro w1
      intro u
      first | with_reducible rfl | (refine bleaf_t ?_; omega) | (refine bleaf_f ?_; omega) | (refine ileaf ?_; omega) | rfl | (exfalso; omega)
    · skip
      refine And.intro ?_ ?_
      · skip
        intro y
        intro w1
        intro u
        refine ⟨by first | with_reducible assumption | omega | assumption, ?_⟩
        first | with_reducible rfl | (refine bleaf_t ?_; omega) | (refine bleaf_f ?_; omega) | (refine ileaf ?_; omega) | rfl | (exfalso; omega)
      · skip
        trivial
noncomputable def c37 : PCtr Tryd.prog := sctr ok37 (X := List Int × Room × List Pr × Room) (fun x => [ls x.1 x.2.1, pz x.2.2.1 x.2.2.2]) (fun x => lim x.2.2.1.length ∧ rok x.2.2.1 x.2.2.2) (fun x => .bool (rwB x.1 x.2.2.1))
  (by intro x y e _ _; simp at e; simp [e]) (fun x => by simp [AV.bnds, AV.bnd, AV.wk, rm_wk_bnd]) (fun _ => rfl) (fun x hx => ⟨_, _, _, .pure c72 .nil, r37 x.1 x.2.1 x.2.2.1 x.2.2.2 hx.1 hx.2⟩)
end Go.Proofs.Sur
end
