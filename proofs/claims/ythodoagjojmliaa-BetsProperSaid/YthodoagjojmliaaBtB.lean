/- Layer 9: fractions by the program: divisors, parts, lowest terms. -/
import Derived.Test.YthodoagjojmliaaVm7
import Derived.Test.YthodoagjojmliaaBtA0
import Derived.Test.YthodoagjojmliaaBtM
import Derived.KernelRfl
set_option linter.unusedSimpArgs false
set_option linter.unusedVariables false
set_option linter.unnecessarySimpa false
set_option maxHeartbeats 4000000
set_option maxRecDepth 100000
namespace Go.Proofs.Bts
open Go Go.VM

theorem globs_ok (G : Ghost) : GlobOk G := fun g i v h => by cases h
noncomputable abbrev En6 (cs : List (Ctr Try.prog)) : Env := ⟨Try.prog, Sof (P := Try.prog) cs, Pof (P := Try.prog) [], H.nil.base, 300⟩
abbrev lim (n : Nat) : Prop := n ≤ 9223372036854775807
abbrev ls (l : List Int) (r : Room) : AV := .sl (ints l) l.length r
abbrev ia (l : List Int) (i : Nat) : Int := l.getD i i0
abbrev pz (l : List Pr) (r : Room) : AV := .sl (pairsA l) l.length r
theorem i_wrap {n : Nat} (h : n ≤ 9223372036854775807) : IntKind.i64.wrap ((n : Nat) : Int) = ((n : Nat) : Int) := wr _ (by omega) (by omega)
theorem wj1 {j : Nat} (h : j < 9223372036854775807) : IntKind.i64.wrap ((j : Int) + 1) = ((j + 1 : Nat) : Int) := by rw [wr _ (by omega) (by omega)]; omega
theorem all_succ {q : Nat → Prop} {j : Nat} (h : ∀ i, i < j → q i) (k : q j) : ∀ i, i < j + 1 → q i := fun i hi => by
  by_cases e : i = j
  · subst e; exact k
  · exact h i (by omega)
theorem clean0 (bs : List (List AV)) : H.clean ⟨bs, [], []⟩ 0 := by
  intro cs hcs
  simp at hcs
abbrev o118 (g : Int) : List Out := [.mk Unit (.exit 0) [0] (fun _ => True) (fun _ => [I g]) (fun _ => .nil) (fun _ => [])]
theorem simp118 : allSimpleM none1 (loopAt Try.f118 0) = true := by kernel_rfl
theorem lp118 (a b : Int) (ha : nn6 a) (hb : nn6 b) : LoopS (En6 []) (loopAt Try.f118 0) 12 [0, 1] [I a, I b] .nil (o118 (gcI a b)) := by
  have hR : Rests (En6 []) none1 := rests mixed .nil
  refine loop_s hR simp118 none (by intro _ h; cases h) (fun j vs H => H = .nil ∧ ∃ x y : Int, vs = [I x, I y] ∧ nn6 x ∧ nn6 y ∧ gcI x y = gcI a b ∧ y.toNat + j ≤ b.toNat) b.toNat ⟨rfl, a, b, rfl, ha, hb, rfl, by omega⟩ (by intro _ h; cases h) ?_
  rintro j vs H hj ⟨rfl, x, y, rfl, hx, hy, hg, hle⟩
  by_cases hz : y = 0
  · have e : x = gcI a b := by
      rw [← hg, hz]
      have hx : 0 ≤ x := hx
      show x = ((Nat.gcd x.toNat 0 : Nat) : Int)
      rw [Nat.gcd_zero_right]; omega
    subst hz
    rw [← e]
    refine ⟨[Ans.o Orc.dflt], fun u => of_eq ((12 : Nat) = (12 : Nat) ∧ hits [Out.mk Unit (AX.exit (0 : Nat)) [(0 : Nat)] (fun x => True) (fun x_1 => [I x]) (fun x => H.nil) fun x => []] (AX.exit (0 : Nat)) [I x, I 0, u (2 : Nat), u (3 : Nat), u (4 : Nat), I 0, AV.bool false, u (7 : Nat), u (8 : Nat), u (9 : Nat), u (10 : Nat), u (11 : Nat)] (H.mk [] [] [])) (by kernel_rfl) ?_⟩
    refine ⟨by first | with_reducible assumption | omega | assumption, ?_⟩
    exact .inl ⟨(), trivial, rfl, rfl, rfl⟩
  · have hz : y ≠ 0 := hz
    have hx : 0 ≤ x := hx
    have hy : 0 ≤ y := hy
    obtain ⟨X, rfl⟩ : ∃ X : Nat, x = X := ⟨x.toNat, by omega⟩
    obtain ⟨Y, rfl⟩ : ∃ Y : Nat, y = Y := ⟨y.toNat, by omega⟩
    have hm : X % Y < Y := Nat.mod_lt _ (by omega)
    have ev0 : (X : Int).tmod (Y : Int) = ((X % Y : Nat) : Int) := by rw [Int.ofNat_tmod]
    have hg2 : gcI (Y : Nat) ((X % Y : Nat) : Int) = gcI a b := by
      rw [← hg]
      show ((Nat.gcd (Y : Int).toNat ((X % Y : Nat) : Int).toNat : Nat) : Int) = ((Nat.gcd (X : Int).toNat (Y : Int).toNat : Nat) : Int)
      rw [Int.toNat_natCast, Int.toNat_natCast, Int.toNat_natCast, Nat.gcd_comm X Y, Nat.gcd_rec Y X, Nat.gcd_comm]
    have h1 : nn6 ((X % Y : Nat) : Int) := Int.natCast_nonneg _
    have h2 : ((X % Y : Nat) : Int).toNat + (j + 1) ≤ b.toNat := by rw [Int.toNat_natCast]; rw [Int.toNat_natCast] at hle; omega
    have h3 : nn6 ((Y : Nat) : Int) := Int.natCast_nonneg _
    refine ⟨[Ans.o (Orc.b true), Ans.o (Orc.val 10 (I (↑(X % Y) : Int)) H.nil)], fun u => of_eq ((↑Y : Int) ≠ (0 : Int) ∧ aBin Try.prog BinOp.rem (3 : Nat) (I (↑X : Int)) (I (↑Y : Int)) = some (I (↑(X % Y) : Int)) ∧ (12 : Nat) = (12 : Nat) ∧ j < b.toNat ∧ Keep (H.mk [] [] [] = H.mk [] [] [] ∧ ∃ x y, [I (↑Y : Int), I (↑(X % Y) : Int)] = [I x, I y] ∧ nn6 x ∧ nn6 y ∧ gcI x y = gcI a b ∧ y.toNat + (j + (1 : Nat)) ≤ b.toNat)) (by kernel_rfl) ?_⟩
    refine ⟨by first | with_reducible assumption | omega | assumption, ?_⟩
    refine ⟨told_rem (by first | decide | omega) (by with_reducible assumption), ?_⟩
    refine ⟨by first | with_reducible assumption | omega | assumption, ?_⟩
    refine ⟨by first | with_reducible assumption | omega | assumption, ?_⟩
    exact ⟨rfl, _, _, rfl, h3, h1, hg2, h2⟩
theorem ok118 : FokM Try.prog none1 118 Try.f118 := ⟨mixed, by kernel_rfl, by kernel_rfl, by kernel_rfl, by kernel_rfl⟩
theorem r118 (a : Int) (b : Int) (hp : nn6 a ∧ nn6 b) : Body ⟨Try.prog, Sof (P := Try.prog) [], Pof (P := Try.prog) [], H.nil.base, 300⟩ none1 Try.f118 [I a, I b] .nil (I (gcI a b), .nil) := by
  have lp := lp118 a b hp.1 hp.2
  refine body_s ([Ans.loop [(0 : Nat), (1 : Nat)] [Out.mk Unit (AX.exit (0 : Nat)) [(0 : Nat)] (fun x => True) (fun x => [I (gcI a b)]) (fun x => H.nil) fun y => []]]) (LoopS (Env.mk Try.prog (Sof (P := Try.prog) []) (Pof (P := Try.prog) []) H.nil.base (300 : Nat)) (loopAt Try.f118 (0 : Nat)) (12 : Nat) [(0 : Nat), (1 : Nat)] [I a, I b] (H.mk [] [] []) [Out.mk Unit (AX.exit (0 : Nat)) [(0 : Nat)] (fun x => True) (fun x => [I (gcI a b)]) (fun x => H.nil) fun y => []] ∧ (∀ (y : Unit), True → ∀ (u : Nat → AV), (I (gcI a b), H.mk [] [] []) = (I (gcI a b), H.mk [] [] [])) ∧ True) (by kernel_rfl) ?_
  refine ⟨lp, ?_⟩
  refine And.intro ?_ ?_
  · skip
    intro y
    intro w1
    intro u
    rfl
  · skip
    trivial
noncomputable def c118 : PCtr Try.prog := sctr ok118 (X := Int × Int) (fun x => [I x.1, I x.2]) (fun x => nn6 x.1 ∧ nn6 x.2) (fun x => I (gcI x.1 x.2)) (by intro x y e _ _; simp [Int.natCast_inj] at e; simp [e]) (fun x => by simp [AV.bnds, AV.bnd, AV.wk, rm_wk_bnd]) (fun x => by first | rfl | (simp [AV.bnd, rm_wk_bnd]; done)  | (simp [AV.bnd, AV.bnds, rm_wk_bnd]; done) | simp [AV.bnd, AV.bnds, Room.bnd, rm_wk_bnd]) (fun x hx => ⟨_, _, _, .nil, r118 (x.1) (x.2) hx⟩)
theorem ok112 : FokM Try.prog none1 112 Try.f112 := ⟨mixed, by kernel_rfl, by kernel_rfl, by kernel_rfl, by kernel_rfl⟩
theorem r112 (n : Nat) (hp : lim n) : Body ⟨Try.prog, Sof (P := Try.prog) [], Pof (P := Try.prog) [], H.nil.base, 300⟩ none1 Try.f112 [I n] .nil (.bool (szB n), .nil) := by
  by_cases h1 : n < 2
  · have h1' : (n : Int) < 2 := by omega
    have e : szB n = false := by simp only [szB, decide_eq_false_iff_not]; omega
    rw [e]
    refine body_s ([Ans.o (Orc.b false)]) ((↑n : Int) < (2 : Int) ∧ (AV.bool false, H.mk [] [] []) = (AV.bool false, H.mk [] [] [])) (by kernel_rfl) ?_
    refine ⟨by first | with_reducible assumption | omega | assumption, ?_⟩
    rfl
  have h1' : (2 : Int) ≤ n := by omega
  by_cases h2 : 5 < n
  · have h2' : (5 : Int) < n := by omega
    have e : szB n = false := by simp only [szB, decide_eq_false_iff_not]; omega
    rw [e]
    refine body_s ([Ans.o (Orc.b true), Ans.o (Orc.b false)]) ((2 : Int) ≤ (↑n : Int) ∧ (5 : Int) < (↑n : Int) ∧ (AV.bool false, H.mk [] [] []) = (AV.bool false, H.mk [] [] [])) (by kernel_rfl) ?_
    refine ⟨by first | with_reducible assumption | omega | assumption, ?_⟩
    refine ⟨by first | with_reducible assumption | omega | assumption, ?_⟩
    rfl
  · have h2' : (n : Int) ≤ 5 := by omega
    have e : szB n = true := by simp only [szB, decide_eq_true_eq]; omega
    rw [e]
    refine body_s ([Ans.o (Orc.b true), Ans.o (Orc.b true)]) ((2 : Int) ≤ (↑n : Int) ∧ (↑n : Int) ≤ (5 : Int) ∧ (AV.bool true, H.mk [] [] []) = (AV.bool true, H.mk [] [] [])) (by kernel_rfl) ?_
    refine ⟨by first | with_reducible assumption | omega | assumption, ?_⟩
    refine ⟨by first | with_reducible assumption | omega | assumption, ?_⟩
    rfl
noncomputable def c112 : PCtr Try.prog := sctr ok112 (X := Nat) (fun x => [I x]) (fun x => lim x) (fun x => .bool (szB x)) (by intro x y e _ _; simp [Int.natCast_inj] at e; simp [e]) (fun x => by simp [AV.bnds, AV.bnd, AV.wk, rm_wk_bnd]) (fun x => by first | rfl | (simp [AV.bnd, rm_wk_bnd]; done)  | (simp [AV.bnd, AV.bnds, rm_wk_bnd]; done) | simp [AV.bnd, AV.bnds, Room.bnd, rm_wk_bnd]) (fun x hx => ⟨_, _, _, .nil, r112 (x) hx⟩)
theorem ok127 : FokM Try.prog none1 127 Try.f127 := ⟨mixed, by kernel_rfl, by kernel_rfl, by kernel_rfl, by kernel_rfl⟩
theorem r127 (a : Int) (b : Int) (hp : True) : Body ⟨Try.prog, Sof (P := Try.prog) [], Pof (P := Try.prog) [], H.nil.base, 300⟩ none1 Try.f127 [.agg [I a, I b]] .nil (.bool (decide (b ≤ 60)), .nil) := by
  by_cases h : b ≤ 60
  · rw [decide_eq_true h]
    refine body_s ([Ans.o (Orc.b true)]) (b ≤ (60 : Int) ∧ (AV.bool true, H.mk [] [] []) = (AV.bool true, H.mk [] [] [])) (by kernel_rfl) ?_
    refine ⟨by first | with_reducible assumption | omega | assumption, ?_⟩
    rfl
  · have h' : 60 < b := by omega
    rw [decide_eq_false h]
    refine body_s ([Ans.o (Orc.b false)]) ((60 : Int) < b ∧ (AV.bool false, H.mk [] [] []) = (AV.bool false, H.mk [] [] [])) (by kernel_rfl) ?_
    refine ⟨by first | with_reducible assumption | omega | assumption, ?_⟩
    rfl
noncomputable def c127 : PCtr Try.prog := sctr ok127 (X := Int × Int) (fun x => [.agg [I x.1, I x.2]]) (fun x => True) (fun x => .bool (decide (x.2 ≤ 60))) (by intro x y e _ _; simp [Int.natCast_inj] at e; simp [e]) (fun x => by simp [AV.bnds, AV.bnd, AV.wk, rm_wk_bnd]) (fun x => by first | rfl | (simp [AV.bnd, rm_wk_bnd]; done)  | (simp [AV.bnd, AV.bnds, rm_wk_bnd]; done) | simp [AV.bnd, AV.bnds, Room.bnd, rm_wk_bnd]) (fun x hx => ⟨_, _, _, .nil, r127 (x.1) (x.2) hx⟩)
theorem ok117 : FokM Try.prog none1 117 Try.f117 := ⟨mixed, by kernel_rfl, by kernel_rfl, by kernel_rfl, by kernel_rfl⟩
theorem r117 (a : Int) (b : Int) (hp : True) : Body ⟨Try.prog, Sof (P := Try.prog) [c118.to], Pof (P := Try.prog) [], H.nil.base, 300⟩ none1 Try.f117 [.agg [I a, I b]] .nil (.bool (okB (a, b)), .nil) := by
  by_cases h1 : b < 1
  · rw [okB_f (p := (a, b)) (fun h => by have := h.1; simp only at this; omega)]
    refine body_s ([Ans.o (Orc.b false)]) (b < (1 : Int) ∧ (AV.bool false, H.mk [] [] []) = (AV.bool false, H.mk [] [] [])) (by kernel_rfl) ?_
    refine ⟨by first | with_reducible assumption | omega | assumption, ?_⟩
    rfl
  have h1 : 1 ≤ b := by omega
  by_cases h2 : a < 0
  · rw [okB_f (p := (a, b)) (fun h => by have := h.2.1.1; simp only at this; omega)]
    refine body_s ([Ans.o (Orc.b true), Ans.o (Orc.b false)]) ((1 : Int) ≤ b ∧ a < (0 : Int) ∧ (AV.bool false, H.mk [] [] []) = (AV.bool false, H.mk [] [] [])) (by kernel_rfl) ?_
    refine ⟨by first | with_reducible assumption | omega | assumption, ?_⟩
    refine ⟨by first | with_reducible assumption | omega | assumption, ?_⟩
    rfl
  have h2 : 0 ≤ a := by omega
  by_cases h3 : b < a
  · rw [okB_f (p := (a, b)) (fun h => by have := h.2.1.2; simp only at this; omega)]
    refine body_s ([Ans.o (Orc.b true), Ans.o (Orc.b true), Ans.o (Orc.b false)]) ((1 : Int) ≤ b ∧ (0 : Int) ≤ a ∧ b < a ∧ (AV.bool false, H.mk [] [] []) = (AV.bool false, H.mk [] [] [])) (by kernel_rfl) ?_
    refine ⟨by first | with_reducible assumption | omega | assumption, ?_⟩
    refine ⟨by first | with_reducible assumption | omega | assumption, ?_⟩
    refine ⟨by first | with_reducible assumption | omega | assumption, ?_⟩
    rfl
  have h3 : a ≤ b := by omega
  have p118 : nn6 a ∧ nn6 b := ⟨h2, by omega⟩
  by_cases h4 : gcI a b = 1
  · rw [okB_t (p := (a, b)) ⟨h1, ⟨h2, h3⟩, h4⟩]
    refine body_s ([Ans.o (Orc.b true), Ans.o (Orc.b true), Ans.o (Orc.b true), Ans.o (Orc.val 23 (I (gcI a b)) (H.mk [[I a, I b]] [] [])), Ans.o (Orc.b true)]) ((1 : Int) ≤ b ∧ (0 : Int) ≤ a ∧ a ≤ b ∧ aCall (Sof [c118.to]) (AV.fn (Fn.func (118 : Nat)) [] []) [I a, I b] (H.mk [[I a, I b]] [] []) = some (I (gcI a b), H.mk [[I a, I b]] [] []) ∧ gcI a b = (1 : Int) ∧ (AV.bool true, H.mk [] [] []) = (AV.bool true, H.mk [] [] [])) (by kernel_rfl) ?_
    refine ⟨by first | with_reducible assumption | omega | assumption, ?_⟩
    refine ⟨by first | with_reducible assumption | omega | assumption, ?_⟩
    refine ⟨by first | with_reducible assumption | omega | assumption, ?_⟩
    refine ⟨acall_hit (c := c118.to) (a, b) _ rfl p118, ?_⟩
    refine ⟨by first | with_reducible assumption | omega | assumption, ?_⟩
    rfl
  · rw [okB_f (p := (a, b)) (fun h => h4 h.2.2)]
    have h4 : gcI a b ≠ 1 := h4
    refine body_s ([Ans.o (Orc.b true), Ans.o (Orc.b true), Ans.o (Orc.b true), Ans.o (Orc.val 23 (I (gcI a b)) (H.mk [[I a, I b]] [] [])), Ans.o (Orc.b false)]) ((1 : Int) ≤ b ∧ (0 : Int) ≤ a ∧ a ≤ b ∧ aCall (Sof [c118.to]) (AV.fn (Fn.func (118 : Nat)) [] []) [I a, I b] (H.mk [[I a, I b]] [] []) = some (I (gcI a b), H.mk [[I a, I b]] [] []) ∧ gcI a b ≠ (1 : Int) ∧ (AV.bool false, H.mk [] [] []) = (AV.bool false, H.mk [] [] [])) (by kernel_rfl) ?_
    refine ⟨by first | with_reducible assumption | omega | assumption, ?_⟩
    refine ⟨by first | with_reducible assumption | omega | assumption, ?_⟩
    refine ⟨by first | with_reducible assumption | omega | assumption, ?_⟩
    refine ⟨acall_hit (c := c118.to) (a, b) _ rfl p118, ?_⟩
    refine ⟨by first | with_reducible assumption | omega | assumption, ?_⟩
    rfl
noncomputable def c117 : PCtr Try.prog := sctr ok117 (X := Int × Int) (fun x => [.agg [I x.1, I x.2]]) (fun x => True) (fun x => .bool (okB (x.1, x.2))) (by intro x y e _ _; simp [Int.natCast_inj] at e; simp [e]) (fun x => by simp [AV.bnds, AV.bnd, AV.wk, rm_wk_bnd]) (fun x => by first | rfl | (simp [AV.bnd, rm_wk_bnd]; done)  | (simp [AV.bnd, AV.bnds, rm_wk_bnd]; done) | simp [AV.bnd, AV.bnds, Room.bnd, rm_wk_bnd]) (fun x hx => ⟨_, _, _, .pure c118 (.nil), r117 (x.1) (x.2) hx⟩)
end Go.Proofs.Bts

