/- Layer 7: fractions in lowest terms; chances. -/
import Derived.Test.YtmgbglnljnlapaaOrAe
import Derived.KernelRfl
set_option linter.unusedSimpArgs false
set_option linter.unusedVariables false
set_option linter.unnecessarySimpa false
set_option maxHeartbeats 4000000
set_option maxRecDepth 100000
namespace Go.Proofs.Ord
open Go Go.VM
open Go.Proofs.Sur (andn andn_bit andn_le i_wrap i_and i_or i_andn i_shl i_shr bit_01)

/-- a fraction in lowest terms -/
abbrev fr (x y : Nat) : AV := .agg [I (x / Nat.gcd x y : Nat), I (y / Nat.gcd x y : Nat)]
abbrev o78 (g x y : Nat) : List Out := [.mk Unit (.exit 0) [0, 1, 4, 5] (fun _ => True) (fun _ => [I x, I y, .ptr 0 0, I g]) (fun _ => ⟨[[I 0, I 0]], [], []⟩) (fun _ => [])]
theorem simp78 : allSimpleM none1 (loopAt Try.f78 0) = true := by kernel_rfl
theorem lp78 (x y : Nat) (hx : x ≤ 1000000) (hy : y ≤ 1000000) : LoopS (En6 []) (loopAt Try.f78 0) 22 [0, 1, 4, 5, 6] [I x, I y, .ptr 0 0, I x, I y] ⟨[[I 0, I 0]], [], []⟩ (o78 (Nat.gcd x y) x y) := by
  have hR : Rests (En6 []) none1 := rests mixed .nil
  refine loop_s hR simp78 none (by intro _ h; cases h) (fun j vs H => H = ⟨[[I 0, I 0]], [], []⟩ ∧ ∃ a b : Nat, Nat.gcd a b = Nat.gcd x y ∧ b + j ≤ y ∧ a ≤ 1000000 ∧ b ≤ 1000000 ∧ vs = [I x, I y, .ptr 0 0, I a, I b]) y ⟨rfl, x, y, rfl, by omega, hx, hy, rfl⟩ (by intro _ h; cases h) ?_
  rintro j vs H hj ⟨rfl, a, b, hg, hl, ha, hb, rfl⟩
  by_cases hz : b = 0
  · subst hz
    have e : a = Nat.gcd x y := by rw [← hg, Nat.gcd_zero_right]
    have c1 : ((0 : Nat) : Int) = 0 := rfl
    subst e
    refine ⟨[Ans.o Orc.dflt], fun u => of_eq ((22 : Nat) = (22 : Nat) ∧ hits [Out.mk Unit (AX.exit (0 : Nat)) [(0 : Nat), (1 : Nat), (4 : Nat), (5 : Nat)] (fun x => True) (fun x_1 => [I (↑x : Int), I (↑y : Int), AV.ptr 0 0, I (↑(x.gcd y) : Int)]) (fun x => H.mk [[I 0, I 0]] [] []) fun x => []] (AX.exit (0 : Nat)) [I (↑x : Int), I (↑y : Int), u (2 : Nat), u (3 : Nat), AV.ptr 0 0, I (↑(x.gcd y) : Int), I 0, u (7 : Nat), u (8 : Nat), I 0, AV.bool false, u (11 : Nat), u (12 : Nat), u (13 : Nat), u (14 : Nat), u (15 : Nat), u (16 : Nat), u (17 : Nat), u (18 : Nat), u (19 : Nat), u (20 : Nat), u (21 : Nat)] (H.mk [[I 0, I 0]] [] [])) (by kernel_rfl) ?_⟩
    refine ⟨by first | with_reducible assumption | omega | assumption, ?_⟩
    exact .inl ⟨(), trivial, rfl, rfl, rfl⟩
  · have c1 : (b : Int) ≠ 0 := by omega
    have hlt : a % b < b := Nat.mod_lt _ (by omega)
    have ev0 : Int.tmod (a : Int) (b : Int) = ((a % b : Nat) : Int) := rfl
    have hg2 : Nat.gcd b (a % b) = Nat.gcd x y := by rw [← hg, Nat.gcd_comm b, Nat.gcd_comm a b, ← Nat.gcd_rec]
    have hj2 : j < y := by omega
    refine ⟨[Ans.o (Orc.b true), Ans.o (Orc.val 14 (I (↑(a % b) : Int)) H.nil)], fun u => of_eq ((↑b : Int) ≠ (0 : Int) ∧ aBin Try.prog BinOp.rem (3 : Nat) (I (↑a : Int)) (I (↑b : Int)) = some (I (↑(a % b) : Int)) ∧ (22 : Nat) = (22 : Nat) ∧ j < y ∧ Keep (H.mk [[I 0, I 0]] [] [] = H.mk [[I 0, I 0]] [] [] ∧ ∃ a_1 b_1, a_1.gcd b_1 = x.gcd y ∧ b_1 + (j + (1 : Nat)) ≤ y ∧ a_1 ≤ (1000000 : Nat) ∧ b_1 ≤ (1000000 : Nat) ∧ [I (↑x : Int), I (↑y : Int), AV.ptr 0 0, I (↑b : Int), I (↑(a % b) : Int)] = [I (↑x : Int), I (↑y : Int), AV.ptr 0 0, I (↑a_1 : Int), I (↑b_1 : Int)])) (by kernel_rfl) ?_⟩
    refine ⟨by first | with_reducible assumption | omega | assumption, ?_⟩
    refine ⟨told_rem (by first | decide | omega) (by with_reducible assumption), ?_⟩
    refine ⟨by first | with_reducible assumption | omega | assumption, ?_⟩
    refine ⟨by first | with_reducible assumption | omega | assumption, ?_⟩
    exact ⟨rfl, b, a % b, hg2, by omega, hb, by omega, rfl⟩
theorem ok78 : FokM Try.prog none1 78 Try.f78 := ⟨mixed, by kernel_rfl, by kernel_rfl, by kernel_rfl, by kernel_rfl⟩
theorem r78 (x y : Nat) (hx : x ≤ 1000000) (hy : 1 ≤ y ∧ y ≤ 1000000) : Body (En6 []) none1 Try.f78 [I x, I y] .nil (fr x y, .nil) := by
  have hl := lp78 x y hx hy.2
  have hg : 0 < Nat.gcd x y := Nat.gcd_pos_of_pos_right _ hy.1
  have c1 : ((Nat.gcd x y : Nat) : Int) ≠ 0 := by omega
  have hx2 : x / Nat.gcd x y ≤ 1000000 := Nat.le_trans (Nat.div_le_self _ _) hx
  have hy2 : y / Nat.gcd x y ≤ 1000000 := Nat.le_trans (Nat.div_le_self _ _) hy.2
  have e0 : Int.tdiv (x : Int) ((Nat.gcd x y : Nat) : Int) = ((x / Nat.gcd x y : Nat) : Int) := rfl
  have e1 : Int.tdiv (y : Int) ((Nat.gcd x y : Nat) : Int) = ((y / Nat.gcd x y : Nat) : Int) := rfl
  have c2 : 0 ≤ Int.tdiv (x : Int) ((Nat.gcd x y : Nat) : Int) ∧ Int.tdiv (x : Int) ((Nat.gcd x y : Nat) : Int) ≤ 1000000 := by rw [e0]; exact ⟨Int.natCast_nonneg _, Int.ofNat_le.mpr hx2⟩
  have c3 : 0 ≤ Int.tdiv (y : Int) ((Nat.gcd x y : Nat) : Int) ∧ Int.tdiv (y : Int) ((Nat.gcd x y : Nat) : Int) ≤ 1000000 := by rw [e1]; exact ⟨Int.natCast_nonneg _, Int.ofNat_le.mpr hy2⟩
  refine body_s ([Ans.loop [(0 : Nat), (1 : Nat), (4 : Nat), (5 : Nat), (6 : Nat)] [Out.mk Unit (AX.exit (0 : Nat)) [(0 : Nat), (1 : Nat), (4 : Nat), (5 : Nat)] (fun x => True) (fun x_1 => [I (↑x : Int), I (↑y : Int), AV.ptr 0 0, I (↑(x.gcd y) : Int)]) (fun x => H.mk [[I 0, I 0]] [] []) fun y => []]]) (LoopS (Env.mk Try.prog (Sof (P := Try.prog) []) (Pof (P := Try.prog) []) H.nil.base (300 : Nat)) (loopAt Try.f78 (0 : Nat)) (22 : Nat) [(0 : Nat), (1 : Nat), (4 : Nat), (5 : Nat), (6 : Nat)] [I (↑x : Int), I (↑y : Int), AV.ptr 0 0, I (↑x : Int), I (↑y : Int)] (H.mk [[I 0, I 0]] [] []) [Out.mk Unit (AX.exit (0 : Nat)) [(0 : Nat), (1 : Nat), (4 : Nat), (5 : Nat)] (fun x => True) (fun x_1 => [I (↑x : Int), I (↑y : Int), AV.ptr 0 0, I (↑(x.gcd y) : Int)]) (fun x => H.mk [[I 0, I 0]] [] []) fun y => []] ∧ (∀ (y_1 : Unit), True → ∀ (u : Nat → AV), (↑(x.gcd y) : Int) ≠ (0 : Int) ∧ IntKind.i64.wrap ((↑x : Int).tdiv (↑(x.gcd y) : Int)) = (↑x : Int).tdiv (↑(x.gcd y) : Int) ∧ (↑(x.gcd y) : Int) ≠ (0 : Int) ∧ IntKind.i64.wrap ((↑y : Int).tdiv (↑(x.gcd y) : Int)) = (↑y : Int).tdiv (↑(x.gcd y) : Int) ∧ (AV.agg [I ((↑x : Int).tdiv (↑(x.gcd y) : Int)), I ((↑y : Int).tdiv (↑(x.gcd y) : Int))], H.mk [] [] []) = (AV.agg [I (↑(x / x.gcd y) : Int), I (↑(y / x.gcd y) : Int)], H.mk [] [] [])) ∧ True) (by kernel_rfl) ?_
  refine ⟨hl, ?_⟩
  refine And.intro ?_ ?_
  · skip
    intro y
    intro w1
    intro u
    refine ⟨by first | with_reducible assumption | omega | assumption, ?_⟩
    refine ⟨wr _ (by omega) (by omega), ?_⟩
    refine ⟨by first | with_reducible assumption | omega | assumption, ?_⟩
    refine ⟨wr _ (by omega) (by omega), ?_⟩
    rfl
  · skip
    trivial
noncomputable def c78 : PCtr Try.prog := sctr ok78 (X := Nat × Nat) (fun x => [I x.1, I x.2]) (fun x => x.1 ≤ 1000000 ∧ 1 ≤ x.2 ∧ x.2 ≤ 1000000) (fun x => fr x.1 x.2)
  (by rintro ⟨a, b⟩ ⟨c, d⟩ e _ _; simp [Int.natCast_inj] at e; simp [e]) (fun _ => rfl) (fun _ => rfl) (fun x hx => ⟨_, _, _, .nil, r78 x.1 x.2 hx.1 hx.2⟩)
abbrev o80 (g x y : Nat) : List Out := [.mk Unit (.exit 0) [0, 1, 4, 5] (fun _ => True) (fun _ => [I x, I y, .ptr 0 0, I g]) (fun _ => ⟨[[I 0, I 0]], [], []⟩) (fun _ => [])]
theorem simp80 : allSimpleM none1 (loopAt Try.f80 0) = true := by kernel_rfl
theorem lp80 (x y : Nat) (hx : x ≤ 1000000) (hy : y ≤ 1000000) : LoopS (En6 []) (loopAt Try.f80 0) 22 [0, 1, 4, 5, 6] [I x, I y, .ptr 0 0, I x, I y] ⟨[[I 0, I 0]], [], []⟩ (o80 (Nat.gcd x y) x y) := by
  have hR : Rests (En6 []) none1 := rests mixed .nil
  refine loop_s hR simp80 none (by intro _ h; cases h) (fun j vs H => H = ⟨[[I 0, I 0]], [], []⟩ ∧ ∃ a b : Nat, Nat.gcd a b = Nat.gcd x y ∧ b + j ≤ y ∧ a ≤ 1000000 ∧ b ≤ 1000000 ∧ vs = [I x, I y, .ptr 0 0, I a, I b]) y ⟨rfl, x, y, rfl, by omega, hx, hy, rfl⟩ (by intro _ h; cases h) ?_
  rintro j vs H hj ⟨rfl, a, b, hg, hl, ha, hb, rfl⟩
  by_cases hz : b = 0
  · subst hz
    have e : a = Nat.gcd x y := by rw [← hg, Nat.gcd_zero_right]
    have c1 : ((0 : Nat) : Int) = 0 := rfl
    subst e
    refine ⟨[Ans.o Orc.dflt], fun u => of_eq ((22 : Nat) = (22 : Nat) ∧ hits [Out.mk Unit (AX.exit (0 : Nat)) [(0 : Nat), (1 : Nat), (4 : Nat), (5 : Nat)] (fun x => True) (fun x_1 => [I (↑x : Int), I (↑y : Int), AV.ptr 0 0, I (↑(x.gcd y) : Int)]) (fun x => H.mk [[I 0, I 0]] [] []) fun x => []] (AX.exit (0 : Nat)) [I (↑x : Int), I (↑y : Int), u (2 : Nat), u (3 : Nat), AV.ptr 0 0, I (↑(x.gcd y) : Int), I 0, u (7 : Nat), u (8 : Nat), I 0, AV.bool false, u (11 : Nat), u (12 : Nat), u (13 : Nat), u (14 : Nat), u (15 : Nat), u (16 : Nat), u (17 : Nat), u (18 : Nat), u (19 : Nat), u (20 : Nat), u (21 : Nat)] (H.mk [[I 0, I 0]] [] [])) (by kernel_rfl) ?_⟩
    refine ⟨by first | with_reducible assumption | omega | assumption, ?_⟩
    exact .inl ⟨(), trivial, rfl, rfl, rfl⟩
  · have c1 : (b : Int) ≠ 0 := by omega
    have hlt : a % b < b := Nat.mod_lt _ (by omega)
    have ev0 : Int.tmod (a : Int) (b : Int) = ((a % b : Nat) : Int) := rfl
    have hg2 : Nat.gcd b (a % b) = Nat.gcd x y := by rw [← hg, Nat.gcd_comm b, Nat.gcd_comm a b, ← Nat.gcd_rec]
    have hj2 : j < y := by omega
    refine ⟨[Ans.o (Orc.b true), Ans.o (Orc.val 14 (I (↑(a % b) : Int)) H.nil)], fun u => of_eq ((↑b : Int) ≠ (0 : Int) ∧ aBin Try.prog BinOp.rem (3 : Nat) (I (↑a : Int)) (I (↑b : Int)) = some (I (↑(a % b) : Int)) ∧ (22 : Nat) = (22 : Nat) ∧ j < y ∧ Keep (H.mk [[I 0, I 0]] [] [] = H.mk [[I 0, I 0]] [] [] ∧ ∃ a_1 b_1, a_1.gcd b_1 = x.gcd y ∧ b_1 + (j + (1 : Nat)) ≤ y ∧ a_1 ≤ (1000000 : Nat) ∧ b_1 ≤ (1000000 : Nat) ∧ [I (↑x : Int), I (↑y : Int), AV.ptr 0 0, I (↑b : Int), I (↑(a % b) : Int)] = [I (↑x : Int), I (↑y : Int), AV.ptr 0 0, I (↑a_1 : Int), I (↑b_1 : Int)])) (by kernel_rfl) ?_⟩
    refine ⟨by first | with_reducible assumption | omega | assumption, ?_⟩
    refine ⟨told_rem (by first | decide | omega) (by with_reducible assumption), ?_⟩
    refine ⟨by first | with_reducible assumption | omega | assumption, ?_⟩
    refine ⟨by first | with_reducible assumption | omega | assumption, ?_⟩
    exact ⟨rfl, b, a % b, hg2, by omega, hb, by omega, rfl⟩
theorem ok80 : FokM Try.prog none1 80 Try.f80 := ⟨mixed, by kernel_rfl, by kernel_rfl, by kernel_rfl, by kernel_rfl⟩
theorem r80 (x y : Nat) (hx : x ≤ 1000000) (hy : 1 ≤ y ∧ y ≤ 1000000) : Body (En6 []) none1 Try.f80 [I x, I y] .nil (fr x y, .nil) := by
  have hl := lp80 x y hx hy.2
  have hg : 0 < Nat.gcd x y := Nat.gcd_pos_of_pos_right _ hy.1
  have c1 : ((Nat.gcd x y : Nat) : Int) ≠ 0 := by omega
  have hx2 : x / Nat.gcd x y ≤ 1000000 := Nat.le_trans (Nat.div_le_self _ _) hx
  have hy2 : y / Nat.gcd x y ≤ 1000000 := Nat.le_trans (Nat.div_le_self _ _) hy.2
  have e0 : Int.tdiv (x : Int) ((Nat.gcd x y : Nat) : Int) = ((x / Nat.gcd x y : Nat) : Int) := rfl
  have e1 : Int.tdiv (y : Int) ((Nat.gcd x y : Nat) : Int) = ((y / Nat.gcd x y : Nat) : Int) := rfl
  have c2 : 0 ≤ Int.tdiv (x : Int) ((Nat.gcd x y : Nat) : Int) ∧ Int.tdiv (x : Int) ((Nat.gcd x y : Nat) : Int) ≤ 1000000 := by rw [e0]; exact ⟨Int.natCast_nonneg _, Int.ofNat_le.mpr hx2⟩
  have c3 : 0 ≤ Int.tdiv (y : Int) ((Nat.gcd x y : Nat) : Int) ∧ Int.tdiv (y : Int) ((Nat.gcd x y : Nat) : Int) ≤ 1000000 := by rw [e1]; exact ⟨Int.natCast_nonneg _, Int.ofNat_le.mpr hy2⟩
  refine body_s ([Ans.loop [(0 : Nat), (1 : Nat), (4 : Nat), (5 : Nat), (6 : Nat)] [Out.mk Unit (AX.exit (0 : Nat)) [(0 : Nat), (1 : Nat), (4 : Nat), (5 : Nat)] (fun x => True) (fun x_1 => [I (↑x : Int), I (↑y : Int), AV.ptr 0 0, I (↑(x.gcd y) : Int)]) (fun x => H.mk [[I 0, I 0]] [] []) fun y => []]]) (LoopS (Env.mk Try.prog (Sof (P := Try.prog) []) (Pof (P := Try.prog) []) H.nil.base (300 : Nat)) (loopAt Try.f80 (0 : Nat)) (22 : Nat) [(0 : Nat), (1 : Nat), (4 : Nat), (5 : Nat), (6 : Nat)] [I (↑x : Int), I (↑y : Int), AV.ptr 0 0, I (↑x : Int), I (↑y : Int)] (H.mk [[I 0, I 0]] [] []) [Out.mk Unit (AX.exit (0 : Nat)) [(0 : Nat), (1 : Nat), (4 : Nat), (5 : Nat)] (fun x => True) (fun x_1 => [I (↑x : Int), I (↑y : Int), AV.ptr 0 0, I (↑(x.gcd y) : Int)]) (fun x => H.mk [[I 0, I 0]] [] []) fun y => []] ∧ (∀ (y_1 : Unit), True → ∀ (u : Nat → AV), (↑(x.gcd y) : Int) ≠ (0 : Int) ∧ IntKind.i64.wrap ((↑x : Int).tdiv (↑(x.gcd y) : Int)) = (↑x : Int).tdiv (↑(x.gcd y) : Int) ∧ (↑(x.gcd y) : Int) ≠ (0 : Int) ∧ IntKind.i64.wrap ((↑y : Int).tdiv (↑(x.gcd y) : Int)) = (↑y : Int).tdiv (↑(x.gcd y) : Int) ∧ (AV.agg [I ((↑x : Int).tdiv (↑(x.gcd y) : Int)), I ((↑y : Int).tdiv (↑(x.gcd y) : Int))], H.mk [] [] []) = (AV.agg [I (↑(x / x.gcd y) : Int), I (↑(y / x.gcd y) : Int)], H.mk [] [] [])) ∧ True) (by kernel_rfl) ?_
  refine ⟨hl, ?_⟩
  refine And.intro ?_ ?_
  · skip
    intro y
    intro w1
    intro u
    refine ⟨by first | with_reducible assumption | omega | assumption, ?_⟩
    refine ⟨wr _ (by omega) (by omega), ?_⟩
    refine ⟨by first | with_reducible assumption | omega | assumption, ?_⟩
    refine ⟨wr _ (by omega) (by omega), ?_⟩
    rfl
  · skip
    trivial
noncomputable def c80 : PCtr Try.prog := sctr ok80 (X := Nat × Nat) (fun x => [I x.1, I x.2]) (fun x => x.1 ≤ 1000000 ∧ 1 ≤ x.2 ∧ x.2 ≤ 1000000) (fun x => fr x.1 x.2)
  (by rintro ⟨a, b⟩ ⟨c, d⟩ e _ _; simp [Int.natCast_inj] at e; simp [e]) (fun _ => rfl) (fun _ => rfl) (fun x hx => ⟨_, _, _, .nil, r80 x.1 x.2 hx.1 hx.2⟩)
/-- the lines with i before j -/
abbrev pG (n : Nat) (A : Rel) (i j : Nat) : Prop := pO n A ∧ i < n ∧ j < n
theorem r79g (n : Nat) (A : Rel) (i j : Nat) (h : pG n A i j) : Body (En6 [c102.to, c71.to, c75.to]) none1 Try.f79 [oA n A, I i, I j] .nil (I (nb A n (alls n) i j : Nat), .nil) := by
  obtain ⟨hp, hi, hj⟩ := h
  have h6 := hp.2
  have p1 := p102 hp hj hi
  have q1 := bi_oo hp (j := i) hj
  have hq : pO n (adR A i j) := ⟨ad_rg hp.1 hi hj, h6⟩
  cases b1 : bi (oo n A j) ((i : Int)).toNat
  · have hv : nb A n (alls n) i j = ct (adR A i j) n (alls n) := by rw [nb, ← q1, b1]; rfl
    rw [hv]
    refine body_s ([Ans.o (Orc.val 9 (AV.ptr 0 ((1 : Nat) + j)) H.nil), Ans.o (Orc.val 10 (I ((o7 n A).getD ((1 : Nat) + j) i0)) H.nil), Ans.o (Orc.val 12 (AV.bool false) (H.mk [ints (o7 n A)] [] [])), Ans.o (Orc.val 16 (AV.agg (ints (o7 n (adR A i j)))) (H.mk [ints (o7 n A)] [] [])), Ans.o (Orc.val 17 (I (↑(ct (adR A i j) n (alls n)) : Int)) (H.mk [ints (o7 n A)] [] []))]) (aIndexAddr Try.prog (77 : Nat) (AV.ptr 0 1) (I (↑j : Int)) = some (AV.ptr 0 ((1 : Nat) + j)) ∧ aLoad Try.prog (3 : Nat) (List.drop ((1 : Nat) + j) (ints (o7 n A))) = some (I ((o7 n A).getD ((1 : Nat) + j) i0)) ∧ aCall (Sof [c102.to, c71.to, c75.to]) (AV.fn (Fn.func (102 : Nat)) [] []) [I ((o7 n A).getD ((1 : Nat) + j) i0), I (↑i : Int)] (H.mk [ints (o7 n A)] [] []) = some (AV.bool false, H.mk [ints (o7 n A)] [] []) ∧ aCall (Sof [c102.to, c71.to, c75.to]) (AV.fn (Fn.func (71 : Nat)) [] []) [AV.agg [I (↑n : Int), I (↑(A (nat_lit 0)) : Int), I (↑(A (nat_lit 1)) : Int), I (↑(A (nat_lit 2)) : Int), I (↑(A (nat_lit 3)) : Int), I (↑(A (nat_lit 4)) : Int), I (↑(A (nat_lit 5)) : Int)], I (↑i : Int), I (↑j : Int)] (H.mk [ints (o7 n A)] [] []) = some (AV.agg (ints (o7 n (adR A i j))), H.mk [ints (o7 n A)] [] []) ∧ aCall (Sof [c102.to, c71.to, c75.to]) (AV.fn (Fn.func (75 : Nat)) [] []) [AV.agg (ints (o7 n (adR A i j)))] (H.mk [ints (o7 n A)] [] []) = some (I (↑(ct (adR A i j) n (alls n)) : Int), H.mk [ints (o7 n A)] [] []) ∧ (I (↑(ct (adR A i j) n (alls n)) : Int), H.mk [] [] []) = (I (↑(ct (adR A i j) n (alls n)) : Int), H.mk [] [] [])) (by kernel_rfl) ?_
    refine ⟨ixa_map (n := 6) (by kernel_rfl) (by omega), ?_⟩
    refine ⟨by first | exact ld_ints (by kernel_rfl) (by kernel_rfl) (by omega) | exact ldm_ints (by kernel_rfl) (by kernel_rfl) (by first | omega | (simp; omega)), ?_⟩
    refine ⟨acall_b (acall_hit (c := c102.to) (oo n A j, (i : Int)) _ rfl p1) b1, ?_⟩
    refine ⟨acall_hit (c := c71.to) ((n, A), i, j) _ rfl ⟨hp, hi, hj⟩, ?_⟩
    refine ⟨acall_hit (c := c75.to) (n, adR A i j) _ rfl hq, ?_⟩
    rfl
  · have hv : nb A n (alls n) i j = 0 := by rw [nb, ← q1, b1]; rfl
    rw [hv]
    refine body_s ([Ans.o (Orc.val 9 (AV.ptr 0 ((1 : Nat) + j)) H.nil), Ans.o (Orc.val 10 (I ((o7 n A).getD ((1 : Nat) + j) i0)) H.nil), Ans.o (Orc.val 12 (AV.bool true) (H.mk [ints (o7 n A)] [] []))]) (aIndexAddr Try.prog (77 : Nat) (AV.ptr 0 1) (I (↑j : Int)) = some (AV.ptr 0 ((1 : Nat) + j)) ∧ aLoad Try.prog (3 : Nat) (List.drop ((1 : Nat) + j) (ints (o7 n A))) = some (I ((o7 n A).getD ((1 : Nat) + j) i0)) ∧ aCall (Sof [c102.to, c71.to, c75.to]) (AV.fn (Fn.func (102 : Nat)) [] []) [I ((o7 n A).getD ((1 : Nat) + j) i0), I (↑i : Int)] (H.mk [ints (o7 n A)] [] []) = some (AV.bool true, H.mk [ints (o7 n A)] [] []) ∧ (I 0, H.mk [] [] []) = (I 0, H.mk [] [] [])) (by kernel_rfl) ?_
    refine ⟨ixa_map (n := 6) (by kernel_rfl) (by omega), ?_⟩
    refine ⟨by first | exact ld_ints (by kernel_rfl) (by kernel_rfl) (by omega) | exact ldm_ints (by kernel_rfl) (by kernel_rfl) (by first | omega | (simp; omega)), ?_⟩
    refine ⟨acall_b (acall_hit (c := c102.to) (oo n A j, (i : Int)) _ rfl p1) b1, ?_⟩
    rfl
noncomputable def c79g : PCtr Try.prog := sctr ok79 (X := (Nat × Rel) × Nat × Nat) (fun x => [oA x.1.1 x.1.2, I x.2.1, I x.2.2]) (fun x => pG x.1.1 x.1.2 x.2.1 x.2.2) (fun x => I (nb x.1.2 x.1.1 (alls x.1.1) x.2.1 x.2.2 : Nat))
  (by
    rintro ⟨⟨n, A⟩, i, j⟩ ⟨⟨m, B⟩, k, l⟩ e hx hy
    simp only [List.cons.injEq, AV.int.injEq, true_and, and_true, Int.natCast_inj] at e
    obtain ⟨rfl, rfl⟩ := o_det e.1 hx.1.1 hy.1.1 hx.1.2
    obtain ⟨rfl, rfl⟩ := e.2; rfl) (fun x => bnd3 _ _ _ _) (fun _ => rfl) (fun x hx => ⟨_, _, _, .pure _ (.pure _ (.pure _ .nil)), r79g x.1.1 x.1.2 x.2.1 x.2.2 hx⟩)
theorem nb_le {n : Nat} {A : Rel} (h6 : n ≤ 6) (i j : Nat) : nb A n (alls n) i j ≤ 46656 := by
  rw [nb]; split
  · exact Nat.zero_le _
  · exact ct_le h6 (alls_lt n)
theorem ct1 {n : Nat} {A : Rel} (h : Od n A) (h6 : n ≤ 6) : 1 ≤ ct A n (alls n) := ct_pos h.tr h.irr _ _ (Nat.le_refl _) (alls_big h6) (alls_lt n)
/-- the chance of one before another -/
abbrev chO (o : List Int) (i j : Nat) : AV := fr (nb (rel o) o.length (alls o.length) i j) (ctO o)
theorem ok34 : FokM Try.prog none1 34 Try.f34 := ⟨mixed, by kernel_rfl, by kernel_rfl, by kernel_rfl, by kernel_rfl⟩
theorem r34t (o : List Int) (r : Room) (i j : Nat) (h : pI o r ∧ OrdL o) (hi : el o i) (hj : el o j) (hne : i ≠ j) : Body (En6 [c69t.to, c65.to, c79g.to, c75.to, c78.to]) none1 Try.f34 [ls o r, I i, I j] .nil (.tup [chO o i j, I 0], .nil) := by
  have hp := h.2.p
  have b65 : decide ((0 ≤ (i : Int) ∧ (i : Int) < o.length) ∧ 0 ≤ (j : Int) ∧ (j : Int) < o.length) = true := by rw [decide_eq_true_eq]; simp only [el] at hi hj; omega
  have c1 : (i : Int) ≠ j := by omega
  have hle : ctO o ≤ 46656 := ct_le h.2.s.2 (alls_lt _)
  have h1 : 1 ≤ ctO o := ct1 h.2.od h.2.s.2
  have hb := nb_le (A := rel o) h.2.s.2 i j
  refine body_s ([Ans.o (Orc.val 12 (AV.tup [AV.agg (ints (o7 o.length (rel o))), AV.bool true]) (H.mk [[I 0, I 0]] [] [])), Ans.o (Orc.val 21 (AV.bool true) (H.mk [[I 0, I 0], [I (↑o.length : Int), I (↑(rel o (nat_lit 0)) : Int), I (↑(rel o (nat_lit 1)) : Int), I (↑(rel o (nat_lit 2)) : Int), I (↑(rel o (nat_lit 3)) : Int), I (↑(rel o (nat_lit 4)) : Int), I (↑(rel o (nat_lit 5)) : Int)]] [] [])), Ans.o (Orc.b false), Ans.o (Orc.val 33 (I (↑(nb (rel o) o.length (alls o.length) i j) : Int)) (H.mk [[I 0, I 0], [I (↑o.length : Int), I (↑(rel o (nat_lit 0)) : Int), I (↑(rel o (nat_lit 1)) : Int), I (↑(rel o (nat_lit 2)) : Int), I (↑(rel o (nat_lit 3)) : Int), I (↑(rel o (nat_lit 4)) : Int), I (↑(rel o (nat_lit 5)) : Int)]] [] [])), Ans.o (Orc.val 35 (I (↑(ct (rel o) o.length (alls o.length)) : Int)) (H.mk [[I 0, I 0], [I (↑o.length : Int), I (↑(rel o (nat_lit 0)) : Int), I (↑(rel o (nat_lit 1)) : Int), I (↑(rel o (nat_lit 2)) : Int), I (↑(rel o (nat_lit 3)) : Int), I (↑(rel o (nat_lit 4)) : Int), I (↑(rel o (nat_lit 5)) : Int)]] [] [])), Ans.o (Orc.val 36 (AV.agg [I (↑(nb (rel o) o.length (alls o.length) i j / (nb (rel o) o.length (alls o.length) i j).gcd (ct (rel o) o.length (alls o.length))) : Int), I (↑(ct (rel o) o.length (alls o.length) / (nb (rel o) o.length (alls o.length) i j).gcd (ct (rel o) o.length (alls o.length))) : Int)]) (H.mk [[I 0, I 0], [I (↑o.length : Int), I (↑(rel o (nat_lit 0)) : Int), I (↑(rel o (nat_lit 1)) : Int), I (↑(rel o (nat_lit 2)) : Int), I (↑(rel o (nat_lit 3)) : Int), I (↑(rel o (nat_lit 4)) : Int), I (↑(rel o (nat_lit 5)) : Int)]] [] []))]) (aCall (Sof [c69t.to, c65.to, c79g.to, c75.to, c78.to]) (AV.fn (Fn.func (69 : Nat)) [] []) [AV.sl (ints o) o.length r] (H.mk [[I 0, I 0]] [] []) = some (AV.tup [AV.agg (ints (o7 o.length (rel o))), AV.bool true], H.mk [[I 0, I 0]] [] []) ∧ aCall (Sof [c69t.to, c65.to, c79g.to, c75.to, c78.to]) (AV.fn (Fn.func (65 : Nat)) [] []) [AV.agg [I (↑o.length : Int), I (↑(rel o (nat_lit 0)) : Int), I (↑(rel o (nat_lit 1)) : Int), I (↑(rel o (nat_lit 2)) : Int), I (↑(rel o (nat_lit 3)) : Int), I (↑(rel o (nat_lit 4)) : Int), I (↑(rel o (nat_lit 5)) : Int)], I (↑i : Int), I (↑j : Int)] (H.mk [[I 0, I 0], [I (↑o.length : Int), I (↑(rel o (nat_lit 0)) : Int), I (↑(rel o (nat_lit 1)) : Int), I (↑(rel o (nat_lit 2)) : Int), I (↑(rel o (nat_lit 3)) : Int), I (↑(rel o (nat_lit 4)) : Int), I (↑(rel o (nat_lit 5)) : Int)]] [] []) = some (AV.bool true, H.mk [[I 0, I 0], [I (↑o.length : Int), I (↑(rel o (nat_lit 0)) : Int), I (↑(rel o (nat_lit 1)) : Int), I (↑(rel o (nat_lit 2)) : Int), I (↑(rel o (nat_lit 3)) : Int), I (↑(rel o (nat_lit 4)) : Int), I (↑(rel o (nat_lit 5)) : Int)]] [] []) ∧ (↑i : Int) ≠ (↑j : Int) ∧ aCall (Sof [c69t.to, c65.to, c79g.to, c75.to, c78.to]) (AV.fn (Fn.func (79 : Nat)) [] []) [AV.agg [I (↑o.length : Int), I (↑(rel o (nat_lit 0)) : Int), I (↑(rel o (nat_lit 1)) : Int), I (↑(rel o (nat_lit 2)) : Int), I (↑(rel o (nat_lit 3)) : Int), I (↑(rel o (nat_lit 4)) : Int), I (↑(rel o (nat_lit 5)) : Int)], I (↑i : Int), I (↑j : Int)] (H.mk [[I 0, I 0], [I (↑o.length : Int), I (↑(rel o (nat_lit 0)) : Int), I (↑(rel o (nat_lit 1)) : Int), I (↑(rel o (nat_lit 2)) : Int), I (↑(rel o (nat_lit 3)) : Int), I (↑(rel o (nat_lit 4)) : Int), I (↑(rel o (nat_lit 5)) : Int)]] [] []) = some (I (↑(nb (rel o) o.length (alls o.length) i j) : Int), H.mk [[I 0, I 0], [I (↑o.length : Int), I (↑(rel o (nat_lit 0)) : Int), I (↑(rel o (nat_lit 1)) : Int), I (↑(rel o (nat_lit 2)) : Int), I (↑(rel o (nat_lit 3)) : Int), I (↑(rel o (nat_lit 4)) : Int), I (↑(rel o (nat_lit 5)) : Int)]] [] []) ∧ aCall (Sof [c69t.to, c65.to, c79g.to, c75.to, c78.to]) (AV.fn (Fn.func (75 : Nat)) [] []) [AV.agg [I (↑o.length : Int), I (↑(rel o (nat_lit 0)) : Int), I (↑(rel o (nat_lit 1)) : Int), I (↑(rel o (nat_lit 2)) : Int), I (↑(rel o (nat_lit 3)) : Int), I (↑(rel o (nat_lit 4)) : Int), I (↑(rel o (nat_lit 5)) : Int)]] (H.mk [[I 0, I 0], [I (↑o.length : Int), I (↑(rel o (nat_lit 0)) : Int), I (↑(rel o (nat_lit 1)) : Int), I (↑(rel o (nat_lit 2)) : Int), I (↑(rel o (nat_lit 3)) : Int), I (↑(rel o (nat_lit 4)) : Int), I (↑(rel o (nat_lit 5)) : Int)]] [] []) = some (I (↑(ct (rel o) o.length (alls o.length)) : Int), H.mk [[I 0, I 0], [I (↑o.length : Int), I (↑(rel o (nat_lit 0)) : Int), I (↑(rel o (nat_lit 1)) : Int), I (↑(rel o (nat_lit 2)) : Int), I (↑(rel o (nat_lit 3)) : Int), I (↑(rel o (nat_lit 4)) : Int), I (↑(rel o (nat_lit 5)) : Int)]] [] []) ∧ aCall (Sof [c69t.to, c65.to, c79g.to, c75.to, c78.to]) (AV.fn (Fn.func (78 : Nat)) [] []) [I (↑(nb (rel o) o.length (alls o.length) i j) : Int), I (↑(ct (rel o) o.length (alls o.length)) : Int)] (H.mk [[I 0, I 0], [I (↑o.length : Int), I (↑(rel o (nat_lit 0)) : Int), I (↑(rel o (nat_lit 1)) : Int), I (↑(rel o (nat_lit 2)) : Int), I (↑(rel o (nat_lit 3)) : Int), I (↑(rel o (nat_lit 4)) : Int), I (↑(rel o (nat_lit 5)) : Int)]] [] []) = some (AV.agg [I (↑(nb (rel o) o.length (alls o.length) i j / (nb (rel o) o.length (alls o.length) i j).gcd (ct (rel o) o.length (alls o.length))) : Int), I (↑(ct (rel o) o.length (alls o.length) / (nb (rel o) o.length (alls o.length) i j).gcd (ct (rel o) o.length (alls o.length))) : Int)], H.mk [[I 0, I 0], [I (↑o.length : Int), I (↑(rel o (nat_lit 0)) : Int), I (↑(rel o (nat_lit 1)) : Int), I (↑(rel o (nat_lit 2)) : Int), I (↑(rel o (nat_lit 3)) : Int), I (↑(rel o (nat_lit 4)) : Int), I (↑(rel o (nat_lit 5)) : Int)]] [] []) ∧ (AV.tup [AV.agg [I (↑(nb (rel o) o.length (alls o.length) i j / (nb (rel o) o.length (alls o.length) i j).gcd (ct (rel o) o.length (alls o.length))) : Int), I (↑(ct (rel o) o.length (alls o.length) / (nb (rel o) o.length (alls o.length) i j).gcd (ct (rel o) o.length (alls o.length))) : Int)], I 0], H.mk [] [] []) = (AV.tup [AV.agg [I (↑(nb (rel o) o.length (alls o.length) i j / (nb (rel o) o.length (alls o.length) i j).gcd (ctO o)) : Int), I (↑(ctO o / (nb (rel o) o.length (alls o.length) i j).gcd (ctO o)) : Int)], I 0], H.mk [] [] [])) (by kernel_rfl) ?_
  refine ⟨acall_hit (c := c69t.to) ((o, r) : List Int × Room) _ rfl h, ?_⟩
  refine ⟨acall_b (acall_hit (c := c65.to) ((o.length, rel o), (i : Int), (j : Int)) _ rfl hp) b65, ?_⟩
  refine ⟨by first | with_reducible assumption | omega | assumption, ?_⟩
  refine ⟨acall_hit (c := c79g.to) ((o.length, rel o), i, j) _ rfl ⟨hp, hi, hj⟩, ?_⟩
  refine ⟨acall_hit (c := c75.to) (o.length, rel o) _ rfl hp, ?_⟩
  refine ⟨acall_hit (c := c78.to) (nb (rel o) o.length (alls o.length) i j, ctO o) _ rfl ⟨Nat.le_trans hb (by decide), h1, Nat.le_trans hle (by decide)⟩, ?_⟩
  rfl
theorem ok38 : FokM Try.prog none1 38 Try.f38 := ⟨mixed, by kernel_rfl, by kernel_rfl, by kernel_rfl, by kernel_rfl⟩
theorem r38 (o : List Int) (r : Room) (i j : Nat) (h : OrdL o ∧ rok o r) (hi : el o i) (hj : el o j) (hne : i ≠ j) : Body (En6 [c73.to, c28.to, c33.to, c80.to]) none1 Try.f38 [ls o r, I i, I j] .nil (chO o i j, .nil) := by
  have h6 := h.1.s.2
  have hod := h.1.od
  have hsz : (sz o ∧ rgO o) ∧ rok o r := ⟨⟨h.1.s, h.1.r⟩, h.2⟩
  have hle : ctO o ≤ 46656 := ct_le h6 (alls_lt _)
  have h1 : 1 ≤ ctO o := ct1 hod h6
  have p1 : ((sz o ∧ rgO o) ∧ rok o r) ∧ i < o.length ∧ j ≤ 64 := ⟨hsz, hi, by simp only [el] at hj; omega⟩
  have p2 : ((sz o ∧ rgO o) ∧ rok o r) ∧ j < o.length ∧ i ≤ 64 := ⟨hsz, hj, by simp only [el] at hi; omega⟩
  cases b1 : bi (ia o i) j
  · cases b2 : bi (ia o j) i
    · have hf : Fr (rel o) i j := ⟨hne, by show ¬ bi (ia o i) j = true; rw [b1]; simp, by show ¬ bi (ia o j) i = true; rw [b2]; simp⟩
      have ha := ad_or hod hi hj hf
      have hOa : OrdL (rl o.length (adR (rel o) i j)) := rl_ord ha h.1.s.1 h6
      have hv : nb (rel o) o.length (alls o.length) i j = ctO (rl o.length (adR (rel o) i j)) := by
        rw [ctO_rl ha.rg, nb, if_neg]; exact hf.2.2
      have hcb : ctO (rl o.length (adR (rel o) i j)) ≤ 46656 := by rw [ctO_rl ha.rg]; exact ct_le h6 (alls_lt _)
      show Body _ _ _ _ _ (fr (nb (rel o) o.length (alls o.length) i j) (ctO o), _)
      rw [hv]
      refine body_s ([Ans.o (Orc.val 11 (AV.bool false) (H.mk [[I 0, I 0]] [] [])), Ans.o (Orc.val 17 (AV.bool false) (H.mk [[I 0, I 0]] [] [])), Ans.o (Orc.val 22 (AV.sl (ints (rl o.length (adR (rel o) i j))) (rl o.length (adR (rel o) i j)).length Room.no) (H.mk [[I 0, I 0]] [] [])), Ans.o (Orc.val 23 (I (↑(ctO (rl o.length (adR (rel o) i j))) : Int)) (H.mk [[I 0, I 0]] [] [])), Ans.o (Orc.val 25 (I (↑(ctO o) : Int)) (H.mk [[I 0, I 0]] [] [])), Ans.o (Orc.val 26 (AV.agg [I (↑(ctO (rl o.length (adR (rel o) i j)) / (ctO (rl o.length (adR (rel o) i j))).gcd (ctO o)) : Int), I (↑(ctO o / (ctO (rl o.length (adR (rel o) i j))).gcd (ctO o)) : Int)]) (H.mk [[I 0, I 0]] [] []))]) (aCall (Sof [c73.to, c28.to, c33.to, c80.to]) (AV.fn (Fn.func (73 : Nat)) [] []) [AV.sl (ints o) o.length r, I (↑i : Int), I (↑j : Int)] (H.mk [[I 0, I 0]] [] []) = some (AV.bool false, H.mk [[I 0, I 0]] [] []) ∧ aCall (Sof [c73.to, c28.to, c33.to, c80.to]) (AV.fn (Fn.func (73 : Nat)) [] []) [AV.sl (ints o) o.length r, I (↑j : Int), I (↑i : Int)] (H.mk [[I 0, I 0]] [] []) = some (AV.bool false, H.mk [[I 0, I 0]] [] []) ∧ aCall (Sof [c73.to, c28.to, c33.to, c80.to]) (AV.fn (Fn.func (28 : Nat)) [] []) [AV.sl (ints o) o.length r, I (↑i : Int), I (↑j : Int)] (H.mk [[I 0, I 0]] [] []) = some (AV.sl (ints (rl o.length (adR (rel o) i j))) (rl o.length (adR (rel o) i j)).length Room.no, H.mk [[I 0, I 0]] [] []) ∧ aCall (Sof [c73.to, c28.to, c33.to, c80.to]) (AV.fn (Fn.func (33 : Nat)) [] []) [AV.sl (ints (rl o.length (adR (rel o) i j))) (rl o.length (adR (rel o) i j)).length Room.no] (H.mk [[I 0, I 0]] [] []) = some (I (↑(ctO (rl o.length (adR (rel o) i j))) : Int), H.mk [[I 0, I 0]] [] []) ∧ aCall (Sof [c73.to, c28.to, c33.to, c80.to]) (AV.fn (Fn.func (33 : Nat)) [] []) [AV.sl (ints o) o.length r] (H.mk [[I 0, I 0]] [] []) = some (I (↑(ctO o) : Int), H.mk [[I 0, I 0]] [] []) ∧ aCall (Sof [c73.to, c28.to, c33.to, c80.to]) (AV.fn (Fn.func (80 : Nat)) [] []) [I (↑(ctO (rl o.length (adR (rel o) i j))) : Int), I (↑(ctO o) : Int)] (H.mk [[I 0, I 0]] [] []) = some (AV.agg [I (↑(ctO (rl o.length (adR (rel o) i j)) / (ctO (rl o.length (adR (rel o) i j))).gcd (ctO o)) : Int), I (↑(ctO o / (ctO (rl o.length (adR (rel o) i j))).gcd (ctO o)) : Int)], H.mk [[I 0, I 0]] [] []) ∧ (AV.agg [I (↑(ctO (rl o.length (adR (rel o) i j)) / (ctO (rl o.length (adR (rel o) i j))).gcd (ctO o)) : Int), I (↑(ctO o / (ctO (rl o.length (adR (rel o) i j))).gcd (ctO o)) : Int)], H.mk [] [] []) = (AV.agg [I (↑(ctO (rl o.length (adR (rel o) i j)) / (ctO (rl o.length (adR (rel o) i j))).gcd (ctO o)) : Int), I (↑(ctO o / (ctO (rl o.length (adR (rel o) i j))).gcd (ctO o)) : Int)], H.mk [] [] [])) (by kernel_rfl) ?_
      refine ⟨by first | exact acall_b (acall_hit (c := c73.to) (o, r, i, j) _ rfl p1) b1 | exact acall_b (acall_hit (c := c73.to) (o, r, j, i) _ rfl p2) b2, ?_⟩
      refine ⟨by first | exact acall_b (acall_hit (c := c73.to) (o, r, i, j) _ rfl p1) b1 | exact acall_b (acall_hit (c := c73.to) (o, r, j, i) _ rfl p2) b2, ?_⟩
      refine ⟨acall_hit (c := c28.to) ((o, r), i, j) _ rfl ⟨hsz, hi, hj⟩, ?_⟩
      refine ⟨by first | exact acall_hit (c := c33.to) (o, r) _ rfl h | exact acall_hit (c := c33.to) (rl o.length (adR (rel o) i j), .no) _ rfl ⟨hOa, fun _ => no_ne⟩, ?_⟩
      refine ⟨by first | exact acall_hit (c := c33.to) (o, r) _ rfl h | exact acall_hit (c := c33.to) (rl o.length (adR (rel o) i j), .no) _ rfl ⟨hOa, fun _ => no_ne⟩, ?_⟩
      refine ⟨acall_hit (c := c80.to) (ctO (rl o.length (adR (rel o) i j)), ctO o) _ rfl ⟨Nat.le_trans hcb (by decide), h1, Nat.le_trans hle (by decide)⟩, ?_⟩
      rfl
    · have hv : nb (rel o) o.length (alls o.length) i j = 0 := by rw [nb, if_pos]; exact b2
      have e : chO o i j = .agg [I 0, I 1] := by
        show fr (nb (rel o) o.length (alls o.length) i j) (ctO o) = _
        rw [hv]
        show AV.agg [I ((0 / Nat.gcd 0 (ctO o) : Nat) : Int), I ((ctO o / Nat.gcd 0 (ctO o) : Nat) : Int)] = _
        rw [Nat.gcd_zero_left, Nat.zero_div, Nat.div_self h1]; rfl
      rw [e]
      refine body_s ([Ans.o (Orc.val 11 (AV.bool false) (H.mk [[I 0, I 0]] [] [])), Ans.o (Orc.val 17 (AV.bool true) (H.mk [[I 0, I 0]] [] []))]) (aCall (Sof [c73.to, c28.to, c33.to, c80.to]) (AV.fn (Fn.func (73 : Nat)) [] []) [AV.sl (ints o) o.length r, I (↑i : Int), I (↑j : Int)] (H.mk [[I 0, I 0]] [] []) = some (AV.bool false, H.mk [[I 0, I 0]] [] []) ∧ aCall (Sof [c73.to, c28.to, c33.to, c80.to]) (AV.fn (Fn.func (73 : Nat)) [] []) [AV.sl (ints o) o.length r, I (↑j : Int), I (↑i : Int)] (H.mk [[I 0, I 0]] [] []) = some (AV.bool true, H.mk [[I 0, I 0]] [] []) ∧ (AV.agg [I 0, I 1], H.mk [] [] []) = (AV.agg [I 0, I 1], H.mk [] [] [])) (by kernel_rfl) ?_
      refine ⟨by first | exact acall_b (acall_hit (c := c73.to) (o, r, i, j) _ rfl p1) b1 | exact acall_b (acall_hit (c := c73.to) (o, r, j, i) _ rfl p2) b2, ?_⟩
      refine ⟨by first | exact acall_b (acall_hit (c := c73.to) (o, r, i, j) _ rfl p1) b1 | exact acall_b (acall_hit (c := c73.to) (o, r, j, i) _ rfl p2) b2, ?_⟩
      rfl
  · have hv : nb (rel o) o.length (alls o.length) i j = ctO o := by
      have hnb : ¬ (rel o j).testBit i = true := fun q => hod.irr i (hod.tr _ _ _ b1 q)
      rw [nb, if_neg hnb, ad_same hod b1]
    have e : chO o i j = .agg [I 1, I 1] := by
      show fr (nb (rel o) o.length (alls o.length) i j) (ctO o) = _
      rw [hv]
      show AV.agg [I ((ctO o / Nat.gcd (ctO o) (ctO o) : Nat) : Int), I ((ctO o / Nat.gcd (ctO o) (ctO o) : Nat) : Int)] = _
      rw [Nat.gcd_self, Nat.div_self h1]; rfl
    rw [e]
    refine body_s ([Ans.o (Orc.val 11 (AV.bool true) (H.mk [[I 0, I 0]] [] []))]) (aCall (Sof [c73.to, c28.to, c33.to, c80.to]) (AV.fn (Fn.func (73 : Nat)) [] []) [AV.sl (ints o) o.length r, I (↑i : Int), I (↑j : Int)] (H.mk [[I 0, I 0]] [] []) = some (AV.bool true, H.mk [[I 0, I 0]] [] []) ∧ (AV.agg [I 1, I 1], H.mk [] [] []) = (AV.agg [I 1, I 1], H.mk [] [] [])) (by kernel_rfl) ?_
    refine ⟨acall_b (acall_hit (c := c73.to) (o, r, i, j) _ rfl p1) b1, ?_⟩
    rfl
end Go.Proofs.Ord

