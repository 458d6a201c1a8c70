/- Layer 6: numbers within bounds, games of pegs. -/
import Derived.Test.YtaobnlpfaeecnaaVm6
import Derived.Test.YtaobnlpfaeecnaaGsM
import Derived.Test.YtaobnlpfaeecnaaProg
import Derived.KernelRfl
set_option linter.unusedSimpArgs false
set_option linter.unusedVariables false
set_option linter.unnecessarySimpa false
set_option maxHeartbeats 4000000
set_option maxRecDepth 100000
namespace Go.Proofs.Gss
open Go Go.VM

theorem mixed : Try.prog.follows .mixedOrders = true := by kernel_rfl
instance : Inhabited Globs := ⟨⟨fun _ => []⟩⟩
theorem globs_ok (G : Ghost) : GlobOk G := fun g i v h => by cases h
noncomputable abbrev En6 (cs : List (Ctr Try.prog)) : Env := ⟨Try.prog, Sof (P := Try.prog) cs, Pof (P := Try.prog) [], H.nil.base, 300⟩
abbrev lim (n : Nat) : Prop := n ≤ 9223372036854775807
abbrev ls (l : List Int) (r : Room) : AV := .sl (ints l) l.length r
abbrev ia (l : List Int) (i : Nat) : Int := l.getD i i0
/-- the same contract, its arguments told otherwise -/
def re {P : Program} (c : PCtr P) {Y : Type} (g : Y → c.X) (args : Y → List AV) (ha : ∀ y, c.args (g y) = args y) : PCtr P where
  f := c.f
  X := Y
  args := args
  pre y := c.pre (g y)
  v y := c.v (g y)
  det x y e p q := c.det _ _ (by rw [ha, ha]; exact e) p q
  ok y p := by rw [← ha]; exact c.ok (g y) p

/-- are all numbers from lo to hi? -/
def wn (lo hi : Int) (l : List Int) : Bool := l.all fun n => decide (lo ≤ n) && decide (n ≤ hi)
theorem wn_drop {lo hi : Int} {l : List Int} {j : Nat} (h : j < l.length) : wn lo hi (l.drop j) = (decide (lo ≤ ia l j) && decide (ia l j ≤ hi) && wn lo hi (l.drop (j + 1))) := by
  have e : l.getD j i0 = l[j] := by simp [List.getD_eq_getElem?_getD, List.getElem?_eq_getElem h]
  rw [List.drop_eq_getElem_cons h, ia, e]; rfl
abbrev o71 (lo hi : Int) (l : List Int) : List Out :=
  [.mk Unit .ret [6] (fun _ => wn lo hi l = false) (fun _ => [.bool false]) (fun _ => .nil) (fun _ => []), .mk Unit (.exit 0) [] (fun _ => wn lo hi l = true) (fun _ => []) (fun _ => .nil) (fun _ => [])]
theorem simp71 : allSimpleM none1 (loopAt Try.f71 0) = true := by kernel_rfl
theorem lp71 (lo hi : Int) (l : List Int) (r : Room) (hl : lim l.length) (hr : rok l r) :
    LoopS (En6 []) (loopAt Try.f71 0) 24 [0, 1, 9, 10, 11] [I lo, I hi, ls l r, I l.length, I 0] .nil (o71 lo hi l) := by
  have hR : Rests (En6 []) none1 := rests mixed .nil
  refine loop_s hR simp71 none (by intro _ h; cases h) (fun j vs h => h = .nil ∧ vs = [I lo, I hi, ls l r, I l.length, I j] ∧ wn lo hi l = wn lo hi (l.drop j)) l.length ⟨rfl, rfl, rfl⟩ (by intro _ h; cases h) ?_
  rintro j vs h hj ⟨rfl, rfl, ha⟩
  by_cases hz : (j : Int) < l.length
  · have hz' : j < l.length := by omega
    have hr' := rok_idx hr hz'
    rw [wn_drop hz'] at ha
    by_cases c1 : ia l j < lo
    · have ha : wn lo hi l = false := by rw [ha, decide_eq_false (by omega)]; rfl
      refine ⟨[Ans.o (Orc.b true), Ans.o (Orc.val 13 (AV.cptr (ints (List.drop j l))) H.nil), Ans.o (Orc.val 14 (I (l.getD j i0)) H.nil), Ans.o (Orc.b true)], fun u => of_eq ((↑j : Int) < (↑l.length : Int) ∧ aIndexAddr Try.prog (31 : Nat) (AV.sl (ints l) l.length r) (I (↑j : Int)) = some (AV.cptr (ints (List.drop j l))) ∧ aLoad Try.prog (3 : Nat) (ints (List.drop j l)) = some (I (l.getD j i0)) ∧ l.getD j i0 < lo ∧ (24 : Nat) = (24 : Nat) ∧ hits [Out.mk Unit AX.ret [(6 : Nat)] (fun x => wn lo hi l = false) (fun x => [AV.bool false]) (fun x => H.nil) fun x => [], Out.mk Unit (AX.exit (0 : Nat)) [] (fun x => wn lo hi l = true) (fun x => []) (fun x => H.nil) fun x => []] AX.ret [I lo, I hi, u (2 : Nat), u (3 : Nat), u (4 : Nat), u (5 : Nat), AV.bool false, u (7 : Nat), I (l.getD j i0), AV.sl (ints l) l.length r, I (↑l.length : Int), I (↑j : Int), AV.bool true, AV.cptr (ints (List.drop j l)), I (l.getD j i0), I (l.getD j i0), I lo, AV.bool true, AV.bool true, AV.tup [], AV.tup [], AV.tup [], AV.bool true, u (23 : Nat)] (H.mk [] [] [])) (by kernel_rfl) ?_⟩
      refine ⟨by first | with_reducible assumption | omega | assumption, ?_⟩
      refine ⟨by first | exact ix_ints (by kernel_rfl) (by omega) (by assumption) | exact ix_ints (by kernel_rfl) (by omega) (rok_idx (by assumption) (by omega)), ?_⟩
      refine ⟨by first | exact ld_ints (by kernel_rfl) (by kernel_rfl) (by omega) | exact ldm_ints (by kernel_rfl) (by kernel_rfl) (by first | omega | (simp; omega)), ?_⟩
      refine ⟨by first | with_reducible assumption | omega | assumption, ?_⟩
      refine ⟨by first | with_reducible assumption | omega | assumption, ?_⟩
      exact .inl ⟨(), ha, rfl, rfl, rfl⟩
    · have c1 : lo ≤ ia l j := by omega
      by_cases c2 : hi < ia l j
      · have ha : wn lo hi l = false := by rw [ha, decide_eq_false (p := ia l j ≤ hi) (by omega), Bool.and_false]; rfl
        refine ⟨[Ans.o (Orc.b true), Ans.o (Orc.val 13 (AV.cptr (ints (List.drop j l))) H.nil), Ans.o (Orc.val 14 (I (l.getD j i0)) H.nil), Ans.o (Orc.b false), Ans.o (Orc.b true)], fun u => of_eq ((↑j : Int) < (↑l.length : Int) ∧ aIndexAddr Try.prog (31 : Nat) (AV.sl (ints l) l.length r) (I (↑j : Int)) = some (AV.cptr (ints (List.drop j l))) ∧ aLoad Try.prog (3 : Nat) (ints (List.drop j l)) = some (I (l.getD j i0)) ∧ lo ≤ l.getD j i0 ∧ hi < l.getD j i0 ∧ (24 : Nat) = (24 : Nat) ∧ hits [Out.mk Unit AX.ret [(6 : Nat)] (fun x => wn lo hi l = false) (fun x => [AV.bool false]) (fun x => H.nil) fun x => [], Out.mk Unit (AX.exit (0 : Nat)) [] (fun x => wn lo hi l = true) (fun x => []) (fun x => H.nil) fun x => []] AX.ret [I lo, I hi, u (2 : Nat), u (3 : Nat), u (4 : Nat), u (5 : Nat), AV.bool false, u (7 : Nat), I (l.getD j i0), AV.sl (ints l) l.length r, I (↑l.length : Int), I (↑j : Int), AV.bool true, AV.cptr (ints (List.drop j l)), I (l.getD j i0), I (l.getD j i0), I lo, AV.bool false, AV.bool false, I (l.getD j i0), I hi, AV.bool true, AV.bool true, u (23 : Nat)] (H.mk [] [] [])) (by kernel_rfl) ?_⟩
        refine ⟨by first | with_reducible assumption | omega | assumption, ?_⟩
        refine ⟨by first | exact ix_ints (by kernel_rfl) (by omega) (by assumption) | exact ix_ints (by kernel_rfl) (by omega) (rok_idx (by assumption) (by omega)), ?_⟩
        refine ⟨by first | exact ld_ints (by kernel_rfl) (by kernel_rfl) (by omega) | exact ldm_ints (by kernel_rfl) (by kernel_rfl) (by first | omega | (simp; omega)), ?_⟩
        refine ⟨by first | with_reducible assumption | omega | assumption, ?_⟩
        refine ⟨by first | with_reducible assumption | omega | assumption, ?_⟩
        refine ⟨by first | with_reducible assumption | omega | assumption, ?_⟩
        exact .inl ⟨(), ha, rfl, rfl, rfl⟩
      · have c2 : ia l j ≤ hi := by omega
        have ha : wn lo hi l = wn lo hi (l.drop (j + 1)) := by rw [ha, decide_eq_true c1, decide_eq_true c2]; rfl
        refine ⟨[Ans.o (Orc.b true), Ans.o (Orc.val 13 (AV.cptr (ints (List.drop j l))) H.nil), Ans.o (Orc.val 14 (I (l.getD j i0)) H.nil), Ans.o (Orc.b false), Ans.o (Orc.b false)], fun u => of_eq ((↑j : Int) < (↑l.length : Int) ∧ aIndexAddr Try.prog (31 : Nat) (AV.sl (ints l) l.length r) (I (↑j : Int)) = some (AV.cptr (ints (List.drop j l))) ∧ aLoad Try.prog (3 : Nat) (ints (List.drop j l)) = some (I (l.getD j i0)) ∧ lo ≤ l.getD j i0 ∧ l.getD j i0 ≤ hi ∧ IntKind.i64.wrap ((↑j : Int) + (1 : Int)) = (↑j : Int) + (1 : Int) ∧ (24 : Nat) = (24 : Nat) ∧ j < l.length ∧ Keep (H.mk [] [] [] = H.mk [] [] [] ∧ [I lo, I hi, AV.sl (ints l) l.length r, I (↑l.length : Int), I ((↑j : Int) + (1 : Int))] = [I lo, I hi, AV.sl (ints l) l.length r, I (↑l.length : Int), I (↑(j + (1 : Nat)) : Int)] ∧ wn lo hi l = wn lo hi (List.drop (j + (1 : Nat)) l))) (by kernel_rfl) ?_⟩
        refine ⟨by first | with_reducible assumption | omega | assumption, ?_⟩
        refine ⟨by first | exact ix_ints (by kernel_rfl) (by omega) (by assumption) | exact ix_ints (by kernel_rfl) (by omega) (rok_idx (by assumption) (by omega)), ?_⟩
        refine ⟨by first | exact ld_ints (by kernel_rfl) (by kernel_rfl) (by omega) | exact ldm_ints (by kernel_rfl) (by kernel_rfl) (by first | omega | (simp; omega)), ?_⟩
        refine ⟨by first | with_reducible assumption | omega | assumption, ?_⟩
        refine ⟨by first | with_reducible assumption | omega | assumption, ?_⟩
        refine ⟨wr _ (by omega) (by omega), ?_⟩
        refine ⟨by first | with_reducible assumption | omega | assumption, ?_⟩
        refine ⟨by first | with_reducible assumption | omega | assumption, ?_⟩
        exact ⟨rfl, rfl, ha⟩
  · have hz : (l.length : Int) ≤ j := by omega
    have hj' : j = l.length := by omega
    subst hj'
    rw [List.drop_length] at ha
    have ha : wn lo hi l = true := ha
    refine ⟨[Ans.o (Orc.b false)], fun u => of_eq ((↑l.length : Int) ≤ (↑l.length : Int) ∧ (24 : Nat) = (24 : Nat) ∧ hits [Out.mk Unit AX.ret [(6 : Nat)] (fun x => wn lo hi l = false) (fun x => [AV.bool false]) (fun x => H.nil) fun x => [], Out.mk Unit (AX.exit (0 : Nat)) [] (fun x => wn lo hi l = true) (fun x => []) (fun x => H.nil) fun x => []] (AX.exit (0 : Nat)) [I lo, I hi, u (2 : Nat), u (3 : Nat), u (4 : Nat), u (5 : Nat), u (6 : Nat), u (7 : Nat), u (8 : Nat), AV.sl (ints l) l.length r, I (↑l.length : Int), I (↑l.length : Int), AV.bool false, u (13 : Nat), u (14 : Nat), u (15 : Nat), u (16 : Nat), u (17 : Nat), u (18 : Nat), u (19 : Nat), u (20 : Nat), u (21 : Nat), u (22 : Nat), u (23 : Nat)] (H.mk [] [] [])) (by kernel_rfl) ?_⟩
    refine ⟨by first | with_reducible assumption | omega | assumption, ?_⟩
    refine ⟨by first | with_reducible assumption | omega | assumption, ?_⟩
    exact .inr (.inl ⟨(), ha, rfl, rfl, rfl⟩)
theorem ok71 : FokM Try.prog none1 71 Try.f71 := ⟨mixed, by kernel_rfl, by kernel_rfl, by kernel_rfl, by kernel_rfl⟩
theorem r71 (lo : Int) (hi : Int) (l : List Int) (r : Room) (hp : lim l.length ∧ rok l r) : Body ⟨Try.prog, Sof (P := Try.prog) [], Pof (P := Try.prog) [], H.nil.base, 300⟩ none1 Try.f71 [I lo, I hi, ls l r] .nil (.bool (wn lo hi l), .nil) := by
  obtain ⟨h3, h4⟩ := hp
  refine body_s ([Ans.loop [(0 : Nat), (1 : Nat), (9 : Nat), (10 : Nat), (11 : Nat)] [Out.mk Unit AX.ret [(6 : Nat)] (fun x => wn lo hi l = false) (fun x => [AV.bool false]) (fun x => H.nil) fun y => [], Out.mk Unit (AX.exit (0 : Nat)) [] (fun x => wn lo hi l = true) (fun x => []) (fun x => H.nil) fun y => []]]) (LoopS (Env.mk Try.prog (Sof (P := Try.prog) []) (Pof (P := Try.prog) []) H.nil.base (300 : Nat)) (loopAt Try.f71 (0 : Nat)) (24 : Nat) [(0 : Nat), (1 : Nat), (9 : Nat), (10 : Nat), (11 : Nat)] [I lo, I hi, AV.sl (ints l) l.length r, I (↑l.length : Int), I 0] (H.mk [] [] []) [Out.mk Unit AX.ret [(6 : Nat)] (fun x => wn lo hi l = false) (fun x => [AV.bool false]) (fun x => H.nil) fun y => [], Out.mk Unit (AX.exit (0 : Nat)) [] (fun x => wn lo hi l = true) (fun x => []) (fun x => H.nil) fun y => []] ∧ (∀ (y : Unit), wn lo hi l = false → ∀ (u : Nat → AV), (AV.bool false, H.mk [] [] []) = (AV.bool (wn lo hi l), H.mk [] [] [])) ∧ (∀ (y : Unit), wn lo hi l = true → ∀ (u : Nat → AV), (AV.bool true, H.mk [] [] []) = (AV.bool (wn lo hi l), H.mk [] [] [])) ∧ True) (by kernel_rfl) ?_
  refine ⟨lp71 lo hi l r h3 h4, ?_⟩
  refine And.intro ?_ ?_
  · skip
    intro y
    intro w1
    intro u
    first | exact congrArg (fun b => (AV.bool b, H.nil)) (by with_reducible assumption : wn lo hi l = false).symm | exact congrArg (fun b => (AV.bool b, H.nil)) (by with_reducible assumption : wn lo hi l = true).symm
  · skip
    refine And.intro ?_ ?_
    · skip
      intro y
      intro w1
      intro u
      first | exact congrArg (fun b => (AV.bool b, H.nil)) (by with_reducible assumption : wn lo hi l = false).symm | exact congrArg (fun b => (AV.bool b, H.nil)) (by with_reducible assumption : wn lo hi l = true).symm
    · skip
      trivial
noncomputable def c71 : PCtr Try.prog := sctr ok71 (X := Int × Int × List Int × Room) (fun x => [I x.1, I x.2.1, ls x.2.2.1 x.2.2.2]) (fun x => lim x.2.2.1.length ∧ rok x.2.2.1 x.2.2.2) (fun x => .bool (wn x.1 x.2.1 x.2.2.1)) (by intro x y e _ _; simp [Int.natCast_inj] at e; simp [e]) (fun x => by simp [AV.bnds, AV.bnd, AV.wk, rm_wk_bnd]) (fun x => by first | rfl | (simp [AV.bnd, rm_wk_bnd]; done)  | (simp [AV.bnd, AV.bnds, rm_wk_bnd]; done) | simp [AV.bnd, AV.bnds, Room.bnd, rm_wk_bnd]) (fun x hx => ⟨_, _, _, .nil, r71 (x.1) (x.2.1) (x.2.2.1) (x.2.2.2).wk (by first | exact hx | (simp only [rok_wk]; exact hx) | (simp only [rok_wk, lst_wk]; exact hx) | (simp only [rok_wk, lst_wk, lsn_wk]; exact hx))⟩)
abbrev s1 (x : Int) : AV := .sl [I x] 1 .full
abbrev s2 (x y : Int) : AV := .sl [I x, I y] 2 .full
noncomputable def c71a : PCtr Try.prog := re c71 (Y := Int × Int × Int) (fun y => (y.1, y.2.1, [y.2.2], .full)) (fun y => [I y.1, I y.2.1, s1 y.2.2]) (fun _ => rfl)
theorem k1 (x : Int) : lim [x].length ∧ rok [x] .full := ⟨by simp [lim], fun _ h => by cases h⟩
theorem k2 (x y : Int) : lim [x, y].length ∧ rok [x, y] .full := ⟨by simp [lim], fun _ h => by cases h⟩

/-- a game's codes: their number -/
theorem pw6 {c j : Nat} (hc : c ≤ 6) (hj : j ≤ 4) : c ^ j ≤ 1296 :=
  Nat.le_trans (Nat.pow_le_pow_left hc j) (Nat.le_trans (Nat.pow_le_pow_right (by decide) hj) (by decide))
theorem pw_mul {c j : Nat} (hc : c ≤ 6) (hj : j < 4) : IntKind.i64.wrap (((c ^ j : Nat) : Int) * (c : Int)) = ((c ^ (j + 1) : Nat) : Int) := by
  have h := pw6 hc (show j + 1 ≤ 4 by omega)
  rw [← Int.natCast_mul, ← Nat.pow_succ]
  show IntKind.i64.wrap ((c ^ (j + 1) : Nat) : Int) = _
  exact wr _ (by omega) (by omega)
abbrev h62 (p c : Nat) : H := ⟨[[I p, I c]], [], []⟩
abbrev o62 (p c : Nat) : List Out :=
  [.mk Unit (.exit 0) [3] (fun _ => True) (fun _ => [I (c ^ p : Nat)]) (fun _ => h62 p c) (fun _ => [])]
theorem simp62 : allSimpleM none1 (loopAt Try.f62 0) = true := by kernel_rfl
theorem lp62 (p c : Nat) (hp : p ≤ 4) (hc : c ≤ 6) :
    LoopS (En6 []) (loopAt Try.f62 0) 14 [1, 3, 5, 6] [.ptr 0 0, I 1, I p, I 0] (h62 p c) (o62 p c) := by
  have hR : Rests (En6 []) none1 := rests mixed .nil
  refine loop_s hR simp62 none (by intro _ h; cases h) (fun j vs h => h = h62 p c ∧ vs = [.ptr 0 0, I (c ^ j : Nat), I p, I j]) p ⟨rfl, rfl⟩ (by intro _ h; cases h) ?_
  rintro j vs h hj ⟨rfl, rfl⟩
  by_cases hz : (j : Int) < p
  · have ev0 := pw_mul hc (show j < 4 by omega)
    refine ⟨[Ans.o (Orc.b true), Ans.o (Orc.val 11 (I (↑(c ^ (j + (1 : Nat))) : Int)) H.nil)], fun u => of_eq ((↑j : Int) < (↑p : Int) ∧ aBin Try.prog BinOp.mul (3 : Nat) (I (↑(c ^ j) : Int)) (I (↑c : Int)) = some (I (↑(c ^ (j + (1 : Nat))) : Int)) ∧ IntKind.i64.wrap ((↑j : Int) + (1 : Int)) = (↑j : Int) + (1 : Int) ∧ (14 : Nat) = (14 : Nat) ∧ j < p ∧ Keep (H.mk [[I (↑p : Int), I (↑c : Int)]] [] [] = H.mk [[I (↑p : Int), I (↑c : Int)]] [] [] ∧ [AV.ptr 0 0, I (↑(c ^ (j + (1 : Nat))) : Int), I (↑p : Int), I ((↑j : Int) + (1 : Int))] = [AV.ptr 0 0, I (↑(c ^ (j + (1 : Nat))) : Int), I (↑p : Int), I (↑(j + (1 : Nat)) : Int)])) (by kernel_rfl) ?_⟩
    refine ⟨by first | with_reducible assumption | omega | assumption, ?_⟩
    refine ⟨told_mul (by with_reducible assumption), ?_⟩
    refine ⟨wr _ (by omega) (by omega), ?_⟩
    refine ⟨by first | with_reducible assumption | omega | assumption, ?_⟩
    refine ⟨by first | with_reducible assumption | omega | assumption, ?_⟩
    exact ⟨rfl, rfl⟩
  · have hz : (p : Int) ≤ j := by omega
    have hj' : j = p := by omega
    subst hj'
    refine ⟨[Ans.o (Orc.b false)], fun u => of_eq ((↑j : Int) ≤ (↑j : Int) ∧ (14 : Nat) = (14 : Nat) ∧ hits [Out.mk Unit (AX.exit (0 : Nat)) [(3 : Nat)] (fun x => True) (fun x => [I (↑(c ^ j) : Int)]) (fun x => h62 j c) fun x => []] (AX.exit (0 : Nat)) [u (0 : Nat), AV.ptr 0 0, u (2 : Nat), I (↑(c ^ j) : Int), u (4 : Nat), I (↑j : Int), I (↑j : Int), AV.bool false, u (8 : Nat), u (9 : Nat), u (10 : Nat), u (11 : Nat), u (12 : Nat), u (13 : Nat)] (H.mk [[I (↑j : Int), I (↑c : Int)]] [] [])) (by kernel_rfl) ?_⟩
    refine ⟨by first | with_reducible assumption | omega | assumption, ?_⟩
    refine ⟨by first | with_reducible assumption | omega | assumption, ?_⟩
    exact .inl ⟨(), trivial, rfl, rfl, rfl⟩
theorem ok62 : FokM Try.prog none1 62 Try.f62 := ⟨mixed, by kernel_rfl, by kernel_rfl, by kernel_rfl, by kernel_rfl⟩
theorem r62 (p : Nat) (c : Nat) (hp : p ≤ 4 ∧ c ≤ 6) : Body ⟨Try.prog, Sof (P := Try.prog) [], Pof (P := Try.prog) [], H.nil.base, 300⟩ none1 Try.f62 [.agg [I p, I c]] .nil (I (c ^ p : Nat), .nil) := by
  obtain ⟨h1, h2⟩ := hp
  refine body_s ([Ans.loop [(1 : Nat), (3 : Nat), (5 : Nat), (6 : Nat)] [Out.mk Unit (AX.exit (0 : Nat)) [(3 : Nat)] (fun x => True) (fun x => [I (↑(c ^ p) : Int)]) (fun x => h62 p c) fun y => []]]) (LoopS (Env.mk Try.prog (Sof (P := Try.prog) []) (Pof (P := Try.prog) []) H.nil.base (300 : Nat)) (loopAt Try.f62 (0 : Nat)) (14 : Nat) [(1 : Nat), (3 : Nat), (5 : Nat), (6 : Nat)] [AV.ptr 0 0, I 1, I (↑p : Int), I 0] (H.mk [[I (↑p : Int), I (↑c : Int)]] [] []) [Out.mk Unit (AX.exit (0 : Nat)) [(3 : Nat)] (fun x => True) (fun x => [I (↑(c ^ p) : Int)]) (fun x => h62 p c) fun y => []] ∧ (∀ (y : Unit), True → ∀ (u : Nat → AV), (I (↑(c ^ p) : Int), H.mk [] [] []) = (I (↑(c ^ p) : Int), H.mk [] [] [])) ∧ True) (by kernel_rfl) ?_
  refine ⟨lp62 p c h1 h2, ?_⟩
  refine And.intro ?_ ?_
  · skip
    intro y
    intro w1
    intro u
    rfl
  · skip
    trivial
noncomputable def c62 : PCtr Try.prog := sctr ok62 (X := Nat × Nat) (fun x => [.agg [I x.1, I x.2]]) (fun x => x.1 ≤ 4 ∧ x.2 ≤ 6) (fun x => I (x.2 ^ x.1 : Nat)) (by intro x y e _ _; simp [Int.natCast_inj] at e; simp [e]) (fun x => by simp [AV.bnds, AV.bnd, AV.wk, rm_wk_bnd]) (fun x => by first | rfl | (simp [AV.bnd, rm_wk_bnd]; done)  | (simp [AV.bnd, AV.bnds, rm_wk_bnd]; done) | simp [AV.bnd, AV.bnds, Room.bnd, rm_wk_bnd]) (fun x hx => ⟨_, _, _, .nil, r62 (x.1) (x.2) hx⟩)
/-- may it be a game, by its numbers? -/
abbrev rg4 (p c : Int) : Prop := (1 ≤ p ∧ p ≤ 4) ∧ 1 ≤ c ∧ c ≤ 6
/-- is it a game? -/
def vd (p c : Int) : Bool := decide (rg4 p c ∧ c.toNat ^ p.toNat ≤ 256)
theorem wn1 (lo hi x : Int) : wn lo hi [x] = decide (lo ≤ x ∧ x ≤ hi) := by
  simp [wn]
theorem ok53 : FokM Try.prog none1 53 Try.f53 := ⟨mixed, by kernel_rfl, by kernel_rfl, by kernel_rfl, by kernel_rfl⟩
theorem r53 (p : Int) (c : Int) (hp : True) : Body ⟨Try.prog, Sof (P := Try.prog) [c71a.to, c62.to], Pof (P := Try.prog) [], H.nil.base, 300⟩ none1 Try.f53 [.agg [I p, I c]] .nil (.bool (vd p c), .nil) := by
  by_cases h1 : 1 ≤ p ∧ p ≤ 4
  · have a1 : wn 1 4 [p] = true := by rw [wn1]; exact decide_eq_true h1
    by_cases h2 : 1 ≤ c ∧ c ≤ 6
    · have a2 : wn 1 6 [c] = true := by rw [wn1]; exact decide_eq_true h2
      obtain ⟨p, rfl⟩ : ∃ n : Nat, p = n := ⟨p.toNat, by omega⟩
      obtain ⟨c, rfl⟩ : ∃ n : Nat, c = n := ⟨c.toNat, by omega⟩
      have q : p ≤ 4 ∧ c ≤ 6 := ⟨by omega, by omega⟩
      have e : vd p c = decide (((c ^ p : Nat) : Int) ≤ 256) := by
        simp only [vd, Int.toNat_natCast]
        rw [decide_eq_decide]
        exact ⟨fun h => by omega, fun h => ⟨⟨h1, h2⟩, by omega⟩⟩
      rw [e]
      by_cases h3 : ((c ^ p : Nat) : Int) ≤ 256
      · refine body_s ([Ans.o (Orc.val 6 (AV.bool true) (H.mk [[I (↑p : Int), I (↑c : Int)]] [] [])), Ans.o (Orc.val 11 (AV.bool true) (H.mk [[I (↑p : Int), I (↑c : Int)]] [] [])), Ans.o (Orc.val 15 (I (↑(c ^ p) : Int)) (H.mk [[I (↑p : Int), I (↑c : Int)]] [] [])), Ans.o (Orc.b true)]) (aCall (Sof [c71a.to, c62.to]) (AV.fn (Fn.func (71 : Nat)) [] []) [I 1, I 4, AV.sl [I (↑p : Int)] (1 : Nat) Room.full] (H.mk [[I (↑p : Int), I (↑c : Int)]] [] []) = some (AV.bool true, H.mk [[I (↑p : Int), I (↑c : Int)]] [] []) ∧ aCall (Sof [c71a.to, c62.to]) (AV.fn (Fn.func (71 : Nat)) [] []) [I 1, I 6, AV.sl [I (↑c : Int)] (1 : Nat) Room.full] (H.mk [[I (↑p : Int), I (↑c : Int)]] [] []) = some (AV.bool true, H.mk [[I (↑p : Int), I (↑c : Int)]] [] []) ∧ aCall (Sof [c71a.to, c62.to]) (AV.fn (Fn.func (62 : Nat)) [] []) [AV.agg [I (↑p : Int), I (↑c : Int)]] (H.mk [[I (↑p : Int), I (↑c : Int)]] [] []) = some (I (↑(c ^ p) : Int), H.mk [[I (↑p : Int), I (↑c : Int)]] [] []) ∧ (↑(c ^ p) : Int) ≤ (256 : Int) ∧ (AV.bool true, H.mk [] [] []) = (AV.bool (decide ((↑(c ^ p) : Int) ≤ (256 : Int))), H.mk [] [] [])) (by kernel_rfl) ?_
        refine ⟨by first | exact acall_b (acall_hit (c := c71a.to) (1, 4, (p : Int)) _ rfl (k1 _)) a1 | exact acall_b (acall_hit (c := c71a.to) (1, 6, (c : Int)) _ rfl (k1 _)) a2, ?_⟩
        refine ⟨by first | exact acall_b (acall_hit (c := c71a.to) (1, 4, (p : Int)) _ rfl (k1 _)) a1 | exact acall_b (acall_hit (c := c71a.to) (1, 6, (c : Int)) _ rfl (k1 _)) a2, ?_⟩
        refine ⟨acall_hit (c := c62.to) (p, c) _ rfl q, ?_⟩
        refine ⟨by first | with_reducible assumption | omega | assumption, ?_⟩
        exact bleaf_t h3
      · have h3' : (256 : Int) < ((c ^ p : Nat) : Int) := by omega
        refine body_s ([Ans.o (Orc.val 6 (AV.bool true) (H.mk [[I (↑p : Int), I (↑c : Int)]] [] [])), Ans.o (Orc.val 11 (AV.bool true) (H.mk [[I (↑p : Int), I (↑c : Int)]] [] [])), Ans.o (Orc.val 15 (I (↑(c ^ p) : Int)) (H.mk [[I (↑p : Int), I (↑c : Int)]] [] [])), Ans.o (Orc.b false)]) (aCall (Sof [c71a.to, c62.to]) (AV.fn (Fn.func (71 : Nat)) [] []) [I 1, I 4, AV.sl [I (↑p : Int)] (1 : Nat) Room.full] (H.mk [[I (↑p : Int), I (↑c : Int)]] [] []) = some (AV.bool true, H.mk [[I (↑p : Int), I (↑c : Int)]] [] []) ∧ aCall (Sof [c71a.to, c62.to]) (AV.fn (Fn.func (71 : Nat)) [] []) [I 1, I 6, AV.sl [I (↑c : Int)] (1 : Nat) Room.full] (H.mk [[I (↑p : Int), I (↑c : Int)]] [] []) = some (AV.bool true, H.mk [[I (↑p : Int), I (↑c : Int)]] [] []) ∧ aCall (Sof [c71a.to, c62.to]) (AV.fn (Fn.func (62 : Nat)) [] []) [AV.agg [I (↑p : Int), I (↑c : Int)]] (H.mk [[I (↑p : Int), I (↑c : Int)]] [] []) = some (I (↑(c ^ p) : Int), H.mk [[I (↑p : Int), I (↑c : Int)]] [] []) ∧ (256 : Int) < (↑(c ^ p) : Int) ∧ (AV.bool false, H.mk [] [] []) = (AV.bool (decide ((↑(c ^ p) : Int) ≤ (256 : Int))), H.mk [] [] [])) (by kernel_rfl) ?_
        refine ⟨by first | exact acall_b (acall_hit (c := c71a.to) (1, 4, (p : Int)) _ rfl (k1 _)) a1 | exact acall_b (acall_hit (c := c71a.to) (1, 6, (c : Int)) _ rfl (k1 _)) a2, ?_⟩
        refine ⟨by first | exact acall_b (acall_hit (c := c71a.to) (1, 4, (p : Int)) _ rfl (k1 _)) a1 | exact acall_b (acall_hit (c := c71a.to) (1, 6, (c : Int)) _ rfl (k1 _)) a2, ?_⟩
        refine ⟨acall_hit (c := c62.to) (p, c) _ rfl q, ?_⟩
        refine ⟨by first | with_reducible assumption | omega | assumption, ?_⟩
        exact bleaf_f h3
    · have a2 : wn 1 6 [c] = false := by rw [wn1]; exact decide_eq_false h2
      have e : vd p c = false := decide_eq_false fun h => h2 h.1.2
      rw [e]
      refine body_s ([Ans.o (Orc.val 6 (AV.bool true) (H.mk [[I p, I c]] [] [])), Ans.o (Orc.val 11 (AV.bool false) (H.mk [[I p, I c]] [] []))]) (aCall (Sof [c71a.to, c62.to]) (AV.fn (Fn.func (71 : Nat)) [] []) [I 1, I 4, AV.sl [I p] (1 : Nat) Room.full] (H.mk [[I p, I c]] [] []) = some (AV.bool true, H.mk [[I p, I c]] [] []) ∧ aCall (Sof [c71a.to, c62.to]) (AV.fn (Fn.func (71 : Nat)) [] []) [I 1, I 6, AV.sl [I c] (1 : Nat) Room.full] (H.mk [[I p, I c]] [] []) = some (AV.bool false, H.mk [[I p, I c]] [] []) ∧ (AV.bool false, H.mk [] [] []) = (AV.bool false, H.mk [] [] [])) (by kernel_rfl) ?_
      refine ⟨by first | exact acall_b (acall_hit (c := c71a.to) (1, 4, p) _ rfl (k1 _)) a1 | exact acall_b (acall_hit (c := c71a.to) (1, 6, c) _ rfl (k1 _)) a2, ?_⟩
      refine ⟨by first | exact acall_b (acall_hit (c := c71a.to) (1, 4, p) _ rfl (k1 _)) a1 | exact acall_b (acall_hit (c := c71a.to) (1, 6, c) _ rfl (k1 _)) a2, ?_⟩
      rfl
  · have a1 : wn 1 4 [p] = false := by rw [wn1]; exact decide_eq_false h1
    have e : vd p c = false := decide_eq_false fun h => h1 h.1.1
    rw [e]
    refine body_s ([Ans.o (Orc.val 6 (AV.bool false) (H.mk [[I p, I c]] [] []))]) (aCall (Sof [c71a.to, c62.to]) (AV.fn (Fn.func (71 : Nat)) [] []) [I 1, I 4, AV.sl [I p] (1 : Nat) Room.full] (H.mk [[I p, I c]] [] []) = some (AV.bool false, H.mk [[I p, I c]] [] []) ∧ (AV.bool false, H.mk [] [] []) = (AV.bool false, H.mk [] [] [])) (by kernel_rfl) ?_
    refine ⟨acall_b (acall_hit (c := c71a.to) (1, 4, p) _ rfl (k1 _)) a1, ?_⟩
    rfl
noncomputable def c53 : PCtr Try.prog := sctr ok53 (X := Int × Int) (fun x => [.agg [I x.1, I x.2]]) (fun x => True) (fun x => .bool (vd x.1 x.2)) (by intro x y e _ _; simp [Int.natCast_inj] at e; simp [e]) (fun x => by simp [AV.bnds, AV.bnd, AV.wk, rm_wk_bnd]) (fun x => by first | rfl | (simp [AV.bnd, rm_wk_bnd]; done)  | (simp [AV.bnd, AV.bnds, rm_wk_bnd]; done) | simp [AV.bnd, AV.bnds, Room.bnd, rm_wk_bnd]) (fun x hx => ⟨_, _, _, .pure c71a (.pure c62 (.nil)), r53 (x.1) (x.2) hx⟩)
theorem cd_sub {p c : Nat} (hp : p ≤ 4) (hc : c ≤ 6) : IntKind.i64.wrap (((c ^ p : Nat) : Int) - 1) = ((c ^ p : Nat) : Int) - 1 := by
  have := pw6 hc hp
  exact wr _ (by omega) (by omega)
theorem ok54 : FokM Try.prog none1 54 Try.f54 := ⟨mixed, by kernel_rfl, by kernel_rfl, by kernel_rfl, by kernel_rfl⟩
theorem r54 (p : Nat) (c : Nat) (l : List Int) (r : Room) (hp : (p ≤ 4 ∧ c ≤ 6) ∧ lim l.length ∧ rok l r) : Body ⟨Try.prog, Sof (P := Try.prog) [c71.to, c62.to], Pof (P := Try.prog) [], H.nil.base, 300⟩ none1 Try.f54 [.agg [I p, I c], ls l r] .nil (.bool (wn 0 (((c ^ p : Nat) : Int) - 1) l), .nil) := by
  obtain ⟨q, h3⟩ := hp
  have ev0 := cd_sub q.1 q.2
  refine body_s ([Ans.o (Orc.val 6 (I (↑(c ^ p) : Int)) (H.mk [[I (↑p : Int), I (↑c : Int)]] [] [])), Ans.o (Orc.val 7 (I ((↑(c ^ p) : Int) - (1 : Int))) H.nil), Ans.vfork (9 : Nat) (wn (0 : Int) ((↑(c ^ p) : Int) - (1 : Int)) l) (H.mk [[I (↑p : Int), I (↑c : Int)]] [] []) [] []]) (aCall (Sof [c71.to, c62.to]) (AV.fn (Fn.func (62 : Nat)) [] []) [AV.agg [I (↑p : Int), I (↑c : Int)]] (H.mk [[I (↑p : Int), I (↑c : Int)]] [] []) = some (I (↑(c ^ p) : Int), H.mk [[I (↑p : Int), I (↑c : Int)]] [] []) ∧ aBin Try.prog BinOp.sub (3 : Nat) (I (↑(c ^ p) : Int)) (I 1) = some (I ((↑(c ^ p) : Int) - (1 : Int))) ∧ aCall (Sof [c71.to, c62.to]) (AV.fn (Fn.func (71 : Nat)) [] []) [I 0, I ((↑(c ^ p) : Int) - (1 : Int)), AV.sl (ints l) l.length r] (H.mk [[I (↑p : Int), I (↑c : Int)]] [] []) = some (AV.bool (wn (0 : Int) ((↑(c ^ p) : Int) - (1 : Int)) l), H.mk [[I (↑p : Int), I (↑c : Int)]] [] []) ∧ (wn (0 : Int) ((↑(c ^ p) : Int) - (1 : Int)) l = true → (AV.bool true, H.mk [] [] []) = (AV.bool (wn (0 : Int) ((↑(c ^ p) : Int) - (1 : Int)) l), H.mk [] [] [])) ∧ (wn (0 : Int) ((↑(c ^ p) : Int) - (1 : Int)) l = false → (AV.bool false, H.mk [] [] []) = (AV.bool (wn (0 : Int) ((↑(c ^ p) : Int) - (1 : Int)) l), H.mk [] [] []))) (by kernel_rfl) ?_
  refine ⟨acall_hit (c := c62.to) (p, c) _ rfl q, ?_⟩
  refine ⟨told_sub (by with_reducible assumption), ?_⟩
  refine ⟨acall_hit (c := c71.to) (0, ((c ^ p : Nat) : Int) - 1, l, r) _ rfl h3, ?_⟩
  refine And.intro ?_ ?_
  · skip
    intro w0
    rw [w0]
  · skip
    intro w0
    rw [w0]
noncomputable def c54 : PCtr Try.prog := sctr ok54 (X := Nat × Nat × List Int × Room) (fun x => [.agg [I x.1, I x.2.1], ls x.2.2.1 x.2.2.2]) (fun x => (x.1 ≤ 4 ∧ x.2.1 ≤ 6) ∧ lim x.2.2.1.length ∧ rok x.2.2.1 x.2.2.2) (fun x => .bool (wn 0 (((x.2.1 ^ x.1 : Nat) : Int) - 1) x.2.2.1)) (by intro x y e _ _; simp [Int.natCast_inj] at e; simp [e]) (fun x => by simp [AV.bnds, AV.bnd, AV.wk, rm_wk_bnd]) (fun x => by first | rfl | (simp [AV.bnd, rm_wk_bnd]; done)  | (simp [AV.bnd, AV.bnds, rm_wk_bnd]; done) | simp [AV.bnd, AV.bnds, Room.bnd, rm_wk_bnd]) (fun x hx => ⟨_, _, _, .pure c71 (.pure c62 (.nil)), r54 (x.1) (x.2.1) (x.2.2.1) (x.2.2.2).wk (by first | exact hx | (simp only [rok_wk]; exact hx) | (simp only [rok_wk, lst_wk]; exact hx) | (simp only [rok_wk, lst_wk, lsn_wk]; exact hx))⟩)
noncomputable def c54b : PCtr Try.prog := re c54 (Y := Nat × Nat × Int × Int) (fun y => (y.1, y.2.1, [y.2.2.1, y.2.2.2], .full)) (fun y => [.agg [I y.1, I y.2.1], s2 y.2.2.1 y.2.2.2]) (fun _ => rfl)
/-- the reference's number of codes -/
def cdV (p c : Int) : Int := if vd p c = true then ((c.toNat ^ p.toNat : Nat) : Int) else 0
abbrev o32 (p c : Nat) : List Out :=
  [.mk Unit (.exit 0) [5] (fun _ => True) (fun _ => [I (c ^ p : Nat)]) (fun _ => .nil) (fun _ => [])]
theorem simp32 : allSimpleM none1 (loopAt Try.f32 0) = true := by kernel_rfl
theorem lp32 (p c : Nat) (hp : p ≤ 4) (hc : c ≤ 6) :
    LoopS (En6 []) (loopAt Try.f32 0) 30 [1, 5, 20, 21] [I c, I 1, I p, I 0] .nil (o32 p c) := by
  have hR : Rests (En6 []) none1 := rests mixed .nil
  refine loop_s hR simp32 none (by intro _ h; cases h) (fun j vs h => h = .nil ∧ vs = [I c, I (c ^ j : Nat), I p, I j]) p ⟨rfl, rfl⟩ (by intro _ h; cases h) ?_
  rintro j vs h hj ⟨rfl, rfl⟩
  by_cases hz : (j : Int) < p
  · have ev0 := pw_mul hc (show j < 4 by omega)
    refine ⟨[Ans.o (Orc.b true), Ans.o (Orc.val 25 (I (↑(c ^ (j + (1 : Nat))) : Int)) H.nil)], fun u => of_eq ((↑j : Int) < (↑p : Int) ∧ aBin Try.prog BinOp.mul (3 : Nat) (I (↑(c ^ j) : Int)) (I (↑c : Int)) = some (I (↑(c ^ (j + (1 : Nat))) : Int)) ∧ IntKind.i64.wrap ((↑j : Int) + (1 : Int)) = (↑j : Int) + (1 : Int) ∧ (30 : Nat) = (30 : Nat) ∧ j < p ∧ Keep (H.mk [] [] [] = H.mk [] [] [] ∧ [I (↑c : Int), I (↑(c ^ (j + (1 : Nat))) : Int), I (↑p : Int), I ((↑j : Int) + (1 : Int))] = [I (↑c : Int), I (↑(c ^ (j + (1 : Nat))) : Int), I (↑p : Int), I (↑(j + (1 : Nat)) : Int)])) (by kernel_rfl) ?_⟩
    refine ⟨by first | with_reducible assumption | omega | assumption, ?_⟩
    refine ⟨told_mul (by with_reducible assumption), ?_⟩
    refine ⟨wr _ (by omega) (by omega), ?_⟩
    refine ⟨by first | with_reducible assumption | omega | assumption, ?_⟩
    refine ⟨by first | with_reducible assumption | omega | assumption, ?_⟩
    exact ⟨rfl, rfl⟩
  · have hz : (p : Int) ≤ j := by omega
    have hj' : j = p := by omega
    subst hj'
    refine ⟨[Ans.o (Orc.b false)], fun u => of_eq ((↑j : Int) ≤ (↑j : Int) ∧ (30 : Nat) = (30 : Nat) ∧ hits [Out.mk Unit (AX.exit (0 : Nat)) [(5 : Nat)] (fun x => True) (fun x => [I (↑(c ^ j) : Int)]) (fun x => H.nil) fun x => []] (AX.exit (0 : Nat)) [u (0 : Nat), I (↑c : Int), u (2 : Nat), u (3 : Nat), u (4 : Nat), I (↑(c ^ j) : Int), u (6 : Nat), u (7 : Nat), u (8 : Nat), u (9 : Nat), u (10 : Nat), u (11 : Nat), u (12 : Nat), u (13 : Nat), u (14 : Nat), u (15 : Nat), u (16 : Nat), u (17 : Nat), u (18 : Nat), u (19 : Nat), I (↑j : Int), I (↑j : Int), AV.bool false, u (23 : Nat), u (24 : Nat), u (25 : Nat), u (26 : Nat), u (27 : Nat), u (28 : Nat), u (29 : Nat)] (H.mk [] [] [])) (by kernel_rfl) ?_⟩
    refine ⟨by first | with_reducible assumption | omega | assumption, ?_⟩
    refine ⟨by first | with_reducible assumption | omega | assumption, ?_⟩
    exact .inl ⟨(), trivial, rfl, rfl, rfl⟩
theorem cdV_rg {p c : Int} (h : ¬ rg4 p c) : cdV p c = 0 := if_neg (by simp only [vd, decide_eq_true_eq]; exact fun k => h k.1)
theorem ok32 : FokM Try.prog none1 32 Try.f32 := ⟨mixed, by kernel_rfl, by kernel_rfl, by kernel_rfl, by kernel_rfl⟩
theorem r32 (p : Int) (c : Int) (hp : True) : Body ⟨Try.prog, Sof (P := Try.prog) [], Pof (P := Try.prog) [], H.nil.base, 300⟩ none1 Try.f32 [I p, I c] .nil (I (cdV p c), .nil) := by
  by_cases h : rg4 p c
  · obtain ⟨p, rfl⟩ : ∃ n : Nat, p = n := ⟨p.toNat, by omega⟩
    obtain ⟨c, rfl⟩ : ∃ n : Nat, c = n := ⟨c.toNat, by omega⟩
    have q1 : p ≤ 4 := by omega
    have q2 : c ≤ 6 := by omega
    by_cases h3 : ((c ^ p : Nat) : Int) ≤ 256
    · have e : cdV p c = ((c ^ p : Nat) : Int) := if_pos (decide_eq_true ⟨h, by simp only [Int.toNat_natCast]; omega⟩)
      rw [e]
      refine body_s ([Ans.fork [] [Ans.fork [] [Ans.fork [] [Ans.fork [] [Ans.loop [(1 : Nat), (5 : Nat), (20 : Nat), (21 : Nat)] [Out.mk Unit (AX.exit (0 : Nat)) [(5 : Nat)] (fun x => True) (fun x => [I (↑(c ^ p) : Int)]) (fun x => H.nil) fun y => [Ans.o (Orc.b false)]]]]]]]) (((↑p : Int) < (1 : Int) → (I 0, H.mk [] [] []) = (I (↑(c ^ p) : Int), H.mk [] [] [])) ∧ ((1 : Int) ≤ (↑p : Int) → ((4 : Int) < (↑p : Int) → (I 0, H.mk [] [] []) = (I (↑(c ^ p) : Int), H.mk [] [] [])) ∧ ((↑p : Int) ≤ (4 : Int) → ((↑c : Int) < (1 : Int) → (I 0, H.mk [] [] []) = (I (↑(c ^ p) : Int), H.mk [] [] [])) ∧ ((1 : Int) ≤ (↑c : Int) → ((6 : Int) < (↑c : Int) → (I 0, H.mk [] [] []) = (I (↑(c ^ p) : Int), H.mk [] [] [])) ∧ ((↑c : Int) ≤ (6 : Int) → LoopS (Env.mk Try.prog (Sof (P := Try.prog) []) (Pof (P := Try.prog) []) H.nil.base (300 : Nat)) (loopAt Try.f32 (0 : Nat)) (30 : Nat) [(1 : Nat), (5 : Nat), (20 : Nat), (21 : Nat)] [I (↑c : Int), I 1, I (↑p : Int), I 0] (H.mk [] [] []) [Out.mk Unit (AX.exit (0 : Nat)) [(5 : Nat)] (fun x => True) (fun x => [I (↑(c ^ p) : Int)]) (fun x => H.nil) fun y => [Ans.o (Orc.b false)]] ∧ (∀ (y : Unit), True → ∀ (u : Nat → AV), (↑(c ^ p) : Int) ≤ (256 : Int) ∧ (I (↑(c ^ p) : Int), H.mk [] [] []) = (I (↑(c ^ p) : Int), H.mk [] [] [])) ∧ True))))) (by kernel_rfl) ?_
      refine And.intro ?_ ?_
      · skip
        intro w0
        first | rfl | omega
      · skip
        intro w0
        refine And.intro ?_ ?_
        · skip
          intro w1
          first | rfl | omega
        · skip
          intro w1
          refine And.intro ?_ ?_
          · skip
            intro w2
            first | rfl | omega
          · skip
            intro w2
            refine And.intro ?_ ?_
            · skip
              intro w3
              first | rfl | omega
            · skip
              intro w3
              refine ⟨lp32 p c q1 q2, ?_⟩
              refine And.intro ?_ ?_
              · skip
                intro y
                intro w5
                intro u
                refine ⟨by first | with_reducible assumption | omega | assumption, ?_⟩
                first | rfl | omega
              · skip
                trivial
    · have e : cdV p c = 0 := if_neg (by simp only [vd, decide_eq_true_eq, Int.toNat_natCast]; omega)
      have h3 : (256 : Int) < ((c ^ p : Nat) : Int) := by omega
      rw [e]
      refine body_s ([Ans.fork [] [Ans.fork [] [Ans.fork [] [Ans.fork [] [Ans.loop [(1 : Nat), (5 : Nat), (20 : Nat), (21 : Nat)] [Out.mk Unit (AX.exit (0 : Nat)) [(5 : Nat)] (fun x => True) (fun x => [I (↑(c ^ p) : Int)]) (fun x => H.nil) fun y => [Ans.o (Orc.b true)]]]]]]]) (((↑p : Int) < (1 : Int) → (I 0, H.mk [] [] []) = (I 0, H.mk [] [] [])) ∧ ((1 : Int) ≤ (↑p : Int) → ((4 : Int) < (↑p : Int) → (I 0, H.mk [] [] []) = (I 0, H.mk [] [] [])) ∧ ((↑p : Int) ≤ (4 : Int) → ((↑c : Int) < (1 : Int) → (I 0, H.mk [] [] []) = (I 0, H.mk [] [] [])) ∧ ((1 : Int) ≤ (↑c : Int) → ((6 : Int) < (↑c : Int) → (I 0, H.mk [] [] []) = (I 0, H.mk [] [] [])) ∧ ((↑c : Int) ≤ (6 : Int) → LoopS (Env.mk Try.prog (Sof (P := Try.prog) []) (Pof (P := Try.prog) []) H.nil.base (300 : Nat)) (loopAt Try.f32 (0 : Nat)) (30 : Nat) [(1 : Nat), (5 : Nat), (20 : Nat), (21 : Nat)] [I (↑c : Int), I 1, I (↑p : Int), I 0] (H.mk [] [] []) [Out.mk Unit (AX.exit (0 : Nat)) [(5 : Nat)] (fun x => True) (fun x => [I (↑(c ^ p) : Int)]) (fun x => H.nil) fun y => [Ans.o (Orc.b true)]] ∧ (∀ (y : Unit), True → ∀ (u : Nat → AV), (256 : Int) < (↑(c ^ p) : Int) ∧ (I 0, H.mk [] [] []) = (I 0, H.mk [] [] [])) ∧ True))))) (by kernel_rfl) ?_
      refine And.intro ?_ ?_
      · skip
        intro w0
        first | rfl | omega
      · skip
        intro w0
        refine And.intro ?_ ?_
        · skip
          intro w1
          first | rfl | omega
        · skip
          intro w1
          refine And.intro ?_ ?_
          · skip
            intro w2
            first | rfl | omega
          · skip
            intro w2
            refine And.intro ?_ ?_
            · skip
              intro w3
              first | rfl | omega
            · skip
              intro w3
              refine ⟨lp32 p c q1 q2, ?_⟩
              refine And.intro ?_ ?_
              · skip
                intro y
                intro w5
                intro u
                refine ⟨by first | with_reducible assumption | omega | assumption, ?_⟩
                first | rfl | omega
              · skip
                trivial
  · rw [cdV_rg h]
    refine body_s ([Ans.fork [] [Ans.fork [] [Ans.fork [] [Ans.fork [] [Ans.loop [(1 : Nat), (5 : Nat), (20 : Nat), (21 : Nat)] [Out.mk Unit (AX.exit (0 : Nat)) [(5 : Nat)] (fun x => True) (fun x => [I (↑(c.toNat ^ p.toNat) : Int)]) (fun x => H.nil) fun y => [Ans.fork [] []]]]]]]]) ((p < (1 : Int) → (I 0, H.mk [] [] []) = (I 0, H.mk [] [] [])) ∧ ((1 : Int) ≤ p → ((4 : Int) < p → (I 0, H.mk [] [] []) = (I 0, H.mk [] [] [])) ∧ (p ≤ (4 : Int) → (c < (1 : Int) → (I 0, H.mk [] [] []) = (I 0, H.mk [] [] [])) ∧ ((1 : Int) ≤ c → ((6 : Int) < c → (I 0, H.mk [] [] []) = (I 0, H.mk [] [] [])) ∧ (c ≤ (6 : Int) → LoopS (Env.mk Try.prog (Sof (P := Try.prog) []) (Pof (P := Try.prog) []) H.nil.base (300 : Nat)) (loopAt Try.f32 (0 : Nat)) (30 : Nat) [(1 : Nat), (5 : Nat), (20 : Nat), (21 : Nat)] [I c, I 1, I p, I 0] (H.mk [] [] []) [Out.mk Unit (AX.exit (0 : Nat)) [(5 : Nat)] (fun x => True) (fun x => [I (↑(c.toNat ^ p.toNat) : Int)]) (fun x => H.nil) fun y => [Ans.fork [] []]] ∧ (∀ (y : Unit), True → ∀ (u : Nat → AV), ((256 : Int) < (↑(c.toNat ^ p.toNat) : Int) → (I 0, H.mk [] [] []) = (I 0, H.mk [] [] [])) ∧ ((↑(c.toNat ^ p.toNat) : Int) ≤ (256 : Int) → (I (↑(c.toNat ^ p.toNat) : Int), H.mk [] [] []) = (I 0, H.mk [] [] []))) ∧ True))))) (by kernel_rfl) ?_
    refine And.intro ?_ ?_
    · skip
      intro w0
      first | rfl | (exfalso; omega)
    · skip
      intro w0
      refine And.intro ?_ ?_
      · skip
        intro w1
        first | rfl | (exfalso; omega)
      · skip
        intro w1
        refine And.intro ?_ ?_
        · skip
          intro w2
          first | rfl | (exfalso; omega)
        · skip
          intro w2
          refine And.intro ?_ ?_
          · skip
            intro w3
            first | rfl | (exfalso; omega)
          · skip
            intro w3
            refine ⟨by exfalso; omega, ?_⟩
            refine And.intro ?_ ?_
            · skip
              intro y
              intro w5
              intro u
              refine And.intro ?_ ?_
              · skip
                intro w7
                first | rfl | (exfalso; omega)
              · skip
                intro w7
                first | rfl | (exfalso; omega)
            · skip
              trivial
noncomputable def c32 : PCtr Try.prog := sctr ok32 (X := Int × Int) (fun x => [I x.1, I x.2]) (fun x => True) (fun x => I (cdV x.1 x.2)) (by intro x y e _ _; simp [Int.natCast_inj] at e; simp [e]) (fun x => by simp [AV.bnds, AV.bnd, AV.wk, rm_wk_bnd]) (fun x => by first | rfl | (simp [AV.bnd, rm_wk_bnd]; done)  | (simp [AV.bnd, AV.bnds, rm_wk_bnd]; done) | simp [AV.bnd, AV.bnds, Room.bnd, rm_wk_bnd]) (fun x hx => ⟨_, _, _, .nil, r32 (x.1) (x.2) hx⟩)
end Go.Proofs.Gss

