/- Layer 6: the reference's weights and replies. -/
import Derived.Test.YtaobnlpfaeecnaaGsF
import Derived.KernelRfl
set_option linter.unusedSimpArgs false
set_option linter.unusedVariables false
set_option linter.unnecessarySimpa false
set_option maxHeartbeats 4000000
set_option maxRecDepth 100000
namespace Go.Proofs.Gss
open Go Go.VM

/-- the weight of the first elements -/
def wj (x : List Int) (q : Int) : Nat → Int
  | 0 => 0
  | i + 1 => wj x q i + ia x i * wy q (x.length - i)
theorem wj_bd {x : List Int} {q : Int} (hq : q30 q) (hl : x.length ≤ 4) (hw : wn 0 200 x = true) : ∀ {i : Nat}, i ≤ x.length → 0 ≤ wj x q i ∧ wj x q i ≤ i * 6000000
  | 0, _ => by simp [wj]
  | i + 1, hi => by
    have h1 := wj_bd hq hl hw (i := i) (by omega)
    have h2 := mul_bd (wn_get hw (i := i) (by omega)) (ch_bd hq (j := x.length - i) (by omega)).2
    simp only [wj]
    omega
theorem wj_nf {x : List Int} (h : l4 x) (q : Int) : wj x q x.length = wt4 (nf x 0) (nf x 1) (nf x 2) (nf x 3) q := by
  have e : wy q 1 = 1 := rfl
  rcases l4_cases h with ⟨a, rfl⟩ | ⟨a, b, rfl⟩ | ⟨a, b, c, rfl⟩ | ⟨a, b, c, d, rfl⟩ <;> simp [nf, wj, ia, wt4, e, Int.mul_comm] <;> omega
abbrev v38 (x : List Int) (r : Room) (q : Int) (i : Nat) (s : Int) : List AV := [ls x r, I q, I s, I (i : Nat), I (ia x i), ls x r, I x.length, I (i : Nat)]
abbrev o38b (x : List Int) (r : Room) (q : Int) (i : Nat) (s : Int) : List Out :=
  [.mk Unit (.exit 2) [0, 1, 5, 6, 7, 11, 12, 13, 9] (fun _ => True) (fun _ => v38 x r q i s ++ [I (wy q (x.length - i))]) (fun _ => .nil) (fun _ => [])]
theorem simp38b : allSimpleM none1 (loopAt Try.f38 1) = true := by kernel_rfl
theorem lp38b (x : List Int) (r : Room) (q : Int) (i : Nat) (s : Int) (hq : q30 q) (hl : x.length ≤ 4) (hi : i < x.length) :
    LoopS (En6 []) (loopAt Try.f38 1) 44 [0, 1, 5, 6, 7, 11, 12, 13, 8, 9, 10] (v38 x r q i s ++ [I 1, I 0, I 0]) .nil (o38b x r q i s) := by
  have hR : Rests (En6 []) none1 := rests mixed .nil
  refine loop_s hR simp38b none (by intro _ h; cases h) (fun j vs h => h = .nil ∧ vs = v38 x r q i s ++ [I (ch q j), I (wy q j), I (j : Nat)]) (x.length - i) ⟨rfl, rfl⟩ (by intro _ h; cases h) ?_
  rintro j vs h hj ⟨rfl, rfl⟩
  have ev9 : (x.length : Int) - (i : Nat) = ((x.length - i : Nat) : Int) := by omega
  by_cases hz : (j : Int) < ((x.length - i : Nat) : Int)
  · have w0 := ch_st hq (j := j) (by omega)
    have b0 := ch_bd hq (j := j) (by omega)
    have b1 := ch_bd hq (j := j + 1) (by omega)
    have ev0 : wy q j + ch q j = wy q (j + 1) := rfl
    have v0 : IntKind.i64.wrap (wy q j + ch q j) = wy q (j + 1) := wr (wy q (j + 1)) (by omega) (by omega)
    have ev1 : (ch q j * (q - (j : Int))).tdiv ((j : Int) + 1) = ch q (j + 1) := rfl
    have hj0 : (j : Int) + 1 ≠ 0 := by omega
    refine ⟨[Ans.o (Orc.val 22 (I (↑(x.length - i) : Int)) H.nil), Ans.o (Orc.b true), Ans.o (Orc.val 28 (I (wy q (j + (1 : Nat)))) H.nil), Ans.o (Orc.val 36 (I (ch q (j + (1 : Nat)))) H.nil)], fun u => of_eq (aBin Try.prog BinOp.sub (3 : Nat) (I (↑x.length : Int)) (I (↑i : Int)) = some (I (↑(x.length - i) : Int)) ∧ (↑j : Int) < (↑(x.length - i) : Int) ∧ aBin Try.prog BinOp.add (3 : Nat) (I (wy q j)) (I (ch q j)) = some (I (wy q (j + (1 : Nat)))) ∧ IntKind.i64.wrap (q - (↑j : Int)) = q - (↑j : Int) ∧ IntKind.i64.wrap (ch q j * (q - (↑j : Int))) = ch q j * (q - (↑j : Int)) ∧ IntKind.i64.wrap ((↑j : Int) + (1 : Int)) = (↑j : Int) + (1 : Int) ∧ aBin Try.prog BinOp.quo (3 : Nat) (I (ch q j * (q - (↑j : Int)))) (I ((↑j : Int) + (1 : Int))) = some (I (ch q (j + (1 : Nat)))) ∧ IntKind.i64.wrap ((↑j : Int) + (1 : Int)) = (↑j : Int) + (1 : Int) ∧ (44 : Nat) = (44 : Nat) ∧ j < x.length - i ∧ Keep (H.mk [] [] [] = H.mk [] [] [] ∧ [AV.sl (ints x) x.length r, I q, I s, I (↑i : Int), I (ia x i), AV.sl (ints x) x.length r, I (↑x.length : Int), I (↑i : Int), I (ch q (j + (1 : Nat))), I (wy q (j + (1 : Nat))), I ((↑j : Int) + (1 : Int))] = [AV.sl (ints x) x.length r, I q, I s, I (↑i : Int), I (ia x i), AV.sl (ints x) x.length r, I (↑x.length : Int), I (↑i : Int), I (ch q (j + (1 : Nat))), I (wy q (j + (1 : Nat))), I (↑(j + (1 : Nat)) : Int)])) (by kernel_rfl) ?_⟩
    refine ⟨by first | exact told_quo hj0 w0.2 | exact told_add v0 | exact told_sub (by rw [ev9]; exact wr _ (by omega) (by omega)), ?_⟩
    refine ⟨by first | with_reducible assumption | omega | assumption, ?_⟩
    refine ⟨by first | exact told_quo hj0 w0.2 | exact told_add v0 | exact told_sub (by rw [ev9]; exact wr _ (by omega) (by omega)), ?_⟩
    refine ⟨by first | exact w0.1 | exact wr _ (by omega) (by omega), ?_⟩
    refine ⟨by first | exact w0.1 | exact wr _ (by omega) (by omega), ?_⟩
    refine ⟨by first | exact w0.1 | exact wr _ (by omega) (by omega), ?_⟩
    refine ⟨by first | exact told_quo hj0 w0.2 | exact told_add v0 | exact told_sub (by rw [ev9]; exact wr _ (by omega) (by omega)), ?_⟩
    refine ⟨by first | exact w0.1 | exact wr _ (by omega) (by omega), ?_⟩
    refine ⟨by first | with_reducible assumption | omega | assumption, ?_⟩
    refine ⟨by first | with_reducible assumption | omega | assumption, ?_⟩
    exact ⟨rfl, rfl⟩
  · have hz : ((x.length - i : Nat) : Int) ≤ j := by omega
    have e : j = x.length - i := by omega
    subst e
    refine ⟨[Ans.o (Orc.val 22 (I (↑(x.length - i) : Int)) H.nil), Ans.o (Orc.b false)], fun u => of_eq (aBin Try.prog BinOp.sub (3 : Nat) (I (↑x.length : Int)) (I (↑i : Int)) = some (I (↑(x.length - i) : Int)) ∧ (↑(x.length - i) : Int) ≤ (↑(x.length - i) : Int) ∧ (44 : Nat) = (44 : Nat) ∧ hits [Out.mk Unit (AX.exit (2 : Nat)) [(0 : Nat), (1 : Nat), (5 : Nat), (6 : Nat), (7 : Nat), (11 : Nat), (12 : Nat), (13 : Nat), (9 : Nat)] (fun x => True) (fun x_1 => v38 x r q i s ++ [I (wy q (x.length - i))]) (fun x => H.nil) fun x => []] (AX.exit (2 : Nat)) [AV.sl (ints x) x.length r, I q, u (2 : Nat), u (3 : Nat), u (4 : Nat), I s, I (↑i : Int), I (ia x i), I (ch q (x.length - i)), I (wy q (x.length - i)), I (↑(x.length - i) : Int), AV.sl (ints x) x.length r, I (↑x.length : Int), I (↑i : Int), u (14 : Nat), u (15 : Nat), u (16 : Nat), u (17 : Nat), I (↑(x.length - i) : Int), AV.sl (ints x) x.length r, I (↑x.length : Int), I (↑i : Int), I (↑(x.length - i) : Int), AV.bool false, u (24 : Nat), u (25 : Nat), u (26 : Nat), u (27 : Nat), u (28 : Nat), u (29 : Nat), u (30 : Nat), u (31 : Nat), u (32 : Nat), u (33 : Nat), u (34 : Nat), u (35 : Nat), u (36 : Nat), u (37 : Nat), u (38 : Nat), u (39 : Nat), u (40 : Nat), u (41 : Nat), u (42 : Nat), u (43 : Nat)] (H.mk [] [] [])) (by kernel_rfl) ?_⟩
    refine ⟨by first | exact told_sub (by rw [ev9]; exact wr _ (by omega) (by omega)), ?_⟩
    refine ⟨by first | with_reducible assumption | omega | assumption, ?_⟩
    refine ⟨by first | with_reducible assumption | omega | assumption, ?_⟩
    exact .inl ⟨(), trivial, rfl, rfl, rfl⟩
abbrev o38 (x : List Int) (q : Int) : List Out :=
  [.mk Unit (.exit 0) [5] (fun _ => True) (fun _ => [I (wj x q x.length)]) (fun _ => .nil) (fun _ => [])]
theorem simp38 : allSimpleM none1 (loopAt Try.f38 0) = true := by kernel_rfl
theorem lp38 (x : List Int) (r : Room) (q : Int) (hq : q30 q) (hl : x.length ≤ 4) (hr : rok x r) (hw : wn 0 200 x = true) :
    LoopS (En6 []) (loopAt Try.f38 0) 44 [0, 1, 5, 11, 12, 13] [ls x r, I q, I 0, ls x r, I x.length, I 0] .nil (o38 x q) := by
  have hR : Rests (En6 []) none1 := rests mixed .nil
  refine loop_s hR simp38 none (by intro _ h; cases h) (fun i vs h => h = .nil ∧ vs = [ls x r, I q, I (wj x q i), ls x r, I x.length, I (i : Nat)]) x.length ⟨rfl, rfl⟩ (by intro _ h; cases h) ?_
  rintro i vs h hi ⟨rfl, rfl⟩
  by_cases hz : (i : Int) < x.length
  · have hz' : i < x.length := by omega
    have hr' := rok_idx hr hz'
    have b1 := mul_bd (wn_get hw (i := i) (by omega)) (ch_bd hq (j := x.length - i) (by omega)).2
    have b2 := wj_bd hq hl hw (i := i) (by omega)
    have b3 := wj_bd hq hl hw (i := i + 1) (by omega)
    have ev0 : wj x q i + ia x i * wy q (x.length - i) = wj x q (i + 1) := rfl
    have v0 : IntKind.i64.wrap (wj x q i + ia x i * wy q (x.length - i)) = wj x q (i + 1) := wr (wj x q (i + 1)) (by omega) (by omega)
    refine ⟨[Ans.o (Orc.b true), Ans.o (Orc.val 16 (AV.cptr (ints (List.drop i x))) H.nil), Ans.o (Orc.val 17 (I (x.getD i i0)) H.nil), Ans.loop [(0 : Nat), (1 : Nat), (5 : Nat), (6 : Nat), (7 : Nat), (11 : Nat), (12 : Nat), (13 : Nat), (8 : Nat), (9 : Nat), (10 : Nat)] [Out.mk Unit (AX.exit (2 : Nat)) [(0 : Nat), (1 : Nat), (5 : Nat), (6 : Nat), (7 : Nat), (11 : Nat), (12 : Nat), (13 : Nat), (9 : Nat)] (fun x => True) (fun x_1 => v38 x r q i (wj x q i) ++ [I (wy q (x.length - i))]) (fun x => H.nil) fun y => [Ans.o (Orc.val 41 (I (wj x q (i + (1 : Nat)))) H.nil)]]], fun u => of_eq ((↑i : Int) < (↑x.length : Int) ∧ aIndexAddr Try.prog (31 : Nat) (AV.sl (ints x) x.length r) (I (↑i : Int)) = some (AV.cptr (ints (List.drop i x))) ∧ aLoad Try.prog (3 : Nat) (ints (List.drop i x)) = some (I (x.getD i i0)) ∧ LoopS (Env.mk Try.prog (Sof (P := Try.prog) []) (Pof (P := Try.prog) []) H.nil.base (300 : Nat)) (loopAt Try.f38 (1 : Nat)) (44 : Nat) [(0 : Nat), (1 : Nat), (5 : Nat), (6 : Nat), (7 : Nat), (11 : Nat), (12 : Nat), (13 : Nat), (8 : Nat), (9 : Nat), (10 : Nat)] [AV.sl (ints x) x.length r, I q, I (wj x q i), I (↑i : Int), I (x.getD i i0), AV.sl (ints x) x.length r, I (↑x.length : Int), I (↑i : Int), I 1, I 0, I 0] (H.mk [] [] []) [Out.mk Unit (AX.exit (2 : Nat)) [(0 : Nat), (1 : Nat), (5 : Nat), (6 : Nat), (7 : Nat), (11 : Nat), (12 : Nat), (13 : Nat), (9 : Nat)] (fun x => True) (fun x_1 => v38 x r q i (wj x q i) ++ [I (wy q (x.length - i))]) (fun x => H.nil) fun y => [Ans.o (Orc.val 41 (I (wj x q (i + (1 : Nat)))) H.nil)]] ∧ (∀ (y : Unit), True → ∀ (u : Nat → AV), IntKind.i64.wrap (ia x i * wy q (x.length - i)) = ia x i * wy q (x.length - i) ∧ aBin Try.prog BinOp.add (3 : Nat) (I (wj x q i)) (I (ia x i * wy q (x.length - i))) = some (I (wj x q (i + (1 : Nat)))) ∧ IntKind.i64.wrap ((↑i : Int) + (1 : Int)) = (↑i : Int) + (1 : Int) ∧ (44 : Nat) = (44 : Nat) ∧ i < x.length ∧ Keep (H.mk [] [] [] = H.mk [] [] [] ∧ [AV.sl (ints x) x.length r, I q, I (wj x q (i + (1 : Nat))), AV.sl (ints x) x.length r, I (↑x.length : Int), I ((↑i : Int) + (1 : Int))] = [AV.sl (ints x) x.length r, I q, I (wj x q (i + (1 : Nat))), AV.sl (ints x) x.length r, I (↑x.length : Int), I (↑(i + (1 : Nat)) : Int)])) ∧ True) (by kernel_rfl) ?_⟩
    refine ⟨by first | with_reducible assumption | omega | assumption, ?_⟩
    refine ⟨by first | exact ix_ints (by kernel_rfl) (by omega) (by assumption) | exact ix_ints (by kernel_rfl) (by omega) (rok_idx (by assumption) (by omega)), ?_⟩
    refine ⟨by first | exact ld_ints (by kernel_rfl) (by kernel_rfl) (by omega) | exact ldm_ints (by kernel_rfl) (by kernel_rfl) (by first | omega | (simp; omega)), ?_⟩
    refine ⟨lp38b x r q i (wj x q i) hq hl hz', ?_⟩
    refine And.intro ?_ ?_
    · skip
      intro y
      intro w1
      intro u
      refine ⟨wr _ (by omega) (by omega), ?_⟩
      refine ⟨told_add v0, ?_⟩
      refine ⟨wr _ (by omega) (by omega), ?_⟩
      refine ⟨by first | with_reducible assumption | omega | assumption, ?_⟩
      refine ⟨by first | with_reducible assumption | omega | assumption, ?_⟩
      exact ⟨rfl, rfl⟩
    · skip
      trivial
  · have hz : (x.length : Int) ≤ i := by omega
    have e : i = x.length := by omega
    subst e
    refine ⟨[Ans.o (Orc.b false)], fun u => of_eq ((↑x.length : Int) ≤ (↑x.length : Int) ∧ (44 : Nat) = (44 : Nat) ∧ hits [Out.mk Unit (AX.exit (0 : Nat)) [(5 : Nat)] (fun x => True) (fun x_1 => [I (wj x q x.length)]) (fun x => H.nil) fun x => []] (AX.exit (0 : Nat)) [AV.sl (ints x) x.length r, I q, u (2 : Nat), u (3 : Nat), u (4 : Nat), I (wj x q x.length), u (6 : Nat), u (7 : Nat), u (8 : Nat), u (9 : Nat), u (10 : Nat), AV.sl (ints x) x.length r, I (↑x.length : Int), I (↑x.length : Int), AV.bool false, u (15 : Nat), u (16 : Nat), u (17 : Nat), u (18 : Nat), u (19 : Nat), u (20 : Nat), u (21 : Nat), u (22 : Nat), u (23 : Nat), u (24 : Nat), u (25 : Nat), u (26 : Nat), u (27 : Nat), u (28 : Nat), u (29 : Nat), u (30 : Nat), u (31 : Nat), u (32 : Nat), u (33 : Nat), u (34 : Nat), u (35 : Nat), u (36 : Nat), u (37 : Nat), u (38 : Nat), u (39 : Nat), u (40 : Nat), u (41 : Nat), u (42 : Nat), u (43 : Nat)] (H.mk [] [] [])) (by kernel_rfl) ?_⟩
    refine ⟨by first | with_reducible assumption | omega | assumption, ?_⟩
    refine ⟨by first | with_reducible assumption | omega | assumption, ?_⟩
    exact .inl ⟨(), trivial, rfl, rfl, rfl⟩
theorem ok38 : FokM Try.prog none1 38 Try.f38 := ⟨mixed, by kernel_rfl, by kernel_rfl, by kernel_rfl, by kernel_rfl⟩
theorem r38 (x : List Int) (r : Room) (q : Int) (hp : (rok x r ∧ x.length ≤ 4 ∧ wn 0 200 x = true) ∧ q30 q) : Body ⟨Try.prog, Sof (P := Try.prog) [], Pof (P := Try.prog) [], H.nil.base, 300⟩ none1 Try.f38 [ls x r, I q] .nil (I (wj x q x.length), .nil) := by
  obtain ⟨⟨h1, h2, h3⟩, hq⟩ := hp
  refine body_s ([Ans.loop [(0 : Nat), (1 : Nat), (5 : Nat), (11 : Nat), (12 : Nat), (13 : Nat)] [Out.mk Unit (AX.exit (0 : Nat)) [(5 : Nat)] (fun x => True) (fun x_1 => [I (wj x q x.length)]) (fun x => H.nil) fun y => []]]) (LoopS (Env.mk Try.prog (Sof (P := Try.prog) []) (Pof (P := Try.prog) []) H.nil.base (300 : Nat)) (loopAt Try.f38 (0 : Nat)) (44 : Nat) [(0 : Nat), (1 : Nat), (5 : Nat), (11 : Nat), (12 : Nat), (13 : Nat)] [AV.sl (ints x) x.length r, I q, I 0, AV.sl (ints x) x.length r, I (↑x.length : Int), I 0] (H.mk [] [] []) [Out.mk Unit (AX.exit (0 : Nat)) [(5 : Nat)] (fun x => True) (fun x_1 => [I (wj x q x.length)]) (fun x => H.nil) fun y => []] ∧ (∀ (y : Unit), True → ∀ (u : Nat → AV), (I (wj x q x.length), H.mk [] [] []) = (I (wj x q x.length), H.mk [] [] [])) ∧ True) (by kernel_rfl) ?_
  refine ⟨lp38 x r q hq h2 h1 h3, ?_⟩
  refine And.intro ?_ ?_
  · skip
    intro y
    intro w1
    intro u
    rfl
  · skip
    trivial
noncomputable def c38 : PCtr Try.prog := sctr ok38 (X := List Int × Room × Int) (fun x => [ls x.1 x.2.1, I x.2.2]) (fun x => (rok x.1 x.2.1 ∧ x.1.length ≤ 4 ∧ wn 0 200 x.1 = true) ∧ q30 x.2.2) (fun x => I (wj x.1 x.2.2 x.1.length)) (by intro x y e _ _; simp [Int.natCast_inj] at e; simp [e]) (fun x => by simp [AV.bnds, AV.bnd, AV.wk, rm_wk_bnd]) (fun x => by first | rfl | (simp [AV.bnd, rm_wk_bnd]; done)  | (simp [AV.bnd, AV.bnds, rm_wk_bnd]; done) | simp [AV.bnd, AV.bnds, Room.bnd, rm_wk_bnd]) (fun x hx => ⟨_, _, _, .nil, r38 (x.1) (x.2.1).wk (x.2.2) (by first | exact hx | (simp only [rok_wk]; exact hx) | (simp only [rok_wk, lst_wk]; exact hx) | (simp only [rok_wk, lst_wk, lsn_wk]; exact hx))⟩)
/-- those that agree with a reply, and the others -/
def inn (y : Bool) (x q : Int) : Int := if y then q else x - q
abbrev oth (y : Bool) (x q : Int) : Int := inn (!y) x q
abbrev bq (x q : Int) : Prop := (0 ≤ q ∧ q ≤ x) ∧ x ≤ 200
theorem ok91 : FokM Try.prog none1 91 Try.f91 := ⟨mixed, by kernel_rfl, by kernel_rfl, by kernel_rfl, by kernel_rfl⟩
theorem r91 (a : Int) (b : Int) (c : Int) (d : Int) (p : Int) (q : Int) (s : Int) (t : Int) (hp : bq a p ∧ bq b q ∧ bq c s ∧ bq d t) : Body ⟨Try.prog, Sof (P := Try.prog) [], Pof (P := Try.prog) [], H.nil.base, 300⟩ none1 Try.f91 [a4 a b c d, a4 p q s t] .nil (a4 (a - p) (b - q) (c - s) (d - t), .nil) := by
  obtain ⟨h1, h2, h3, h4⟩ := hp
  refine body_s ([Ans.o Orc.dflt, Ans.o Orc.dflt, Ans.o Orc.dflt, Ans.o Orc.dflt, Ans.o Orc.dflt]) (IntKind.i64.wrap (a - p) = a - p ∧ IntKind.i64.wrap (1 : Int) = (1 : Int) ∧ IntKind.i64.wrap (b - q) = b - q ∧ IntKind.i64.wrap (2 : Int) = (2 : Int) ∧ IntKind.i64.wrap (c - s) = c - s ∧ IntKind.i64.wrap (3 : Int) = (3 : Int) ∧ IntKind.i64.wrap (d - t) = d - t ∧ IntKind.i64.wrap (4 : Int) = (4 : Int) ∧ (AV.agg [I (a - p), I (b - q), I (c - s), I (d - t)], H.mk [] [] []) = (AV.agg [I (a - p), I (b - q), I (c - s), I (d - t)], H.mk [] [] [])) (by kernel_rfl) ?_
  refine ⟨wr _ (by omega) (by omega), ?_⟩
  refine ⟨wr _ (by omega) (by omega), ?_⟩
  refine ⟨wr _ (by omega) (by omega), ?_⟩
  refine ⟨wr _ (by omega) (by omega), ?_⟩
  refine ⟨wr _ (by omega) (by omega), ?_⟩
  refine ⟨wr _ (by omega) (by omega), ?_⟩
  refine ⟨wr _ (by omega) (by omega), ?_⟩
  refine ⟨wr _ (by omega) (by omega), ?_⟩
  rfl
noncomputable def c91 : PCtr Try.prog := sctr ok91 (X := Int × Int × Int × Int × Int × Int × Int × Int) (fun x => [a4 x.1 x.2.1 x.2.2.1 x.2.2.2.1, a4 x.2.2.2.2.1 x.2.2.2.2.2.1 x.2.2.2.2.2.2.1 x.2.2.2.2.2.2.2]) (fun x => bq x.1 x.2.2.2.2.1 ∧ bq x.2.1 x.2.2.2.2.2.1 ∧ bq x.2.2.1 x.2.2.2.2.2.2.1 ∧ bq x.2.2.2.1 x.2.2.2.2.2.2.2) (fun x => a4 (x.1 - x.2.2.2.2.1) (x.2.1 - x.2.2.2.2.2.1) (x.2.2.1 - x.2.2.2.2.2.2.1) (x.2.2.2.1 - x.2.2.2.2.2.2.2)) (by intro x y e _ _; simp [Int.natCast_inj] at e; simp [e]) (fun x => by simp [AV.bnds, AV.bnd, AV.wk, rm_wk_bnd]) (fun x => by first | rfl | (simp [AV.bnd, rm_wk_bnd]; done)  | (simp [AV.bnd, AV.bnds, rm_wk_bnd]; done) | simp [AV.bnd, AV.bnds, Room.bnd, rm_wk_bnd]) (fun x hx => ⟨_, _, _, .nil, r91 (x.1) (x.2.1) (x.2.2.1) (x.2.2.2.1) (x.2.2.2.2.1) (x.2.2.2.2.2.1) (x.2.2.2.2.2.2.1) (x.2.2.2.2.2.2.2) hx⟩)
theorem ok69 : FokM Try.prog none1 69 Try.f69 := ⟨mixed, by kernel_rfl, by kernel_rfl, by kernel_rfl, by kernel_rfl⟩
theorem r69 (a : Int) (b : Int) (c : Int) (d : Int) (p : Int) (q : Int) (s : Int) (t : Int) (y : Bool) (hp : bq a p ∧ bq b q ∧ bq c s ∧ bq d t) : Body ⟨Try.prog, Sof (P := Try.prog) [c91.to], Pof (P := Try.prog) [], H.nil.base, 300⟩ none1 Try.f69 [a4 a b c d, a4 p q s t, .bool y] .nil (a4 (inn y a p) (inn y b q + oth y a p) (inn y c s + oth y b q) (inn y d t + oth y c s), .nil) := by
  have hp' := hp
  obtain ⟨h1, h2, h3, h4⟩ := hp
  cases y
  · refine body_s ([Ans.o (Orc.val 14 (AV.agg [I (a - p), I (b - q), I (c - s), I (d - t)]) (H.mk [[I a, I b, I c, I d], [I p, I q, I s, I t], [I 0, I 0, I 0, I 0]] [] [])), Ans.o Orc.dflt, Ans.o Orc.dflt, Ans.o Orc.dflt, Ans.o Orc.dflt]) (aCall (Sof [c91.to]) (AV.fn (Fn.func (91 : Nat)) [] []) [AV.agg [I a, I b, I c, I d], AV.agg [I p, I q, I s, I t]] (H.mk [[I a, I b, I c, I d], [I p, I q, I s, I t], [I 0, I 0, I 0, I 0]] [] []) = some (AV.agg [I (a - p), I (b - q), I (c - s), I (d - t)], H.mk [[I a, I b, I c, I d], [I p, I q, I s, I t], [I 0, I 0, I 0, I 0]] [] []) ∧ IntKind.i64.wrap (1 : Int) = (1 : Int) ∧ IntKind.i64.wrap (b - q + p) = b - q + p ∧ IntKind.i64.wrap (1 : Int) = (1 : Int) ∧ IntKind.i64.wrap (2 : Int) = (2 : Int) ∧ IntKind.i64.wrap (c - s + q) = c - s + q ∧ IntKind.i64.wrap (2 : Int) = (2 : Int) ∧ IntKind.i64.wrap (3 : Int) = (3 : Int) ∧ IntKind.i64.wrap (d - t + s) = d - t + s ∧ IntKind.i64.wrap (3 : Int) = (3 : Int) ∧ (AV.agg [I (a - p), I (b - q + p), I (c - s + q), I (d - t + s)], H.mk [] [] []) = (AV.agg [I (inn false a p), I (inn false b q + oth false a p), I (inn false c s + oth false b q), I (inn false d t + oth false c s)], H.mk [] [] [])) (by kernel_rfl) ?_
    refine ⟨acall_hit (c := c91.to) (a, b, c, d, p, q, s, t) _ rfl hp', ?_⟩
    refine ⟨wr _ (by omega) (by omega), ?_⟩
    refine ⟨wr _ (by omega) (by omega), ?_⟩
    refine ⟨wr _ (by omega) (by omega), ?_⟩
    refine ⟨wr _ (by omega) (by omega), ?_⟩
    refine ⟨wr _ (by omega) (by omega), ?_⟩
    refine ⟨wr _ (by omega) (by omega), ?_⟩
    refine ⟨wr _ (by omega) (by omega), ?_⟩
    refine ⟨wr _ (by omega) (by omega), ?_⟩
    refine ⟨wr _ (by omega) (by omega), ?_⟩
    rfl
  · refine body_s ([Ans.o (Orc.val 14 (AV.agg [I (a - p), I (b - q), I (c - s), I (d - t)]) (H.mk [[I a, I b, I c, I d], [I p, I q, I s, I t], [I 0, I 0, I 0, I 0]] [] [])), Ans.o Orc.dflt, Ans.o Orc.dflt, Ans.o Orc.dflt, Ans.o Orc.dflt]) (aCall (Sof [c91.to]) (AV.fn (Fn.func (91 : Nat)) [] []) [AV.agg [I a, I b, I c, I d], AV.agg [I p, I q, I s, I t]] (H.mk [[I a, I b, I c, I d], [I p, I q, I s, I t], [I 0, I 0, I 0, I 0]] [] []) = some (AV.agg [I (a - p), I (b - q), I (c - s), I (d - t)], H.mk [[I a, I b, I c, I d], [I p, I q, I s, I t], [I 0, I 0, I 0, I 0]] [] []) ∧ IntKind.i64.wrap (1 : Int) = (1 : Int) ∧ IntKind.i64.wrap (q + (a - p)) = q + (a - p) ∧ IntKind.i64.wrap (1 : Int) = (1 : Int) ∧ IntKind.i64.wrap (2 : Int) = (2 : Int) ∧ IntKind.i64.wrap (s + (b - q)) = s + (b - q) ∧ IntKind.i64.wrap (2 : Int) = (2 : Int) ∧ IntKind.i64.wrap (3 : Int) = (3 : Int) ∧ IntKind.i64.wrap (t + (c - s)) = t + (c - s) ∧ IntKind.i64.wrap (3 : Int) = (3 : Int) ∧ (AV.agg [I p, I (q + (a - p)), I (s + (b - q)), I (t + (c - s))], H.mk [] [] []) = (AV.agg [I (inn true a p), I (inn true b q + oth true a p), I (inn true c s + oth true b q), I (inn true d t + oth true c s)], H.mk [] [] [])) (by kernel_rfl) ?_
    refine ⟨acall_hit (c := c91.to) (a, b, c, d, p, q, s, t) _ rfl hp', ?_⟩
    refine ⟨wr _ (by omega) (by omega), ?_⟩
    refine ⟨wr _ (by omega) (by omega), ?_⟩
    refine ⟨wr _ (by omega) (by omega), ?_⟩
    refine ⟨wr _ (by omega) (by omega), ?_⟩
    refine ⟨wr _ (by omega) (by omega), ?_⟩
    refine ⟨wr _ (by omega) (by omega), ?_⟩
    refine ⟨wr _ (by omega) (by omega), ?_⟩
    refine ⟨wr _ (by omega) (by omega), ?_⟩
    refine ⟨wr _ (by omega) (by omega), ?_⟩
    rfl
noncomputable def c69 : PCtr Try.prog := sctr ok69 (X := Int × Int × Int × Int × Int × Int × Int × Int × Bool) (fun x => [a4 x.1 x.2.1 x.2.2.1 x.2.2.2.1, a4 x.2.2.2.2.1 x.2.2.2.2.2.1 x.2.2.2.2.2.2.1 x.2.2.2.2.2.2.2.1, .bool x.2.2.2.2.2.2.2.2]) (fun x => bq x.1 x.2.2.2.2.1 ∧ bq x.2.1 x.2.2.2.2.2.1 ∧ bq x.2.2.1 x.2.2.2.2.2.2.1 ∧ bq x.2.2.2.1 x.2.2.2.2.2.2.2.1) (fun x => a4 (inn x.2.2.2.2.2.2.2.2 x.1 x.2.2.2.2.1) (inn x.2.2.2.2.2.2.2.2 x.2.1 x.2.2.2.2.2.1 + oth x.2.2.2.2.2.2.2.2 x.1 x.2.2.2.2.1) (inn x.2.2.2.2.2.2.2.2 x.2.2.1 x.2.2.2.2.2.2.1 + oth x.2.2.2.2.2.2.2.2 x.2.1 x.2.2.2.2.2.1) (inn x.2.2.2.2.2.2.2.2 x.2.2.2.1 x.2.2.2.2.2.2.2.1 + oth x.2.2.2.2.2.2.2.2 x.2.2.1 x.2.2.2.2.2.2.1)) (by intro x y e _ _; simp [Int.natCast_inj] at e; simp [e]) (fun x => by simp [AV.bnds, AV.bnd, AV.wk, rm_wk_bnd]) (fun x => by first | rfl | (simp [AV.bnd, rm_wk_bnd]; done)  | (simp [AV.bnd, AV.bnds, rm_wk_bnd]; done) | simp [AV.bnd, AV.bnds, Room.bnd, rm_wk_bnd]) (fun x hx => ⟨_, _, _, .pure c91 (.nil), r69 (x.1) (x.2.1) (x.2.2.1) (x.2.2.2.1) (x.2.2.2.2.1) (x.2.2.2.2.2.1) (x.2.2.2.2.2.2.1) (x.2.2.2.2.2.2.2.1) (x.2.2.2.2.2.2.2.2) hx⟩)
end Go.Proofs.Gss

