/- Layer 4: the law of the class of all concepts. -/
import Derived.Test.YtdnidpojcocklaaDoorLoE
import Derived.Test.YtdnidpojcocklaaDoorLnZ
import Derived.Test.YtdnidpojcocklaaDoorLnY
import Derived.Test.YtdnidpojcocklaaDoorLnT2
import Derived.Test.YtdnidpojcocklaaDoorLnO0
import Derived.Test.YtdnidpojcocklaaDoorLnJ
import Derived.KernelRfl
set_option linter.unusedSimpArgs false
set_option linter.unusedVariables false
set_option linter.unnecessarySimpa false
set_option maxHeartbeats 4000000
set_option maxRecDepth 100000
namespace Go.Proofs.Lrn
open Go Go.VM

noncomputable def d17a : PCtr Tryd.prog := up c17a
noncomputable def d21 : PCtr Tryd.prog := up c21
noncomputable def d24g : PCtr Tryd.prog := up c24g
noncomputable def d36g : PCtr Tryd.prog := up c36g
noncomputable def d39g : PCtr Tryd.prog := up c39g
noncomputable def d43g : PCtr Tryd.prog := up c43g
/-- all concepts below n -/
def rg : Nat → List Int
  | 0 => []
  | n + 1 => rg n ++ [(n : Int)]
theorem rg_len : ∀ n, (rg n).length = n
  | 0 => rfl
  | n + 1 => by simp [rg, rg_len n]
theorem rg_get : ∀ (n i : Nat), i < n → (rg n).getD i i0 = (i : Int)
  | 0, i, h => by omega
  | n + 1, i, h => by
    have hl := rg_len n
    simp only [rg]
    by_cases e : i < n
    · have : (rg n ++ [(n : Int)]).getD i i0 = (rg n).getD i i0 := by simp [List.getD_eq_getElem?_getD, List.getElem?_append_left (by omega : i < (rg n).length)]
      rw [this]; exact rg_get n i e
    · have : i = n := by omega
      subst this
      have hl2 : (rg i).length ≤ i := by omega
      simp [List.getD_eq_getElem?_getD, List.getElem?_append_right hl2, hl]
abbrev KK (q : Int) : List Int := rg (tw q).toNat
theorem KK_cls {q : Int} (h : 1 ≤ q ∧ q ≤ 4) : cls q (KK q) := by
  have ht := tw_bd (p := q)
  have ht2 : tw q ≤ 16 := by
    have : q = 1 ∨ q = 2 ∨ q = 3 ∨ q = 4 := by omega
    rcases this with rfl | rfl | rfl | rfl <;> decide
  have hl : (KK q).length = (tw q).toNat := rg_len _
  refine ⟨⟨h.1, by omega⟩, by omega, by omega, fun i hi => ?_⟩
  rw [hl] at hi
  have e := rg_get (tw q).toNat i hi
  refine ⟨⟨by rw [e]; omega, by rw [e]; omega⟩, fun h0 => ?_⟩
  rw [e, rg_get (tw q).toNat (i - 1) (by omega)]
  omega
theorem f_dim : ∀ q : Int, (q = 1 ∨ q = 2 ∨ q = 3 ∨ q = 4) → dimV q (sOf (KK q)) = q := by
  rintro q (rfl | rfl | rfl | rfl) <;> kernel_rfl
theorem f_te : ∀ q : Int, (q = 1 ∨ q = 2 ∨ q = 3 ∨ q = 4) → teL q (sOf (KK q)) (KK q) (KK q).length = q := by
  rintro q (rfl | rfl | rfl | rfl) <;> kernel_rfl
theorem f_qu : ∀ q : Int, (q = 1 ∨ q = 2 ∨ q = 3 ∨ q = 4) → quV q (sOf (KK q)) = q := by
  rintro q (rfl | rfl | rfl | rfl) <;> kernel_rfl
theorem f_pl : ∀ q : Int, (q = 1 ∨ q = 2 ∨ q = 3 ∨ q = 4) → ((plN q (sOf (KK q)) : Nat) : Int) = q := by
  rintro q (rfl | rfl | rfl | rfl) <;> kernel_rfl
theorem f_wf : ∀ q : Int, (q = 1 ∨ q = 2 ∨ q = 3 ∨ q = 4) → woV false q (sOf (KK q)) = q := by
  rintro q (rfl | rfl | rfl | rfl) <;> kernel_rfl
theorem f_wt : ∀ q : Int, (q = 1 ∨ q = 2 ∨ q = 3 ∨ q = 4) → woV true q (sOf (KK q)) = q := by
  rintro q (rfl | rfl | rfl | rfl) <;> kernel_rfl
abbrev o15 (q : Int) : List Out := [.mk Unit (.exit 0) [0, 3] (fun _ => True) (fun _ => [I q, acc (KK q)]) (fun _ => hacc (KK q)) (fun _ => [])]
theorem simp15 : allSimpleM none1 (loopAt Tryd.f15 0) = true := by kernel_rfl
theorem lp15 (q : Int) (E : Env) (hE : E = En5 [d17a.to, d24g.to, d39g.to, d43g.to, c44g.to, d36g.to, d21.to]) :
    LoopS E (loopAt Tryd.f15 0) 128 [0, 3, 23, 24] [I q, .sl [] 0 .nil, I (tw q), I 0] .nil (o15 q) := by
  subst hE
  have hR : Rests (En5 [d17a.to, d24g.to, d39g.to, d43g.to, c44g.to, d36g.to, d21.to]) none1 := rests mixed (.pure _ (.pure _ (.pure _ (.pure _ (.pure _ (.pure _ (.pure _ .nil)))))))
  have ht := tw_bd (p := q)
  refine loop_s hR simp15 none (by intro _ h; cases h) (fun j vs h => h = hacc (rg j) ∧ vs = [I q, acc (rg j), I (tw q), I j] ∧ (j : Int) ≤ tw q) (tw q).toNat ⟨rfl, rfl, by omega⟩ (by intro _ h; cases h) ?_
  rintro j vs h hj ⟨rfl, rfl, hle⟩
  by_cases hz : (j : Int) < tw q
  · have hle2 : ((j + 1 : Nat) : Int) ≤ tw q := by omega
    have hl := rg_len j
    have hlen : (rg j).length ≤ 1000000000 := by omega
    refine ⟨[Ans.o (Orc.b true), Ans.o (Orc.val (30 : Nat) (AV.sl (ints (rg j ++ [(↑j : Int)])) (rg j ++ [(↑j : Int)]).length (rm (0 : Nat) (rg j ++ [(↑j : Int)]))) (H.mk [] (tk (rg j ++ [(↑j : Int)])) []))], fun u => of_eq ((↑j : Int) < tw q ∧ aAppend Tryd.prog (22 : Nat) (22 : Nat) (AV.sl (ints (rg j)) (rg j).length (rm (0 : Nat) (rg j))) (AV.sl [I (↑j : Int)] (1 : Nat) Room.full) (H.mk [] (tk (rg j)) []) = some (AV.sl (ints (rg j ++ [(↑j : Int)])) (rg j ++ [(↑j : Int)]).length (rm (0 : Nat) (rg j ++ [(↑j : Int)])), H.mk [] (tk (rg j ++ [(↑j : Int)])) []) ∧ IntKind.i64.wrap ((↑j : Int) + (1 : Int)) = (↑j : Int) + (1 : Int) ∧ (128 : Nat) = (128 : Nat) ∧ j < (tw q).toNat ∧ Keep (H.mk [] (tk (rg j ++ [(↑j : Int)])) [] = H.mk [] (tk (rg (j + (1 : Nat)))) [] ∧ [I q, AV.sl (ints (rg j ++ [(↑j : Int)])) (rg j ++ [(↑j : Int)]).length (rm (0 : Nat) (rg j ++ [(↑j : Int)])), I (tw q), I ((↑j : Int) + (1 : Int))] = [I q, AV.sl (ints (rg (j + (1 : Nat)))) (rg (j + (1 : Nat))).length (rm (0 : Nat) (rg (j + (1 : Nat)))), I (tw q), I (↑(j + (1 : Nat)) : Int)] ∧ (↑(j + (1 : Nat)) : Int) ≤ tw q)) (by kernel_rfl) ?_⟩
    refine And.intro (by first | assumption | omega | (simp only [small, tiny, rng, decide_eq_true_eq, decide_eq_false_iff_not, true_or, or_true, true_and, and_true, Int.reduceEq, Int.reduceNeg, eq_self, reduceIte, if_true, if_false] at *; omega) | (simp [small, tiny, rng, decide_eq_true_eq, decide_eq_false_iff_not, true_or, or_true, true_and, and_true, Int.reduceEq, Int.reduceNeg, eq_self, reduceIte, if_true, if_false] at *; done)) ?_
    refine And.intro (by exact app_ints (by kernel_rfl) hlen) ?_
    refine And.intro (by first | exact wr _ (by omega) (by omega) | (refine wr _ ?_ ?_ <;> (simp only [small, tiny, rng, decide_eq_true_eq, decide_eq_false_iff_not, true_or, or_true, true_and, and_true, Int.reduceEq, Int.reduceNeg, eq_self, reduceIte, if_true, if_false] at *; omega))) ?_
    refine And.intro (by first | assumption | omega | (simp only [small, tiny, rng, decide_eq_true_eq, decide_eq_false_iff_not, true_or, or_true, true_and, and_true, Int.reduceEq, Int.reduceNeg, eq_self, reduceIte, if_true, if_false] at *; omega) | (simp [small, tiny, rng, decide_eq_true_eq, decide_eq_false_iff_not, true_or, or_true, true_and, and_true, Int.reduceEq, Int.reduceNeg, eq_self, reduceIte, if_true, if_false] at *; done)) ?_
    refine And.intro (by first | assumption | omega | (simp only [small, tiny, rng, decide_eq_true_eq, decide_eq_false_iff_not, true_or, or_true, true_and, and_true, Int.reduceEq, Int.reduceNeg, eq_self, reduceIte, if_true, if_false] at *; omega) | (simp [small, tiny, rng, decide_eq_true_eq, decide_eq_false_iff_not, true_or, or_true, true_and, and_true, Int.reduceEq, Int.reduceNeg, eq_self, reduceIte, if_true, if_false] at *; done)) ?_
    exact ⟨rfl, rfl, hle2⟩
  · have hz : tw q ≤ (j : Int) := by omega
    have e : j = (tw q).toNat := by omega
    subst e
    refine ⟨[Ans.o (Orc.b false)], fun u => of_eq (tw q ≤ (↑(tw q).toNat : Int) ∧ (128 : Nat) = (128 : Nat) ∧ hits [Out.mk Unit (AX.exit (0 : Nat)) [(0 : Nat), (3 : Nat)] (fun x => True) (fun x => [I q, acc (KK q)]) (fun x => hacc (KK q)) fun x => []] (AX.exit (0 : Nat)) [I q, u (1 : Nat), u (2 : Nat), AV.sl (ints (rg (tw q).toNat)) (rg (tw q).toNat).length (rm (0 : Nat) (rg (tw q).toNat)), u (4 : Nat), u (5 : Nat), u (6 : Nat), u (7 : Nat), u (8 : Nat), u (9 : Nat), u (10 : Nat), u (11 : Nat), u (12 : Nat), u (13 : Nat), u (14 : Nat), u (15 : Nat), u (16 : Nat), u (17 : Nat), u (18 : Nat), u (19 : Nat), u (20 : Nat), u (21 : Nat), u (22 : Nat), I (tw q), I (↑(tw q).toNat : Int), AV.bool false, u (26 : Nat), u (27 : Nat), u (28 : Nat), u (29 : Nat), u (30 : Nat), u (31 : Nat), u (32 : Nat), u (33 : Nat), u (34 : Nat), u (35 : Nat), u (36 : Nat), u (37 : Nat), u (38 : Nat), u (39 : Nat), u (40 : Nat), u (41 : Nat), u (42 : Nat), u (43 : Nat), u (44 : Nat), u (45 : Nat), u (46 : Nat), u (47 : Nat), u (48 : Nat), u (49 : Nat), u (50 : Nat), u (51 : Nat), u (52 : Nat), u (53 : Nat), u (54 : Nat), u (55 : Nat), u (56 : Nat), u (57 : Nat), u (58 : Nat), u (59 : Nat), u (60 : Nat), u (61 : Nat), u (62 : Nat), u (63 : Nat), u (64 : Nat), u (65 : Nat), u (66 : Nat), u (67 : Nat), u (68 : Nat), u (69 : Nat), u (70 : Nat), u (71 : Nat), u (72 : Nat), u (73 : Nat), u (74 : Nat), u (75 : Nat), u (76 : Nat), u (77 : Nat), u (78 : Nat), u (79 : Nat), u (80 : Nat), u (81 : Nat), u (82 : Nat), u (83 : Nat), u (84 : Nat), u (85 : Nat), u (86 : Nat), u (87 : Nat), u (88 : Nat), u (89 : Nat), u (90 : Nat), u (91 : Nat), u (92 : Nat), u (93 : Nat), u (94 : Nat), u (95 : Nat), u (96 : Nat), u (97 : Nat), u (98 : Nat), u (99 : Nat), u (100 : Nat), u (101 : Nat), u (102 : Nat), u (103 : Nat), u (104 : Nat), u (105 : Nat), u (106 : Nat), u (107 : Nat), u (108 : Nat), u (109 : Nat), u (110 : Nat), u (111 : Nat), u (112 : Nat), u (113 : Nat), u (114 : Nat), u (115 : Nat), u (116 : Nat), u (117 : Nat), u (118 : Nat), u (119 : Nat), u (120 : Nat), u (121 : Nat), u (122 : Nat), u (123 : Nat), u (124 : Nat), u (125 : Nat), u (126 : Nat), u (127 : Nat)] (H.mk [] (tk (rg (tw q).toNat)) [])) (by kernel_rfl) ?_⟩
    refine And.intro (by first | assumption | omega | (simp only [small, tiny, rng, decide_eq_true_eq, decide_eq_false_iff_not, true_or, or_true, true_and, and_true, Int.reduceEq, Int.reduceNeg, eq_self, reduceIte, if_true, if_false] at *; omega) | (simp [small, tiny, rng, decide_eq_true_eq, decide_eq_false_iff_not, true_or, or_true, true_and, and_true, Int.reduceEq, Int.reduceNeg, eq_self, reduceIte, if_true, if_false] at *; done)) ?_
    refine And.intro (by first | assumption | omega | (simp only [small, tiny, rng, decide_eq_true_eq, decide_eq_false_iff_not, true_or, or_true, true_and, and_true, Int.reduceEq, Int.reduceNeg, eq_self, reduceIte, if_true, if_false] at *; omega) | (simp [small, tiny, rng, decide_eq_true_eq, decide_eq_false_iff_not, true_or, or_true, true_and, and_true, Int.reduceEq, Int.reduceNeg, eq_self, reduceIte, if_true, if_false] at *; done)) ?_
    exact .inl ⟨(), trivial, rfl, rfl, rfl⟩
theorem ok15 : FokM Tryd.prog none1 15 Tryd.f15 := ⟨mixed, by kernel_rfl, by kernel_rfl, by kernel_rfl, by kernel_rfl⟩
theorem r15 (x W m q : Int) (ev0 : IntKind.u64.wrap x = W) (ev1 : Int.tmod W 4 = m) (ev2 : IntKind.i64.wrap m = m) (ev3 : IntKind.i64.wrap (1 + m) = q) (hq : 1 ≤ q ∧ q ≤ 4) : Body (En5 [d17a.to, d24g.to, d39g.to, d43g.to, c44g.to, d36g.to, d21.to]) none1 Tryd.f15 [I x] .nil (.bool true, .nil) := by
  have h5 : p5 q := ⟨hq.1, by omega⟩
  have ev4 := tw_shl h5
  have hq0 : 0 ≤ q := by omega
  have hq4 : q = 1 ∨ q = 2 ∨ q = 3 ∨ q = 4 := by omega
  have hc := KK_cls hq
  have e := cut_same hc.2.2.1
  have ht := tw_bd (p := q)
  have hne : KK q ≠ [] := fun h => by have := hc.2.1; rw [h] at this; simp at this
  have z17 : KK q ≠ [] ∧ lim (KK q).length := ⟨hne, by have := hc.2.2.1; simp only [lim]; omega⟩
  have zc : cls q (cut (KK q)) ∧ rok (cut (KK q)) .no := ⟨by rw [e]; exact hc, by simp [rok]⟩
  have zk : cls q (KK q) ∧ rok (KK q) (rm 0 (KK q)) := ⟨hc, by
    cases hk : KK q with
    | nil => exact absurd hk hne
    | cons y t => simp [rok, rm]⟩
  have a1 : dimV q (sOf (cut (KK q))) = q := by rw [e]; exact f_dim q hq4
  have a2 : teL q (sOf (cut (KK q))) (cut (KK q)) (cut (KK q)).length = q := by rw [e]; exact f_te q hq4
  have a3 : quV q (sOf (cut (KK q))) = q := by rw [e]; exact f_qu q hq4
  have a4 : ((plN q (sOf (cut (KK q))) : Nat) : Int) = q := by rw [e]; exact f_pl q hq4
  have a5 : woV false q (sOf (cut (KK q))) = q := by rw [e]; exact f_wf q hq4
  have a6 : woV true q (sOf (KK q)) = q := f_wt q hq4
  refine body_s ([Ans.o (Orc.val (18 : Nat) (AV.int IntKind.u64 W) (H.mk [] [] [])), Ans.o (Orc.val (19 : Nat) (AV.int IntKind.u64 m) (H.mk [] [] [])), Ans.o (Orc.val (20 : Nat) (I m) (H.mk [] [] [])), Ans.o (Orc.val (21 : Nat) (I q) (H.mk [] [] [])), Ans.o (Orc.val (23 : Nat) (I (tw q)) (H.mk [] [] [])), Ans.loop [(0 : Nat), (3 : Nat), (23 : Nat), (24 : Nat)] [Out.mk Unit (AX.exit (0 : Nat)) [(0 : Nat), (3 : Nat)] (fun x => True) (fun x => [I q, acc (KK q)]) (fun x => hacc (KK q)) fun y => [Ans.o (Orc.val (35 : Nat) (AV.sl (ints (cut (KK q))) (cut (KK q)).length Room.no) (H.mk [] (tk (KK q)) [])), Ans.o (Orc.val (36 : Nat) (AV.tup [I (dimV q (sOf (cut (KK q)))), I (0 : Int)]) (H.mk [] (tk (KK q)) [])), Ans.o (Orc.val (42 : Nat) (AV.sl (ints (cut (KK q))) (cut (KK q)).length Room.no) (H.mk [] (tk (KK q)) [])), Ans.o (Orc.val (43 : Nat) (AV.tup [I (teL q (sOf (cut (KK q))) (cut (KK q)) (cut (KK q)).length), I (0 : Int)]) (H.mk [] (tk (KK q)) [])), Ans.o (Orc.val (49 : Nat) (AV.sl (ints (cut (KK q))) (cut (KK q)).length Room.no) (H.mk [] (tk (KK q)) [])), Ans.o (Orc.val (50 : Nat) (AV.tup [I (quV q (sOf (cut (KK q)))), I (0 : Int)]) (H.mk [] (tk (KK q)) [])), Ans.o (Orc.val (56 : Nat) (AV.sl (ints (cut (KK q))) (cut (KK q)).length Room.no) (H.mk [] (tk (KK q)) [])), Ans.o (Orc.val (57 : Nat) (AV.tup [I (↑(plN q (sOf (cut (KK q)))) : Int), I (0 : Int)]) (H.mk [] (tk (KK q)) [])), Ans.o (Orc.val (63 : Nat) (AV.sl (ints (cut (KK q))) (cut (KK q)).length Room.no) (H.mk [] (tk (KK q)) [])), Ans.o (Orc.val (64 : Nat) (AV.tup [I (woV false q (sOf (cut (KK q)))), I (0 : Int)]) (H.mk [] (tk (KK q)) [])), Ans.o (Orc.val (70 : Nat) (AV.tup [I (woV true q (sOf (KK q))), I (0 : Int)]) (H.mk [] (tk (KK q)) [])), Ans.o Orc.dflt, Ans.o Orc.dflt, Ans.o Orc.dflt, Ans.o Orc.dflt, Ans.o Orc.dflt, Ans.o Orc.dflt, Ans.o (Orc.b true), Ans.o (Orc.b true), Ans.o (Orc.b true), Ans.o (Orc.b true), Ans.o (Orc.b true), Ans.o (Orc.b true), Ans.o (Orc.val (126 : Nat) (AV.bool true) (H.mk [] (tk (KK q)) []))]]]) (aConvert Tryd.prog (3 : Nat) (64 : Nat) (I x) = some (AV.int IntKind.u64 W) ∧ aBin Tryd.prog BinOp.rem (64 : Nat) (AV.int IntKind.u64 W) (AV.int IntKind.u64 (4 : Int)) = some (AV.int IntKind.u64 m) ∧ aConvert Tryd.prog (64 : Nat) (3 : Nat) (AV.int IntKind.u64 m) = some (I m) ∧ aBin Tryd.prog BinOp.add (3 : Nat) (I (1 : Int)) (I m) = some (I q) ∧ aBin Tryd.prog BinOp.shl (3 : Nat) (I (1 : Int)) (I q) = some (I (tw q)) ∧ LoopS (Env.mk Tryd.prog (Sof [d17a.to, d24g.to, d39g.to, d43g.to, c44g.to, d36g.to, d21.to]) (Pof (P := Tryd.prog) []) H.nil.base (300 : Nat)) (loopAt Tryd.f15 (0 : Nat)) (128 : Nat) [(0 : Nat), (3 : Nat), (23 : Nat), (24 : Nat)] [I q, AV.sl [] (0 : Nat) Room.nil, I (tw q), I (0 : Int)] (H.mk [] [] []) [Out.mk Unit (AX.exit (0 : Nat)) [(0 : Nat), (3 : Nat)] (fun x => True) (fun x => [I q, acc (KK q)]) (fun x => hacc (KK q)) fun y => [Ans.o (Orc.val (35 : Nat) (AV.sl (ints (cut (KK q))) (cut (KK q)).length Room.no) (H.mk [] (tk (KK q)) [])), Ans.o (Orc.val (36 : Nat) (AV.tup [I (dimV q (sOf (cut (KK q)))), I (0 : Int)]) (H.mk [] (tk (KK q)) [])), Ans.o (Orc.val (42 : Nat) (AV.sl (ints (cut (KK q))) (cut (KK q)).length Room.no) (H.mk [] (tk (KK q)) [])), Ans.o (Orc.val (43 : Nat) (AV.tup [I (teL q (sOf (cut (KK q))) (cut (KK q)) (cut (KK q)).length), I (0 : Int)]) (H.mk [] (tk (KK q)) [])), Ans.o (Orc.val (49 : Nat) (AV.sl (ints (cut (KK q))) (cut (KK q)).length Room.no) (H.mk [] (tk (KK q)) [])), Ans.o (Orc.val (50 : Nat) (AV.tup [I (quV q (sOf (cut (KK q)))), I (0 : Int)]) (H.mk [] (tk (KK q)) [])), Ans.o (Orc.val (56 : Nat) (AV.sl (ints (cut (KK q))) (cut (KK q)).length Room.no) (H.mk [] (tk (KK q)) [])), Ans.o (Orc.val (57 : Nat) (AV.tup [I (↑(plN q (sOf (cut (KK q)))) : Int), I (0 : Int)]) (H.mk [] (tk (KK q)) [])), Ans.o (Orc.val (63 : Nat) (AV.sl (ints (cut (KK q))) (cut (KK q)).length Room.no) (H.mk [] (tk (KK q)) [])), Ans.o (Orc.val (64 : Nat) (AV.tup [I (woV false q (sOf (cut (KK q)))), I (0 : Int)]) (H.mk [] (tk (KK q)) [])), Ans.o (Orc.val (70 : Nat) (AV.tup [I (woV true q (sOf (KK q))), I (0 : Int)]) (H.mk [] (tk (KK q)) [])), Ans.o Orc.dflt, Ans.o Orc.dflt, Ans.o Orc.dflt, Ans.o Orc.dflt, Ans.o Orc.dflt, Ans.o Orc.dflt, Ans.o (Orc.b true), Ans.o (Orc.b true), Ans.o (Orc.b true), Ans.o (Orc.b true), Ans.o (Orc.b true), Ans.o (Orc.b true), Ans.o (Orc.val (126 : Nat) (AV.bool true) (H.mk [] (tk (KK q)) []))]] ∧ (∀ (y : Unit), True → ∀ (u : Nat → AV), aCall (Sof [d17a.to, d24g.to, d39g.to, d43g.to, c44g.to, d36g.to, d21.to]) (AV.fn (Fn.func (17 : Nat)) [] []) [AV.sl (ints (KK q)) (KK q).length (rm (0 : Nat) (KK q))] (H.mk [] (tk (KK q)) []) = some (AV.sl (ints (cut (KK q))) (cut (KK q)).length Room.no, H.mk [] (tk (KK q)) []) ∧ aCall (Sof [d17a.to, d24g.to, d39g.to, d43g.to, c44g.to, d36g.to, d21.to]) (AV.fn (Fn.func (24 : Nat)) [] []) [I q, AV.sl (ints (cut (KK q))) (cut (KK q)).length Room.no] (H.mk [] (tk (KK q)) []) = some (AV.tup [I (dimV q (sOf (cut (KK q)))), I (0 : Int)], H.mk [] (tk (KK q)) []) ∧ aCall (Sof [d17a.to, d24g.to, d39g.to, d43g.to, c44g.to, d36g.to, d21.to]) (AV.fn (Fn.func (17 : Nat)) [] []) [AV.sl (ints (KK q)) (KK q).length (rm (0 : Nat) (KK q))] (H.mk [] (tk (KK q)) []) = some (AV.sl (ints (cut (KK q))) (cut (KK q)).length Room.no, H.mk [] (tk (KK q)) []) ∧ aCall (Sof [d17a.to, d24g.to, d39g.to, d43g.to, c44g.to, d36g.to, d21.to]) (AV.fn (Fn.func (39 : Nat)) [] []) [I q, AV.sl (ints (cut (KK q))) (cut (KK q)).length Room.no] (H.mk [] (tk (KK q)) []) = some (AV.tup [I (teL q (sOf (cut (KK q))) (cut (KK q)) (cut (KK q)).length), I (0 : Int)], H.mk [] (tk (KK q)) []) ∧ aCall (Sof [d17a.to, d24g.to, d39g.to, d43g.to, c44g.to, d36g.to, d21.to]) (AV.fn (Fn.func (17 : Nat)) [] []) [AV.sl (ints (KK q)) (KK q).length (rm (0 : Nat) (KK q))] (H.mk [] (tk (KK q)) []) = some (AV.sl (ints (cut (KK q))) (cut (KK q)).length Room.no, H.mk [] (tk (KK q)) []) ∧ aCall (Sof [d17a.to, d24g.to, d39g.to, d43g.to, c44g.to, d36g.to, d21.to]) (AV.fn (Fn.func (43 : Nat)) [] []) [I q, AV.sl (ints (cut (KK q))) (cut (KK q)).length Room.no] (H.mk [] (tk (KK q)) []) = some (AV.tup [I (quV q (sOf (cut (KK q)))), I (0 : Int)], H.mk [] (tk (KK q)) []) ∧ aCall (Sof [d17a.to, d24g.to, d39g.to, d43g.to, c44g.to, d36g.to, d21.to]) (AV.fn (Fn.func (17 : Nat)) [] []) [AV.sl (ints (KK q)) (KK q).length (rm (0 : Nat) (KK q))] (H.mk [] (tk (KK q)) []) = some (AV.sl (ints (cut (KK q))) (cut (KK q)).length Room.no, H.mk [] (tk (KK q)) []) ∧ aCall (Sof [d17a.to, d24g.to, d39g.to, d43g.to, c44g.to, d36g.to, d21.to]) (AV.fn (Fn.func (44 : Nat)) [] []) [I q, AV.sl (ints (cut (KK q))) (cut (KK q)).length Room.no] (H.mk [] (tk (KK q)) []) = some (AV.tup [I (↑(plN q (sOf (cut (KK q)))) : Int), I (0 : Int)], H.mk [] (tk (KK q)) []) ∧ aCall (Sof [d17a.to, d24g.to, d39g.to, d43g.to, c44g.to, d36g.to, d21.to]) (AV.fn (Fn.func (17 : Nat)) [] []) [AV.sl (ints (KK q)) (KK q).length (rm (0 : Nat) (KK q))] (H.mk [] (tk (KK q)) []) = some (AV.sl (ints (cut (KK q))) (cut (KK q)).length Room.no, H.mk [] (tk (KK q)) []) ∧ aCall (Sof [d17a.to, d24g.to, d39g.to, d43g.to, c44g.to, d36g.to, d21.to]) (AV.fn (Fn.func (36 : Nat)) [] []) [I q, AV.sl (ints (cut (KK q))) (cut (KK q)).length Room.no, AV.bool false] (H.mk [] (tk (KK q)) []) = some (AV.tup [I (woV false q (sOf (cut (KK q)))), I (0 : Int)], H.mk [] (tk (KK q)) []) ∧ aCall (Sof [d17a.to, d24g.to, d39g.to, d43g.to, c44g.to, d36g.to, d21.to]) (AV.fn (Fn.func (36 : Nat)) [] []) [I q, AV.sl (ints (KK q)) (KK q).length (rm (0 : Nat) (KK q)), AV.bool true] (H.mk [] (tk (KK q)) []) = some (AV.tup [I (woV true q (sOf (KK q))), I (0 : Int)], H.mk [] (tk (KK q)) []) ∧ dimV q (sOf (cut (KK q))) = q ∧ teL q (sOf (cut (KK q))) (cut (KK q)) (cut (KK q)).length = q ∧ quV q (sOf (cut (KK q))) = q ∧ (↑(plN q (sOf (cut (KK q)))) : Int) = q ∧ woV false q (sOf (cut (KK q))) = q ∧ woV true q (sOf (KK q)) = q ∧ aCall (Sof [d17a.to, d24g.to, d39g.to, d43g.to, c44g.to, d36g.to, d21.to]) (AV.fn (Fn.func (21 : Nat)) [] []) [] (H.mk [] (tk (KK q)) []) = some (AV.bool true, H.mk [] (tk (KK q)) []) ∧ (AV.bool true, H.mk [] [] []) = (AV.bool true, H.mk [] [] [])) ∧ True) (by kernel_rfl) ?_
  refine And.intro (by first | exact told_conv (by kernel_rfl) (by kernel_rfl) ev0 | exact told_conv (by kernel_rfl) (by kernel_rfl) ev1 | exact told_conv (by kernel_rfl) (by kernel_rfl) ev2 | exact told_conv (by kernel_rfl) (by kernel_rfl) ev3 | exact told_conv (by kernel_rfl) (by kernel_rfl) ev4 | exact told_conv (by kernel_rfl) (by kernel_rfl) ev5 | exact told_conv (by kernel_rfl) (by kernel_rfl) ev6 | exact told_conv (by kernel_rfl) (by kernel_rfl) ev7 | exact told_conv (by kernel_rfl) (by kernel_rfl) ev8 | exact told_conv (by kernel_rfl) (by kernel_rfl) ev9 | exact told_conv (by kernel_rfl) (by kernel_rfl) ev10 | exact told_conv (by kernel_rfl) (by kernel_rfl) ev11) ?_
  refine And.intro (by first | exact told_shl hq0 (by assumption) | exact told_rem (by decide) (by assumption) | exact told_add (by assumption)) ?_
  refine And.intro (by first | exact told_conv (by kernel_rfl) (by kernel_rfl) ev0 | exact told_conv (by kernel_rfl) (by kernel_rfl) ev1 | exact told_conv (by kernel_rfl) (by kernel_rfl) ev2 | exact told_conv (by kernel_rfl) (by kernel_rfl) ev3 | exact told_conv (by kernel_rfl) (by kernel_rfl) ev4 | exact told_conv (by kernel_rfl) (by kernel_rfl) ev5 | exact told_conv (by kernel_rfl) (by kernel_rfl) ev6 | exact told_conv (by kernel_rfl) (by kernel_rfl) ev7 | exact told_conv (by kernel_rfl) (by kernel_rfl) ev8 | exact told_conv (by kernel_rfl) (by kernel_rfl) ev9 | exact told_conv (by kernel_rfl) (by kernel_rfl) ev10 | exact told_conv (by kernel_rfl) (by kernel_rfl) ev11) ?_
  refine And.intro (by first | exact told_shl hq0 (by assumption) | exact told_rem (by decide) (by assumption) | exact told_add (by assumption)) ?_
  refine And.intro (by first | exact told_shl hq0 (by assumption) | exact told_rem (by decide) (by assumption) | exact told_add (by assumption)) ?_
  refine And.intro (by exact lp15 q _ rfl) ?_
  refine And.intro ?_ ?_
  · skip
    intro y
    intro w1
    intro u
    refine And.intro (by exact acall_hit (c := d17a.to) (KK q) _ rfl z17) ?_
    refine And.intro (by exact acall_hit (c := d24g.to) (q, cut (KK q), .no) _ rfl zc) ?_
    refine And.intro (by exact acall_hit (c := d17a.to) (KK q) _ rfl z17) ?_
    refine And.intro (by exact acall_hit (c := d39g.to) (q, cut (KK q), .no) _ rfl zc) ?_
    refine And.intro (by exact acall_hit (c := d17a.to) (KK q) _ rfl z17) ?_
    refine And.intro (by exact acall_hit (c := d43g.to) (q, cut (KK q), .no) _ rfl zc) ?_
    refine And.intro (by exact acall_hit (c := d17a.to) (KK q) _ rfl z17) ?_
    refine And.intro (by exact acall_hit (c := c44g.to) (q, cut (KK q), .no) _ rfl zc) ?_
    refine And.intro (by exact acall_hit (c := d17a.to) (KK q) _ rfl z17) ?_
    refine And.intro (by first | exact acall_hit (c := d36g.to) (q, cut (KK q), .no, false) _ rfl zc | exact acall_hit (c := d36g.to) (q, KK q, rm 0 (KK q), true) _ rfl zk) ?_
    refine And.intro (by first | exact acall_hit (c := d36g.to) (q, cut (KK q), .no, false) _ rfl zc | exact acall_hit (c := d36g.to) (q, KK q, rm 0 (KK q), true) _ rfl zk) ?_
    refine And.intro (by first | assumption | omega | (simp only [small, tiny, rng, decide_eq_true_eq, decide_eq_false_iff_not, true_or, or_true, true_and, and_true, Int.reduceEq, Int.reduceNeg, eq_self, reduceIte, if_true, if_false] at *; omega) | (simp [small, tiny, rng, decide_eq_true_eq, decide_eq_false_iff_not, true_or, or_true, true_and, and_true, Int.reduceEq, Int.reduceNeg, eq_self, reduceIte, if_true, if_false] at *; done)) ?_
    refine And.intro (by first | assumption | omega | (simp only [small, tiny, rng, decide_eq_true_eq, decide_eq_false_iff_not, true_or, or_true, true_and, and_true, Int.reduceEq, Int.reduceNeg, eq_self, reduceIte, if_true, if_false] at *; omega) | (simp [small, tiny, rng, decide_eq_true_eq, decide_eq_false_iff_not, true_or, or_true, true_and, and_true, Int.reduceEq, Int.reduceNeg, eq_self, reduceIte, if_true, if_false] at *; done)) ?_
    refine And.intro (by first | assumption | omega | (simp only [small, tiny, rng, decide_eq_true_eq, decide_eq_false_iff_not, true_or, or_true, true_and, and_true, Int.reduceEq, Int.reduceNeg, eq_self, reduceIte, if_true, if_false] at *; omega) | (simp [small, tiny, rng, decide_eq_true_eq, decide_eq_false_iff_not, true_or, or_true, true_and, and_true, Int.reduceEq, Int.reduceNeg, eq_self, reduceIte, if_true, if_false] at *; done)) ?_
    refine And.intro (by first | assumption | omega | (simp only [small, tiny, rng, decide_eq_true_eq, decide_eq_false_iff_not, true_or, or_true, true_and, and_true, Int.reduceEq, Int.reduceNeg, eq_self, reduceIte, if_true, if_false] at *; omega) | (simp [small, tiny, rng, decide_eq_true_eq, decide_eq_false_iff_not, true_or, or_true, true_and, and_true, Int.reduceEq, Int.reduceNeg, eq_self, reduceIte, if_true, if_false] at *; done)) ?_
    refine And.intro (by first | assumption | omega | (simp only [small, tiny, rng, decide_eq_true_eq, decide_eq_false_iff_not, true_or, or_true, true_and, and_true, Int.reduceEq, Int.reduceNeg, eq_self, reduceIte, if_true, if_false] at *; omega) | (simp [small, tiny, rng, decide_eq_true_eq, decide_eq_false_iff_not, true_or, or_true, true_and, and_true, Int.reduceEq, Int.reduceNeg, eq_self, reduceIte, if_true, if_false] at *; done)) ?_
    refine And.intro (by first | assumption | omega | (simp only [small, tiny, rng, decide_eq_true_eq, decide_eq_false_iff_not, true_or, or_true, true_and, and_true, Int.reduceEq, Int.reduceNeg, eq_self, reduceIte, if_true, if_false] at *; omega) | (simp [small, tiny, rng, decide_eq_true_eq, decide_eq_false_iff_not, true_or, or_true, true_and, and_true, Int.reduceEq, Int.reduceNeg, eq_self, reduceIte, if_true, if_false] at *; done)) ?_
    refine And.intro (by exact acall_hit (c := d21.to) () _ rfl trivial) ?_
    first | with_reducible rfl | (refine bleaf_t ?_; first | omega | (simp only [small, tiny, rng, decide_eq_true_eq, decide_eq_false_iff_not, true_or, or_true, true_and, and_true, Int.reduceEq, Int.reduceNeg, eq_self, reduceIte, if_true, if_false] at *; omega)) | (refine bleaf_f ?_; first | omega | (simp only [small, tiny, rng, decide_eq_true_eq, decide_eq_false_iff_not, true_or, or_true, true_and, and_true, Int.reduceEq, Int.reduceNeg, eq_self, reduceIte, if_true, if_false] at *; omega)) | (refine ileaf ?_; first | omega | (simp only [small, tiny, rng, decide_eq_true_eq, decide_eq_false_iff_not, true_or, or_true, true_and, and_true, Int.reduceEq, Int.reduceNeg, eq_self, reduceIte, if_true, if_false] at *; omega)) | (exfalso; omega) | (simp only [Prod.mk.injEq, AV.agg.injEq, AV.tup.injEq, List.cons.injEq, AV.int.injEq, AV.bool.injEq, and_true, true_and]; (repeat' apply And.intro) <;> first | with_reducible rfl | (simp []; done) | (simp []; omega) | omega | (simp only [small, tiny, rng, decide_eq_true_eq, decide_eq_false_iff_not, true_or, or_true, true_and, and_true, Int.reduceEq, Int.reduceNeg, eq_self, reduceIte, if_true, if_false] at *; omega) | (simp [small, tiny, rng, decide_eq_true_eq, decide_eq_false_iff_not, true_or, or_true, true_and, and_true, Int.reduceEq, Int.reduceNeg, eq_self, reduceIte, if_true, if_false, *]; done) | (simp [small, tiny, rng, decide_eq_true_eq, decide_eq_false_iff_not, true_or, or_true, true_and, and_true, Int.reduceEq, Int.reduceNeg, eq_self, reduceIte, if_true, if_false, *]; omega)) | (exfalso; simp only [small, tiny, rng, decide_eq_true_eq, decide_eq_false_iff_not, true_or, or_true, true_and, and_true, Int.reduceEq, Int.reduceNeg, eq_self, reduceIte, if_true, if_false] at *; omega) | (simp [small, tiny, rng, decide_eq_true_eq, decide_eq_false_iff_not, true_or, or_true, true_and, and_true, Int.reduceEq, Int.reduceNeg, eq_self, reduceIte, if_true, if_false] at *; done) | (simp [small, tiny, rng, decide_eq_true_eq, decide_eq_false_iff_not, true_or, or_true, true_and, and_true, Int.reduceEq, Int.reduceNeg, eq_self, reduceIte, if_true, if_false] at *; omega)
  · skip
    trivial
theorem all_ok (x : Int) : CallOk Tryd.prog 15 [I x] .nil (.bool true) .nil := by
  have h0 : 0 ≤ IntKind.u64.wrap x := by
    simp only [IntKind.wrap, IntKind.bits, IntKind.signed]
    simp
    omega
  have h1 : Int.tmod (IntKind.u64.wrap x) 4 = (IntKind.u64.wrap x) % 4 := Int.tmod_eq_emod_of_nonneg h0
  have h2 : 0 ≤ (IntKind.u64.wrap x) % 4 ∧ (IntKind.u64.wrap x) % 4 < 4 := by omega
  refine (r15 x _ ((IntKind.u64.wrap x) % 4) (1 + (IntKind.u64.wrap x) % 4) rfl h1 ?_ ?_ (by omega)).run ok15 (.pure _ (.pure _ (.pure _ (.pure _ (.pure _ (.pure _ (.pure _ .nil))))))) rfl
  · exact wr _ (by omega) (by omega)
  · exact wr _ (by omega) (by omega)
end Go.Proofs.Lrn
