/- Layer 4: the law of teaching. -/
import Derived.Test.YtdnidpojcocklaaDoorLoS
import Derived.KernelRfl
set_option linter.unusedSimpArgs false
set_option linter.unusedVariables false
set_option linter.unnecessarySimpa false
set_option maxHeartbeats 4000000
set_option maxRecDepth 100000
namespace Go.Proofs.Lrn
open Go Go.VM
noncomputable def t39g : PCtr Tryd.prog := up c39g
noncomputable def t39b : PCtr Tryd.prog := up c39b
noncomputable def t43g : PCtr Tryd.prog := up c43g
noncomputable def t43b : PCtr Tryd.prog := up c43b
noncomputable def t38g : PCtr Tryd.prog := up c38g
theorem shl_powT {a : Nat} (h : a ≤ 5) : IntKind.i64.wrap (1 * 2 ^ min ((a : Int)).toNat IntKind.i64.bits) = ((2 ^ a : Nat) : Int) := by
  have : a = 0 ∨ a = 1 ∨ a = 2 ∨ a = 3 ∨ a = 4 ∨ a = 5 := by omega
  rcases this with rfl | rfl | rfl | rfl | rfl | rfl <;> rfl
theorem u64_posT (x : Int) : 0 ≤ IntKind.u64.wrap x := by
  simp only [IntKind.wrap, IntKind.bits, IntKind.signed]
  simp
  omega
theorem u64_smT {n : Nat} (h : n < 1000) : IntKind.u64.wrap (n : Int) = (n : Int) := by
  simp only [IntKind.wrap, IntKind.bits, IntKind.signed]
  simp
  omega
noncomputable abbrev cs13 (p : Int) (l : List Int) (q : RK) (k : Nat) : List (Ctr Tryd.prog) := [b17.to, t39g.to, t43g.to, c44g.to, b19.to, b21.to, t38g.to, c49.to, c50 p l q k]
theorem ct13 (p : Int) (l : List Int) (q : RK) (k : Nat) : Ctrs Tryd.prog none1 (cs13 p l q k) := .pure _ (.pure _ (.pure _ (.pure _ (.pure _ (.pure _ (.pure _ (.pure _ (.rd _ (c50_reads p l q k) .nil))))))))
theorem hit50 (p : Int) (l : List Int) (q : RK) (k : Nat) (hc : cls p l) (hl : pl l q) (hk : k < 32) {s : Nat} (hs : s < 32) : aCall (Sof (cs13 p l q k)) cl50 [I s] (hT p l q k) = some (I (leN (sOf l) p s k : Nat), hT p l q k) := by
  simp only [aCall, List.nil_append]
  exact sof_hit (c50 p l q k) (cs13 p l q k) rfl s (hT p l q k) ⟨⟨hs, ⟨hc, hl⟩, hk⟩, [], rfl⟩
abbrev o13 (p : Int) (l : List Int) (q : RK) (k s : Nat) : List Out := [.mk Unit .ret [6] (fun _ => False) (fun _ => [.bool false]) (fun _ => hT p l q k) (fun _ => []), .mk Unit (.exit 0) [13, 14] (fun _ => True) (fun _ => [I s, cl50]) (fun _ => hT p l q k) (fun _ => [])]
theorem simp13 : allSimpleM none1 (loopAt Tryd.f13 0) = true := by kernel_rfl
theorem lp13 (p : Int) (l : List Int) (q : RK) (k s : Nat) (hc : cls p l) (hl : pl l q) (hk : k < 32) (hs : s < 32) (hfew : ∀ x, x < p.toNat → s / 2 ^ x % 2 = 1 → 2 ≤ leN (sOf l) p (clN s x) k) :
    LoopS (En5 (cs13 p l q k)) (loopAt Tryd.f13 0) 169 [13, 14, 143, 144] [I s, cl50, I p, I 0] (hT p l q k) (o13 p l q k s) := by
  have hRs : Rests (En5 (cs13 p l q k)) none1 := rests mixed (ct13 p l q k)
  obtain ⟨g1, g2⟩ := hc.1
  obtain ⟨n, hn⟩ : ∃ n : Nat, p = n := ⟨p.toNat, by omega⟩
  have hnt : p.toNat = n := by omega
  refine loop_s hRs simp13 none (by intro _ h; cases h) (fun j vs H => H = hT p l q k ∧ vs = [I s, cl50, I p, I j]) n ⟨rfl, rfl⟩ (by intro _ h; cases h) ?_
  rintro j vs H hj ⟨rfl, rfl⟩
  by_cases hz : (j : Int) < p
  · have hz' : j < n := by omega
    have ev0 : IntKind.i64.wrap ((j : Int) + 1) = ((j + 1 : Nat) : Int) := by rw [wr _ (by omega) (by omega)]; omega
    have ev1 : ((s : Nat) : Int).fdiv (2 ^ min ((j : Int)).toNat IntKind.i64.bits) = ((s / 2 ^ j : Nat) : Int) := shr_nat s j (by omega)
    have ev2 := and1 (n := s / 2 ^ j) (Nat.lt_of_le_of_lt (Nat.div_le_self _ _) (by omega))
    have h2 : s / 2 ^ j % 2 < 2 := Nat.mod_lt _ (by decide)
    have hj0 : 0 ≤ (j : Int) := by omega
    by_cases hb : s / 2 ^ j % 2 = 1
    · have hf := hfew j (by omega) hb
      have ev3 := shl_powT (a := j) (by omega)
      have ev4 := (clN_ok (s := s) (x := j) hs (by omega) hb).1
      have hcs : clN s j ≤ s := Nat.sub_le _ _
      have t50 := hit50 p l q k hc hl hk (s := clN s j) (by omega)
      rw [hb] at ev2
      obtain ⟨M, hM⟩ : ∃ M, M = leN (sOf l) p (clN s j) k := ⟨_, rfl⟩
      rw [← hM] at hf t50
      obtain ⟨z, hzz⟩ : ∃ z, z = clN s j := ⟨_, rfl⟩
      rw [← hzz] at ev4 t50
      have hM2 : (2 : Int) ≤ (M : Int) := by omega
      refine ⟨[Ans.o (Orc.b true), Ans.o (Orc.val 149 (I (↑(s / (2 : Nat) ^ j) : Int)) H.nil), Ans.o (Orc.val 150 (I (↑(1 : Nat) : Int)) H.nil), Ans.o Orc.dflt, Ans.o (Orc.val 156 (I (↑((2 : Nat) ^ j) : Int)) H.nil), Ans.o (Orc.val 157 (I (↑z : Int)) H.nil), Ans.o (Orc.val 158 (I (↑M : Int)) (H.mk [[I p], [AV.sl (ints l) l.length (rr q)], [I (↑k : Int)]] [] [])), Ans.o (Orc.b false), Ans.o (Orc.val 161 (I (↑(j + (1 : Nat)) : Int)) H.nil)], fun u => of_eq ((↑j : Int) < p ∧ aBin Tryd.prog BinOp.shr (3 : Nat) (I (↑s : Int)) (I (↑j : Int)) = some (I (↑(s / (2 : Nat) ^ j) : Int)) ∧ aBin Tryd.prog BinOp.and (3 : Nat) (I (↑(s / (2 : Nat) ^ j) : Int)) (I 1) = some (I 1) ∧ aBin Tryd.prog BinOp.shl (3 : Nat) (I 1) (I (↑j : Int)) = some (I (↑((2 : Nat) ^ j) : Int)) ∧ aBin Tryd.prog BinOp.andNot (3 : Nat) (I (↑s : Int)) (I (↑((2 : Nat) ^ j) : Int)) = some (I (↑z : Int)) ∧ aCall (Sof (cs13 p l q k)) (AV.fn (Fn.func (50 : FuncId)) [] [AV.ptr 0 0, AV.ptr 2 0, AV.ptr 1 0]) [I (↑z : Int)] (H.mk [[I p], [AV.sl (ints l) l.length (rr q)], [I (↑k : Int)]] [] []) = some (I (↑M : Int), H.mk [[I p], [AV.sl (ints l) l.length (rr q)], [I (↑k : Int)]] [] []) ∧ (2 : Int) ≤ (↑M : Int) ∧ aBin Tryd.prog BinOp.add (3 : Nat) (I (↑j : Int)) (I 1) = some (I (↑(j + (1 : Nat)) : Int)) ∧ (169 : Nat) = (169 : Nat) ∧ j < n ∧ Keep (H.mk [[I p], [AV.sl (ints l) l.length (rr q)], [I (↑k : Int)]] [] [] = H.mk [[I p], [AV.sl (ints l) l.length (rr q)], [I (↑k : Int)]] [] [] ∧ [I (↑s : Int), AV.fn (Fn.func (50 : FuncId)) [] [AV.ptr 0 0, AV.ptr 2 0, AV.ptr 1 0], I p, I (↑(j + (1 : Nat)) : Int)] = [I (↑s : Int), AV.fn (Fn.func (50 : FuncId)) [] [AV.ptr 0 0, AV.ptr 2 0, AV.ptr 1 0], I p, I (↑(j + (1 : Nat)) : Int)])) (by kernel_rfl) ?_⟩
      refine ⟨by first | with_reducible assumption | omega | assumption, ?_⟩
      refine ⟨by first | exact told_add (by assumption) | exact told_shr hj0 (by assumption) | exact told_shl hj0 (by assumption) | exact told_andn (by assumption) | exact told_and (by assumption), ?_⟩
      refine ⟨by first | exact told_add (by assumption) | exact told_shr hj0 (by assumption) | exact told_shl hj0 (by assumption) | exact told_andn (by assumption) | exact told_and (by assumption), ?_⟩
      refine ⟨by first | exact told_add (by assumption) | exact told_shr hj0 (by assumption) | exact told_shl hj0 (by assumption) | exact told_andn (by assumption) | exact told_and (by assumption), ?_⟩
      refine ⟨by first | exact told_add (by assumption) | exact told_shr hj0 (by assumption) | exact told_shl hj0 (by assumption) | exact told_andn (by assumption) | exact told_and (by assumption), ?_⟩
      refine ⟨t50, ?_⟩
      refine ⟨by first | with_reducible assumption | omega | assumption, ?_⟩
      refine ⟨by first | exact told_add (by assumption) | exact told_shr hj0 (by assumption) | exact told_shl hj0 (by assumption) | exact told_andn (by assumption) | exact told_and (by assumption), ?_⟩
      refine ⟨by first | with_reducible assumption | omega | assumption, ?_⟩
      refine ⟨by first | with_reducible assumption | omega | assumption, ?_⟩
      exact ⟨rfl, rfl⟩
    · have h0 : s / 2 ^ j % 2 = 0 := by omega
      rw [h0] at ev2
      refine ⟨[Ans.o (Orc.b true), Ans.o (Orc.val 149 (I (↑(s / (2 : Nat) ^ j) : Int)) H.nil), Ans.o (Orc.val 150 (I (↑(0 : Nat) : Int)) H.nil), Ans.o Orc.dflt, Ans.o (Orc.val 161 (I (↑(j + (1 : Nat)) : Int)) H.nil)], fun u => of_eq ((↑j : Int) < p ∧ aBin Tryd.prog BinOp.shr (3 : Nat) (I (↑s : Int)) (I (↑j : Int)) = some (I (↑(s / (2 : Nat) ^ j) : Int)) ∧ aBin Tryd.prog BinOp.and (3 : Nat) (I (↑(s / (2 : Nat) ^ j) : Int)) (I 1) = some (I 0) ∧ aBin Tryd.prog BinOp.add (3 : Nat) (I (↑j : Int)) (I 1) = some (I (↑(j + (1 : Nat)) : Int)) ∧ (169 : Nat) = (169 : Nat) ∧ j < n ∧ Keep (H.mk [[I p], [AV.sl (ints l) l.length (rr q)], [I (↑k : Int)]] [] [] = H.mk [[I p], [AV.sl (ints l) l.length (rr q)], [I (↑k : Int)]] [] [] ∧ [I (↑s : Int), AV.fn (Fn.func (50 : FuncId)) [] [AV.ptr 0 0, AV.ptr 2 0, AV.ptr 1 0], I p, I (↑(j + (1 : Nat)) : Int)] = [I (↑s : Int), AV.fn (Fn.func (50 : FuncId)) [] [AV.ptr 0 0, AV.ptr 2 0, AV.ptr 1 0], I p, I (↑(j + (1 : Nat)) : Int)])) (by kernel_rfl) ?_⟩
      refine ⟨by first | with_reducible assumption | omega | assumption, ?_⟩
      refine ⟨by first | exact told_add (by assumption) | exact told_shr hj0 (by assumption) | exact told_and (by assumption), ?_⟩
      refine ⟨by first | exact told_add (by assumption) | exact told_shr hj0 (by assumption) | exact told_and (by assumption), ?_⟩
      refine ⟨by first | exact told_add (by assumption) | exact told_shr hj0 (by assumption) | exact told_and (by assumption), ?_⟩
      refine ⟨by first | with_reducible assumption | omega | assumption, ?_⟩
      refine ⟨by first | with_reducible assumption | omega | assumption, ?_⟩
      exact ⟨rfl, rfl⟩
  · have hz : p ≤ (j : Int) := by omega
    refine ⟨[Ans.o (Orc.b false)], fun u => of_eq (p ≤ (↑j : Int) ∧ (169 : Nat) = (169 : Nat) ∧ hits [Out.mk Unit AX.ret [(6 : Nat)] (fun x => False) (fun x => [AV.bool false]) (fun x => hT p l q (↑k : Int)) fun x => [], Out.mk Unit (AX.exit (0 : Nat)) [(13 : Nat), (14 : Nat)] (fun x => True) (fun x => [I (↑s : Int), cl50]) (fun x => hT p l q (↑k : Int)) fun x => []] (AX.exit (0 : Nat)) [u (0 : Nat), u (1 : Nat), u (2 : Nat), u (3 : Nat), u (4 : Nat), u (5 : Nat), u (6 : Nat), u (7 : Nat), u (8 : Nat), u (9 : Nat), u (10 : Nat), u (11 : Nat), u (12 : Nat), I (↑s : Int), AV.fn (Fn.func (50 : FuncId)) [] [AV.ptr 0 0, AV.ptr 2 0, AV.ptr 1 0], u (15 : Nat), u (16 : Nat), u (17 : Nat), u (18 : Nat), u (19 : Nat), u (20 : Nat), u (21 : Nat), u (22 : Nat), u (23 : Nat), u (24 : Nat), u (25 : Nat), u (26 : Nat), u (27 : Nat), u (28 : Nat), u (29 : Nat), u (30 : Nat), u (31 : Nat), u (32 : Nat), u (33 : Nat), u (34 : Nat), u (35 : Nat), u (36 : Nat), u (37 : Nat), u (38 : Nat), u (39 : Nat), u (40 : Nat), u (41 : Nat), u (42 : Nat), u (43 : Nat), u (44 : Nat), u (45 : Nat), u (46 : Nat), u (47 : Nat), u (48 : Nat), u (49 : Nat), u (50 : Nat), u (51 : Nat), u (52 : Nat), u (53 : Nat), u (54 : Nat), u (55 : Nat), u (56 : Nat), u (57 : Nat), u (58 : Nat), u (59 : Nat), u (60 : Nat), u (61 : Nat), u (62 : Nat), u (63 : Nat), u (64 : Nat), u (65 : Nat), u (66 : Nat), u (67 : Nat), u (68 : Nat), u (69 : Nat), u (70 : Nat), u (71 : Nat), u (72 : Nat), u (73 : Nat), u (74 : Nat), u (75 : Nat), u (76 : Nat), u (77 : Nat), u (78 : Nat), u (79 : Nat), u (80 : Nat), u (81 : Nat), u (82 : Nat), u (83 : Nat), u (84 : Nat), u (85 : Nat), u (86 : Nat), u (87 : Nat), u (88 : Nat), u (89 : Nat), u (90 : Nat), u (91 : Nat), u (92 : Nat), u (93 : Nat), u (94 : Nat), u (95 : Nat), u (96 : Nat), u (97 : Nat), u (98 : Nat), u (99 : Nat), u (100 : Nat), u (101 : Nat), u (102 : Nat), u (103 : Nat), u (104 : Nat), u (105 : Nat), u (106 : Nat), u (107 : Nat), u (108 : Nat), u (109 : Nat), u (110 : Nat), u (111 : Nat), u (112 : Nat), u (113 : Nat), u (114 : Nat), u (115 : Nat), u (116 : Nat), u (117 : Nat), u (118 : Nat), u (119 : Nat), u (120 : Nat), u (121 : Nat), u (122 : Nat), u (123 : Nat), u (124 : Nat), u (125 : Nat), u (126 : Nat), u (127 : Nat), u (128 : Nat), u (129 : Nat), u (130 : Nat), u (131 : Nat), u (132 : Nat), u (133 : Nat), u (134 : Nat), u (135 : Nat), u (136 : Nat), u (137 : Nat), u (138 : Nat), u (139 : Nat), u (140 : Nat), u (141 : Nat), u (142 : Nat), I p, I (↑j : Int), AV.bool false, u (146 : Nat), u (147 : Nat), u (148 : Nat), u (149 : Nat), u (150 : Nat), u (151 : Nat), u (152 : Nat), u (153 : Nat), u (154 : Nat), u (155 : Nat), u (156 : Nat), u (157 : Nat), u (158 : Nat), u (159 : Nat), u (160 : Nat), u (161 : Nat), u (162 : Nat), u (163 : Nat), u (164 : Nat), u (165 : Nat), u (166 : Nat), u (167 : Nat), u (168 : Nat)] (H.mk [[I p], [AV.sl (ints l) l.length (rr q)], [I (↑k : Int)]] [] [])) (by kernel_rfl) ?_⟩
    refine ⟨by first | with_reducible assumption | omega | assumption, ?_⟩
    refine ⟨by first | with_reducible assumption | omega | assumption, ?_⟩
    exact .inr (.inl ⟨(), trivial, rfl, rfl, rfl⟩)
end Go.Proofs.Lrn

