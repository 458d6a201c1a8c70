/- Layer 2: the law of rounds of every length. -/
import Derived.Test.YtnnhomkkggkkfaaDoorRkDo
import Derived.Test.YtnnhomkkggkkfaaDoorRkDp
import Derived.KernelRfl
set_option linter.unusedSimpArgs false
set_option linter.unusedVariables false
set_option linter.unnecessarySimpa false
set_option maxHeartbeats 4000000
set_option maxRecDepth 100000
namespace Go.Proofs.Rnk
open Go Go.VM
open Go.Proofs.Sur (andn andn_bit andn_le i_wrap i_and i_or i_andn i_shl i_shr bit_01)
noncomputable abbrev rv29 (o : Option (List Int)) : AV := match o with
  | some l => .tup [ls l .no, I 0]
  | none => .tup [.sl [] 0 .nil, I 4]
noncomputable def c29g : PCtr Tryd.prog where
  f := 29
  X := (List Int × Room) × Nat
  args x := [ls x.1.1 x.1.2, I x.2]
  pre x := (Tn x.1.1 ∧ rok x.1.1 x.1.2 ∧ em x.1.1 x.1.2) ∧ 3 ≤ x.2 ∧ x.2 ≤ x.1.1.length
  v x := rv29 (rowR x.1.1 x.2 true)
  det := by
    rintro ⟨⟨t, r⟩, k⟩ ⟨⟨t', r'⟩, k'⟩ e _ _
    simp only [List.cons.injEq, AV.sl.injEq, AV.int.injEq, and_true] at e
    have e1 := ints_inj e.1.1
    have e2 : k = k' := by omega
    subst e1 e2; rfl
  ok := by
    rintro ⟨⟨t, r⟩, k⟩ h
    cases hy : rowR t k true with
    | some l =>
      exact c29s.ok (((t, r), k), l) ⟨h, hy⟩
    | none =>
      exact c29n.ok ((t, r), k) ⟨h, hy⟩
noncomputable abbrev cs12 : List (Ctr Tryd.prog) := [c19v.to, c33t.to, c21.to, c29g.to, c24.to]
theorem ct12 : Ctrs Tryd.prog none1 cs12 := .pure _ (.pure _ (.pure _ (.pure _ (.pure _ .nil))))
theorem hc29 {t : List Int} {r : Room} {k : Nat} {o : Option (List Int)} {H : H} (hp : (Tn t ∧ rok t r ∧ em t r) ∧ 3 ≤ k ∧ k ≤ t.length) (ho : rowR t k true = o) : aCall (Sof cs12) (.fn (.func 29) [] []) [ls t r, I k] H = some (rv29 o, H) := by
  subst ho
  exact acall_hit (c := c29g.to) (cs := cs12) ((t, r), k) H rfl hp
def mtN (x : List Int) : Nat → Nat
  | 0 => 0
  | j + 1 => mtN x j ||| 2 ^ ofn x j
theorem mtN_lt {x : List Int} (h : ∀ i, ofn x i < 8) : ∀ j, mtN x j < 256
  | 0 => by simp [mtN]
  | j + 1 => Nat.or_lt_two_pow (n := 8) (mtN_lt h j) (Nat.pow_lt_pow_right (by decide) (h j))
theorem mtN_bit {x : List Int} {b : Nat} : ∀ j, (∀ i, i < j → ofn x i ≠ b) → (mtN x j).testBit b = false
  | 0, _ => by simp [mtN]
  | j + 1, h => by
    rw [mtN, Nat.testBit_or, mtN_bit j fun i hi => h i (by omega), Nat.testBit_two_pow]
    have := h j (by omega)
    simpa using this
abbrev o12a (t : List Int) (r : Room) (k s : Nat) : List Out := [.mk Unit .ret [6] (fun _ => False) (fun _ => [.bool false]) (fun _ => .nil) (fun _ => []), .mk Unit (.exit 0) [0, 1, 2, 9] (fun _ => True) (fun _ => [ls t r, I k, I s, I t.length]) (fun _ => .nil) (fun _ => [])]
theorem simp12a : allSimpleM none1 (loopAt Tryd.f12 0) = true := by kernel_rfl
theorem lp12a (t : List Int) (r : Room) (k s : Nat) (x : List Int) (h : Tn t) (hr : rok t r) (h3 : 3 ≤ k) (hk : k ≤ t.length) (hx : RndP t k x) :
    LoopS (En6 cs12) (loopAt Tryd.f12 0) 207 [0, 1, 2, 9, 10, 14, 99, 100, 101] [ls t r, I k, I s, I t.length, ls x .no, I 0, ls x .no, I x.length, I 0] .nil (o12a t r k s) := by
  have hR : Rests (En6 cs12) none1 := rests mixed ct12
  have h8 := h.s.2
  have hxl := hx.len
  have ho8 : ∀ i, ofn x i < 8 := fun i => by
    by_cases q : i < k
    · obtain ⟨g1, g2⟩ := hx.b i q
      simp only [ofn]; omega
    · have : ofn x i = 0 := by simp [ofn, List.getD_eq_getElem?_getD, List.getElem?_eq_none (show x.length ≤ i by omega), i0]
      omega
  refine loop_s hR simp12a none (by intro _ h; cases h) (fun j vs H => H = .nil ∧ vs = [ls t r, I k, I s, I t.length, ls x .no, I (mtN x j : Nat), ls x .no, I x.length, I j]) x.length ⟨rfl, rfl⟩ (by intro _ h; cases h) ?_
  rintro j vs h' hj ⟨rfl, rfl⟩
  by_cases hz : (j : Int) < x.length
  · have hz' : j < x.length := by omega
    have hjk : j < k := by omega
    have hm : (j + 1) % k < k := Nat.mod_lt _ (by omega)
    have hm' : (j + 1) % k < x.length := by omega
    have hkp : (k : Int) ≠ 0 := by omega
    have ev0 := wj1 (j := j) (by omega)
    have ev1 : Int.tmod ((j + 1 : Nat) : Int) (k : Int) = (((j + 1) % k : Nat) : Int) := rfl
    obtain ⟨d0, d1⟩ := hx.b j hjk
    obtain ⟨f0, f1⟩ := hx.b _ hm
    have d2 : (x.getD j i0).toNat < t.length := by omega
    have hri := rok_idx hr d2
    have hxn : Room.no ≠ Room.nil := no_ne
    have d3 : ((ofn x j : Nat) : Int) = x.getD j i0 := by simp only [ofn]; omega
    have f3 : ((ofn x ((j + 1) % k) : Nat) : Int) = x.getD ((j + 1) % k) i0 := by simp only [ofn]; omega
    have hbit : bi (ia t (ofn x j)) (ofn x ((j + 1) % k)) = true := hx.w j hjk
    obtain ⟨ev2, ev3⟩ := i_bit1 (h.s8 (ofn x j)) (show ofn x ((j + 1) % k) ≤ 64 by have := ho8 ((j + 1) % k); omega) hbit
    rw [f3] at ev2
    have hml := mtN_lt ho8 j
    have hmt : bi ((mtN x j : Nat) : Int) (ofn x j) = false := by
      simp only [bi, Int.toNat_natCast]
      exact mtN_bit j fun i hi => hx.d i j hi hjk
    obtain ⟨ev4, ev5⟩ := i_bit0 (show s8 ((mtN x j : Nat) : Int) by simp only [s8]; omega) (show ofn x j ≤ 64 by have := ho8 j; omega) hmt
    rw [d3] at ev4
    have ev6 := pw_shl (n := ofn x j) (by have := ho8 j; omega)
    rw [d3] at ev6
    have h2 : 2 ^ ofn x j < 2 ^ 8 := Nat.pow_lt_pow_right (by decide) (ho8 j)
    have ev7 := i_or (a := mtN x j) (b := 2 ^ ofn x j) (by omega) (by omega)
    refine ⟨[Ans.o (Orc.b true), Ans.o (Orc.val 104 (AV.cptr (ints (List.drop j x))) H.nil), Ans.o (Orc.val 105 (I (x.getD j i0)) H.nil), Ans.o (Orc.val 108 (I (↑(j + (1 : Nat)) : Int)) H.nil), Ans.o (Orc.val 110 (I (↑((j + (1 : Nat)) % k) : Int)) H.nil), Ans.o (Orc.val 111 (AV.cptr (ints (List.drop ((j + (1 : Nat)) % k) x))) H.nil), Ans.o (Orc.val 112 (I (x.getD ((j + (1 : Nat)) % k) i0)) H.nil), Ans.o (Orc.b false), Ans.o (Orc.b false), Ans.o (Orc.b false), Ans.o (Orc.b false), Ans.o (Orc.val 132 (AV.cptr (ints (List.drop (x.getD j i0).toNat t))) H.nil), Ans.o (Orc.val 133 (I (t.getD (x.getD j i0).toNat i0)) H.nil), Ans.o (Orc.val 135 (I (↑((ia t (ofn x j)).toNat >>> ofn x ((j + (1 : Nat)) % k)) : Int)) H.nil), Ans.o (Orc.val 136 (I 1) H.nil), Ans.o Orc.dflt, Ans.o (Orc.val 142 (I (↑((↑(mtN x j) : Int).toNat >>> ofn x j) : Int)) H.nil), Ans.o (Orc.val 143 (I 0) H.nil), Ans.o Orc.dflt, Ans.o (Orc.val 148 (I (↑((2 : Nat) ^ ofn x j) : Int)) H.nil), Ans.o (Orc.val 149 (I (↑(mtN x j ||| (2 : Nat) ^ ofn x j) : Int)) H.nil), Ans.o (Orc.val 150 (I (↑(j + (1 : Nat)) : Int)) H.nil)], fun u => of_eq ((↑j : Int) < (↑x.length : Int) ∧ aIndexAddr Tryd.prog 22 (ls x Room.no) (I (↑j : Int)) = some (AV.cptr (ints (List.drop j x))) ∧ aLoad Tryd.prog 3 (ints (List.drop j x)) = some (I (x.getD j i0)) ∧ aBin Tryd.prog BinOp.add (3 : Nat) (I (↑j : Int)) (I 1) = some (I (↑(j + (1 : Nat)) : Int)) ∧ aBin Tryd.prog BinOp.rem (3 : Nat) (I (↑(j + (1 : Nat)) : Int)) (I (↑k : Int)) = some (I (↑((j + (1 : Nat)) % k) : Int)) ∧ aIndexAddr Tryd.prog 22 (ls x Room.no) (I (↑((j + (1 : Nat)) % k) : Int)) = some (AV.cptr (ints (List.drop ((j + (1 : Nat)) % k) x))) ∧ aLoad Tryd.prog 3 (ints (List.drop ((j + (1 : Nat)) % k) x)) = some (I (x.getD ((j + (1 : Nat)) % k) i0)) ∧ (0 : Int) ≤ x.getD j i0 ∧ x.getD j i0 < (↑t.length : Int) ∧ (0 : Int) ≤ x.getD ((j + (1 : Nat)) % k) i0 ∧ x.getD ((j + (1 : Nat)) % k) i0 < (↑t.length : Int) ∧ aIndexAddr Tryd.prog 22 (ls t r) (I (x.getD j i0)) = some (AV.cptr (ints (List.drop (x.getD j i0).toNat t))) ∧ aLoad Tryd.prog 3 (ints (List.drop (x.getD j i0).toNat t)) = some (I (t.getD (x.getD j i0).toNat i0)) ∧ aBin Tryd.prog BinOp.shr (3 : Nat) (I (t.getD (x.getD j i0).toNat i0)) (I (x.getD ((j + (1 : Nat)) % k) i0)) = some (I (↑((ia t (ofn x j)).toNat >>> ofn x ((j + (1 : Nat)) % k)) : Int)) ∧ aBin Tryd.prog BinOp.and (3 : Nat) (I (↑((ia t (ofn x j)).toNat >>> ofn x ((j + (1 : Nat)) % k)) : Int)) (I 1) = some (I 1) ∧ aBin Tryd.prog BinOp.shr (3 : Nat) (I (↑(mtN x j) : Int)) (I (x.getD j i0)) = some (I (↑((↑(mtN x j) : Int).toNat >>> ofn x j) : Int)) ∧ aBin Tryd.prog BinOp.and (3 : Nat) (I (↑((↑(mtN x j) : Int).toNat >>> ofn x j) : Int)) (I 1) = some (I 0) ∧ aBin Tryd.prog BinOp.shl (3 : Nat) (I 1) (I (x.getD j i0)) = some (I (↑((2 : Nat) ^ ofn x j) : Int)) ∧ aBin Tryd.prog BinOp.or (3 : Nat) (I (↑(mtN x j) : Int)) (I (↑((2 : Nat) ^ ofn x j) : Int)) = some (I (↑(mtN x j ||| (2 : Nat) ^ ofn x j) : Int)) ∧ aBin Tryd.prog BinOp.add (3 : Nat) (I (↑j : Int)) (I 1) = some (I (↑(j + (1 : Nat)) : Int)) ∧ (207 : Nat) = (207 : Nat) ∧ j < x.length ∧ Keep (H.mk [] [] [] = H.mk [] [] [] ∧ [ls t r, I (↑k : Int), I (↑s : Int), I (↑t.length : Int), ls x Room.no, I (↑(mtN x j ||| (2 : Nat) ^ ofn x j) : Int), ls x Room.no, I (↑x.length : Int), I (↑(j + (1 : Nat)) : Int)] = [ls t r, I (↑k : Int), I (↑s : Int), I (↑t.length : Int), ls x Room.no, I (↑(mtN x (j + (1 : Nat))) : Int), ls x Room.no, I (↑x.length : Int), I (↑(j + (1 : Nat)) : Int)])) (by kernel_rfl) ?_⟩
    refine ⟨by first | with_reducible assumption | omega | assumption, ?_⟩
    refine ⟨by first | exact ix_ints (by kernel_rfl) hz' hxn | exact ix_ints (by kernel_rfl) hm' hxn | exact ix_intsI (by kernel_rfl) d0 d1 hri, ?_⟩
    refine ⟨by first | exact ld_ints (by kernel_rfl) (by kernel_rfl) hz' | exact ld_ints (by kernel_rfl) (by kernel_rfl) hm' | exact ld_ints (by kernel_rfl) (by kernel_rfl) d2, ?_⟩
    refine ⟨told_add (by with_reducible assumption), ?_⟩
    refine ⟨told_rem (by first | decide | omega) (by with_reducible assumption), ?_⟩
    refine ⟨by first | exact ix_ints (by kernel_rfl) hz' hxn | exact ix_ints (by kernel_rfl) hm' hxn | exact ix_intsI (by kernel_rfl) d0 d1 hri, ?_⟩
    refine ⟨by first | exact ld_ints (by kernel_rfl) (by kernel_rfl) hz' | exact ld_ints (by kernel_rfl) (by kernel_rfl) hm' | exact ld_ints (by kernel_rfl) (by kernel_rfl) d2, ?_⟩
    refine ⟨by first | with_reducible assumption | omega | assumption, ?_⟩
    refine ⟨by first | with_reducible assumption | omega | assumption, ?_⟩
    refine ⟨by first | with_reducible assumption | omega | assumption, ?_⟩
    refine ⟨by first | with_reducible assumption | omega | assumption, ?_⟩
    refine ⟨by first | exact ix_ints (by kernel_rfl) hz' hxn | exact ix_ints (by kernel_rfl) hm' hxn | exact ix_intsI (by kernel_rfl) d0 d1 hri, ?_⟩
    refine ⟨by first | exact ld_ints (by kernel_rfl) (by kernel_rfl) hz' | exact ld_ints (by kernel_rfl) (by kernel_rfl) hm' | exact ld_ints (by kernel_rfl) (by kernel_rfl) d2, ?_⟩
    refine ⟨by first | exact told_shr (by first | exact Int.natCast_nonneg _ | omega) (by with_reducible assumption) | exact told_shr (by omega) rfl, ?_⟩
    refine ⟨told_and (by with_reducible assumption), ?_⟩
    refine ⟨by first | exact told_shr (by first | exact Int.natCast_nonneg _ | omega) (by with_reducible assumption) | exact told_shr (by omega) rfl, ?_⟩
    refine ⟨told_and (by with_reducible assumption), ?_⟩
    refine ⟨by first | exact told_shl (by first | exact Int.natCast_nonneg _ | omega) (by with_reducible assumption) | exact told_shl (by omega) rfl, ?_⟩
    refine ⟨told_or (by with_reducible assumption), ?_⟩
    refine ⟨told_add (by with_reducible assumption), ?_⟩
    refine ⟨by first | with_reducible assumption | omega | assumption, ?_⟩
    refine ⟨by first | with_reducible assumption | omega | assumption, ?_⟩
    exact ⟨rfl, rfl⟩
  · have hz : (x.length : Int) ≤ j := by omega
    refine ⟨[Ans.o (Orc.b false)], fun u => of_eq ((↑x.length : Int) ≤ (↑j : Int) ∧ (207 : Nat) = (207 : Nat) ∧ hits [Out.mk Unit AX.ret [6] (fun x => False) (fun x => [AV.bool false]) (fun x => H.nil) fun x => [], Out.mk Unit (AX.exit 0) [0, 1, 2, 9] (fun x => True) (fun x => [ls t r, I (↑k : Int), I (↑s : Int), I (↑t.length : Int)]) (fun x => H.nil) fun x => []] (AX.exit 0) [ls t r, I (↑k : Int), I (↑s : Int), u (3 : Nat), u (4 : Nat), u (5 : Nat), u (6 : Nat), u (7 : Nat), u (8 : Nat), I (↑t.length : Int), ls x Room.no, u (11 : Nat), u (12 : Nat), u (13 : Nat), I (↑(mtN x j) : Int), u (15 : Nat), u (16 : Nat), u (17 : Nat), u (18 : Nat), u (19 : Nat), u (20 : Nat), u (21 : Nat), u (22 : Nat), u (23 : Nat), u (24 : Nat), u (25 : Nat), u (26 : Nat), u (27 : Nat), u (28 : Nat), u (29 : Nat), u (30 : Nat), u (31 : Nat), u (32 : Nat), u (33 : Nat), u (34 : Nat), u (35 : Nat), u (36 : Nat), u (37 : Nat), u (38 : Nat), u (39 : Nat), u (40 : Nat), u (41 : Nat), u (42 : Nat), u (43 : Nat), u (44 : Nat), u (45 : Nat), u (46 : Nat), u (47 : Nat), u (48 : Nat), u (49 : Nat), u (50 : Nat), u (51 : Nat), u (52 : Nat), u (53 : Nat), u (54 : Nat), u (55 : Nat), u (56 : Nat), u (57 : Nat), u (58 : Nat), u (59 : Nat), u (60 : Nat), u (61 : Nat), u (62 : Nat), u (63 : Nat), u (64 : Nat), u (65 : Nat), u (66 : Nat), u (67 : Nat), u (68 : Nat), u (69 : Nat), u (70 : Nat), u (71 : Nat), u (72 : Nat), u (73 : Nat), u (74 : Nat), u (75 : Nat), u (76 : Nat), u (77 : Nat), u (78 : Nat), u (79 : Nat), u (80 : Nat), u (81 : Nat), u (82 : Nat), u (83 : Nat), u (84 : Nat), u (85 : Nat), u (86 : Nat), u (87 : Nat), u (88 : Nat), u (89 : Nat), u (90 : Nat), u (91 : Nat), u (92 : Nat), u (93 : Nat), u (94 : Nat), u (95 : Nat), u (96 : Nat), u (97 : Nat), u (98 : Nat), ls x Room.no, I (↑x.length : Int), I (↑j : Int), AV.bool false, u (103 : Nat), u (104 : Nat), u (105 : Nat), u (106 : Nat), u (107 : Nat), u (108 : Nat), u (109 : Nat), u (110 : Nat), u (111 : Nat), u (112 : Nat), u (113 : Nat), u (114 : Nat), u (115 : Nat), u (116 : Nat), u (117 : Nat), u (118 : Nat), u (119 : Nat), u (120 : Nat), u (121 : Nat), u (122 : Nat), u (123 : Nat), u (124 : Nat), u (125 : Nat), u (126 : Nat), u (127 : Nat), u (128 : Nat), u (129 : Nat), u (130 : Nat), u (131 : Nat), u (132 : Nat), u (133 : Nat), u (134 : Nat), u (135 : Nat), u (136 : Nat), u (137 : Nat), u (138 : Nat), u (139 : Nat), u (140 : Nat), u (141 : Nat), u (142 : Nat), u (143 : Nat), u (144 : Nat), u (145 : Nat), u (146 : Nat), u (147 : Nat), u (148 : Nat), u (149 : Nat), u (150 : Nat), u (151 : Nat), u (152 : Nat), u (153 : Nat), u (154 : Nat), u (155 : Nat), u (156 : Nat), u (157 : Nat), u (158 : Nat), u (159 : Nat), u (160 : Nat), u (161 : Nat), u (162 : Nat), u (163 : Nat), u (164 : Nat), u (165 : Nat), u (166 : Nat), u (167 : Nat), u (168 : Nat), u (169 : Nat), u (170 : Nat), u (171 : Nat), u (172 : Nat), u (173 : Nat), u (174 : Nat), u (175 : Nat), u (176 : Nat), u (177 : Nat), u (178 : Nat), u (179 : Nat), u (180 : Nat), u (181 : Nat), u (182 : Nat), u (183 : Nat), u (184 : Nat), u (185 : Nat), u (186 : Nat), u (187 : Nat), u (188 : Nat), u (189 : Nat), u (190 : Nat), u (191 : Nat), u (192 : Nat), u (193 : Nat), u (194 : Nat), u (195 : Nat), u (196 : Nat), u (197 : Nat), u (198 : Nat), u (199 : Nat), u (200 : Nat), u (201 : Nat), u (202 : Nat), u (203 : Nat), u (204 : Nat), u (205 : Nat), u (206 : Nat)] (H.mk [] [] [])) (by kernel_rfl) ?_⟩
    refine ⟨by first | with_reducible assumption | omega | assumption, ?_⟩
    refine ⟨by first | with_reducible assumption | omega | assumption, ?_⟩
    exact .inr (.inl ⟨(), trivial, rfl, rfl, rfl⟩)
abbrev o12c (t : List Int) (r : Room) (k s i : Nat) (l : List Int) : List Out := [.mk Unit (.exit 4) [0, 1, 2, 9, 18, 20, 151, 152] (fun _ => True) (fun _ => [ls t r, I k, I s, I t.length, lA l, I (tuS t s i t.length : Nat), I t.length, I i]) (fun _ => lH l) (fun _ => [])]
theorem simp12c : allSimpleM none1 (loopAt Tryd.f12 2) = true := by kernel_rfl
theorem lp12c (t : List Int) (r : Room) (k s i : Nat) (l : List Int) (h : Tn t) (hr : rok t r) (hi : i < t.length) (hs : s < t.length) :
    LoopS (En6 cs12) (loopAt Tryd.f12 2) 207 [0, 1, 2, 9, 18, 19, 20, 151, 152, 155, 156] [ls t r, I k, I s, I t.length, lA l, I i, I 0, I t.length, I i, I t.length, I 0] (lH l) (o12c t r k s i l) := by
  have hR : Rests (En6 cs12) none1 := rests mixed ct12
  have h8 := h.s.2
  refine loop_s hR simp12c none (by intro _ h; cases h) (fun j vs H => H = lH l ∧ vs = [ls t r, I k, I s, I t.length, lA l, I i, I (tuS t s i j : Nat), I t.length, I i, I t.length, I j]) t.length ⟨rfl, rfl⟩ (by intro _ h; cases h) ?_
  rintro j vs h' hj ⟨rfl, rfl⟩
  by_cases hz : (j : Int) < t.length
  · have hz' : j < t.length := by omega
    have h0 : 0 < t.length := by omega
    have hn0 : (t.length : Int) ≠ 0 := by omega
    have ev0 := wj1 (j := j) (by omega)
    have ev1 : IntKind.i64.wrap ((i : Int) + (s : Int)) = ((i + s : Nat) : Int) := by rw [wr _ (by omega) (by omega)]; omega
    have ev2 : IntKind.i64.wrap ((j : Int) + (s : Int)) = ((j + s : Nat) : Int) := by rw [wr _ (by omega) (by omega)]; omega
    have ev3 : Int.tmod ((i + s : Nat) : Int) (t.length : Int) = ((ph t.length s i : Nat) : Int) := rfl
    have ev4 : Int.tmod ((j + s : Nat) : Int) (t.length : Int) = ((ph t.length s j : Nat) : Int) := rfl
    have hpi := ph_lt (n := t.length) (s := s) (i := i) h0
    have hpj := ph_lt (n := t.length) (s := s) (i := j) h0
    have hri := rok_idx hr hpi
    have htl : tuS t s i j < 256 := Nat.lt_of_lt_of_le tuS_lt (pow8 (by omega))
    cases hb : bi (ia t (ph t.length s i)) (ph t.length s j)
    · obtain ⟨ev5, ev6⟩ := i_bit0 (h.s8 (ph t.length s i)) (show ph t.length s j ≤ 64 by omega) hb
      have hk : tuS t s i (j + 1) = tuS t s i j := by simp only [tuS]; rw [if_neg]; exact fun q => by have q : bi (ia t (ph t.length s i)) (ph t.length s j) = true := q; rw [hb] at q; cases q
      have ev7 : IntKind.i64.wrap (0 * 2 ^ min ((j : Nat) : Int).toNat IntKind.i64.bits) = 0 := by rw [Int.zero_mul]; rfl
      have ev8 : IntKind.i64.wrap ((BitVec.ofInt IntKind.i64.bits ((tuS t s i j : Nat) : Int) ||| BitVec.ofInt IntKind.i64.bits 0).toNat : Int) = ((tuS t s i j : Nat) : Int) := by
        have := i_or (a := tuS t s i j) (b := 0) (by omega) (by omega)
        rw [Nat.or_zero] at this; exact this
      refine ⟨[Ans.o (Orc.b true), Ans.o (Orc.val 163 (I (↑(i + s) : Int)) H.nil), Ans.o (Orc.val 165 (I (↑(ph t.length s i) : Int)) H.nil), Ans.o (Orc.val 166 (AV.cptr (ints (List.drop (ph t.length s i) t))) H.nil), Ans.o (Orc.val 167 (I (t.getD (ph t.length s i) i0)) H.nil), Ans.o (Orc.val 170 (I (↑(j + s) : Int)) H.nil), Ans.o (Orc.val 172 (I (↑(ph t.length s j) : Int)) H.nil), Ans.o (Orc.val 173 (I (↑((ia t (ph t.length s i)).toNat >>> ph t.length s j) : Int)) H.nil), Ans.o (Orc.val 174 (I 0) H.nil), Ans.o (Orc.val 176 (I 0) H.nil), Ans.o (Orc.val 177 (I (↑(tuS t s i j) : Int)) H.nil), Ans.o (Orc.val 178 (I (↑(j + (1 : Nat)) : Int)) H.nil)], fun u => of_eq ((↑j : Int) < (↑t.length : Int) ∧ aBin Tryd.prog BinOp.add (3 : Nat) (I (↑i : Int)) (I (↑s : Int)) = some (I (↑(i + s) : Int)) ∧ aBin Tryd.prog BinOp.rem (3 : Nat) (I (↑(i + s) : Int)) (I (↑t.length : Int)) = some (I (↑(ph t.length s i) : Int)) ∧ aIndexAddr Tryd.prog 22 (ls t r) (I (↑(ph t.length s i) : Int)) = some (AV.cptr (ints (List.drop (ph t.length s i) t))) ∧ aLoad Tryd.prog 3 (ints (List.drop (ph t.length s i) t)) = some (I (t.getD (ph t.length s i) i0)) ∧ aBin Tryd.prog BinOp.add (3 : Nat) (I (↑j : Int)) (I (↑s : Int)) = some (I (↑(j + s) : Int)) ∧ aBin Tryd.prog BinOp.rem (3 : Nat) (I (↑(j + s) : Int)) (I (↑t.length : Int)) = some (I (↑(ph t.length s j) : Int)) ∧ aBin Tryd.prog BinOp.shr (3 : Nat) (I (t.getD (ph t.length s i) i0)) (I (↑(ph t.length s j) : Int)) = some (I (↑((ia t (ph t.length s i)).toNat >>> ph t.length s j) : Int)) ∧ aBin Tryd.prog BinOp.and (3 : Nat) (I (↑((ia t (ph t.length s i)).toNat >>> ph t.length s j) : Int)) (I 1) = some (I 0) ∧ aBin Tryd.prog BinOp.shl (3 : Nat) (I 0) (I (↑j : Int)) = some (I 0) ∧ aBin Tryd.prog BinOp.or (3 : Nat) (I (↑(tuS t s i j) : Int)) (I 0) = some (I (↑(tuS t s i j) : Int)) ∧ aBin Tryd.prog BinOp.add (3 : Nat) (I (↑j : Int)) (I 1) = some (I (↑(j + (1 : Nat)) : Int)) ∧ (207 : Nat) = (207 : Nat) ∧ j < t.length ∧ Keep (H.mk [] (tk l) [] = H.mk [] (tk l) [] ∧ [ls t r, I (↑k : Int), I (↑s : Int), I (↑t.length : Int), ls l (rm (0 : Nat) l), I (↑i : Int), I (↑(tuS t s i j) : Int), I (↑t.length : Int), I (↑i : Int), I (↑t.length : Int), I (↑(j + (1 : Nat)) : Int)] = [ls t r, I (↑k : Int), I (↑s : Int), I (↑t.length : Int), ls l (rm (0 : Nat) l), I (↑i : Int), I (↑(tuS t s i (j + (1 : Nat))) : Int), I (↑t.length : Int), I (↑i : Int), I (↑t.length : Int), I (↑(j + (1 : Nat)) : Int)])) (by kernel_rfl) ?_⟩
      refine ⟨by first | with_reducible assumption | omega | assumption, ?_⟩
      refine ⟨told_add (by with_reducible assumption), ?_⟩
      refine ⟨told_rem (by first | decide | omega) (by with_reducible assumption), ?_⟩
      refine ⟨ix_ints (by kernel_rfl) hpi hri, ?_⟩
      refine ⟨ld_ints (by kernel_rfl) (by kernel_rfl) hpi, ?_⟩
      refine ⟨told_add (by with_reducible assumption), ?_⟩
      refine ⟨told_rem (by first | decide | omega) (by with_reducible assumption), ?_⟩
      refine ⟨by first | exact told_shr (by first | exact Int.natCast_nonneg _ | omega) (by with_reducible assumption) | exact told_shr (by omega) rfl, ?_⟩
      refine ⟨told_and (by with_reducible assumption), ?_⟩
      refine ⟨by first | exact told_shl (by first | exact Int.natCast_nonneg _ | omega) (by with_reducible assumption) | exact told_shl (by omega) rfl, ?_⟩
      refine ⟨told_or (by with_reducible assumption), ?_⟩
      refine ⟨told_add (by with_reducible assumption), ?_⟩
      refine ⟨by first | with_reducible assumption | omega | assumption, ?_⟩
      refine ⟨by first | with_reducible assumption | omega | assumption, ?_⟩
      exact ⟨rfl, by rw [hk]⟩
    · obtain ⟨ev5, ev6⟩ := i_bit1 (h.s8 (ph t.length s i)) (show ph t.length s j ≤ 64 by omega) hb
      have hk : tuS t s i (j + 1) = tuS t s i j ||| 2 ^ j := by simp only [tuS]; rw [if_pos]; exact hb
      have ev7 := pw_shl (n := j) (by omega)
      have h2 : 2 ^ j < 2 ^ 8 := Nat.pow_lt_pow_right (by decide) (by omega)
      have ev8 := i_or (a := tuS t s i j) (b := 2 ^ j) (by omega) (by omega)
      refine ⟨[Ans.o (Orc.b true), Ans.o (Orc.val 163 (I (↑(i + s) : Int)) H.nil), Ans.o (Orc.val 165 (I (↑(ph t.length s i) : Int)) H.nil), Ans.o (Orc.val 166 (AV.cptr (ints (List.drop (ph t.length s i) t))) H.nil), Ans.o (Orc.val 167 (I (t.getD (ph t.length s i) i0)) H.nil), Ans.o (Orc.val 170 (I (↑(j + s) : Int)) H.nil), Ans.o (Orc.val 172 (I (↑(ph t.length s j) : Int)) H.nil), Ans.o (Orc.val 173 (I (↑((ia t (ph t.length s i)).toNat >>> ph t.length s j) : Int)) H.nil), Ans.o (Orc.val 174 (I 1) H.nil), Ans.o (Orc.val 176 (I (↑((2 : Nat) ^ j) : Int)) H.nil), Ans.o (Orc.val 177 (I (↑(tuS t s i j ||| (2 : Nat) ^ j) : Int)) H.nil), Ans.o (Orc.val 178 (I (↑(j + (1 : Nat)) : Int)) H.nil)], fun u => of_eq ((↑j : Int) < (↑t.length : Int) ∧ aBin Tryd.prog BinOp.add (3 : Nat) (I (↑i : Int)) (I (↑s : Int)) = some (I (↑(i + s) : Int)) ∧ aBin Tryd.prog BinOp.rem (3 : Nat) (I (↑(i + s) : Int)) (I (↑t.length : Int)) = some (I (↑(ph t.length s i) : Int)) ∧ aIndexAddr Tryd.prog 22 (ls t r) (I (↑(ph t.length s i) : Int)) = some (AV.cptr (ints (List.drop (ph t.length s i) t))) ∧ aLoad Tryd.prog 3 (ints (List.drop (ph t.length s i) t)) = some (I (t.getD (ph t.length s i) i0)) ∧ aBin Tryd.prog BinOp.add (3 : Nat) (I (↑j : Int)) (I (↑s : Int)) = some (I (↑(j + s) : Int)) ∧ aBin Tryd.prog BinOp.rem (3 : Nat) (I (↑(j + s) : Int)) (I (↑t.length : Int)) = some (I (↑(ph t.length s j) : Int)) ∧ aBin Tryd.prog BinOp.shr (3 : Nat) (I (t.getD (ph t.length s i) i0)) (I (↑(ph t.length s j) : Int)) = some (I (↑((ia t (ph t.length s i)).toNat >>> ph t.length s j) : Int)) ∧ aBin Tryd.prog BinOp.and (3 : Nat) (I (↑((ia t (ph t.length s i)).toNat >>> ph t.length s j) : Int)) (I 1) = some (I 1) ∧ aBin Tryd.prog BinOp.shl (3 : Nat) (I 1) (I (↑j : Int)) = some (I (↑((2 : Nat) ^ j) : Int)) ∧ aBin Tryd.prog BinOp.or (3 : Nat) (I (↑(tuS t s i j) : Int)) (I (↑((2 : Nat) ^ j) : Int)) = some (I (↑(tuS t s i j ||| (2 : Nat) ^ j) : Int)) ∧ aBin Tryd.prog BinOp.add (3 : Nat) (I (↑j : Int)) (I 1) = some (I (↑(j + (1 : Nat)) : Int)) ∧ (207 : Nat) = (207 : Nat) ∧ j < t.length ∧ Keep (H.mk [] (tk l) [] = H.mk [] (tk l) [] ∧ [ls t r, I (↑k : Int), I (↑s : Int), I (↑t.length : Int), ls l (rm (0 : Nat) l), I (↑i : Int), I (↑(tuS t s i j ||| (2 : Nat) ^ j) : Int), I (↑t.length : Int), I (↑i : Int), I (↑t.length : Int), I (↑(j + (1 : Nat)) : Int)] = [ls t r, I (↑k : Int), I (↑s : Int), I (↑t.length : Int), ls l (rm (0 : Nat) l), I (↑i : Int), I (↑(tuS t s i (j + (1 : Nat))) : Int), I (↑t.length : Int), I (↑i : Int), I (↑t.length : Int), I (↑(j + (1 : Nat)) : Int)])) (by kernel_rfl) ?_⟩
      refine ⟨by first | with_reducible assumption | omega | assumption, ?_⟩
      refine ⟨told_add (by with_reducible assumption), ?_⟩
      refine ⟨told_rem (by first | decide | omega) (by with_reducible assumption), ?_⟩
      refine ⟨ix_ints (by kernel_rfl) hpi hri, ?_⟩
      refine ⟨ld_ints (by kernel_rfl) (by kernel_rfl) hpi, ?_⟩
      refine ⟨told_add (by with_reducible assumption), ?_⟩
      refine ⟨told_rem (by first | decide | omega) (by with_reducible assumption), ?_⟩
      refine ⟨by first | exact told_shr (by first | exact Int.natCast_nonneg _ | omega) (by with_reducible assumption) | exact told_shr (by omega) rfl, ?_⟩
      refine ⟨told_and (by with_reducible assumption), ?_⟩
      refine ⟨by first | exact told_shl (by first | exact Int.natCast_nonneg _ | omega) (by with_reducible assumption) | exact told_shl (by omega) rfl, ?_⟩
      refine ⟨told_or (by with_reducible assumption), ?_⟩
      refine ⟨told_add (by with_reducible assumption), ?_⟩
      refine ⟨by first | with_reducible assumption | omega | assumption, ?_⟩
      refine ⟨by first | with_reducible assumption | omega | assumption, ?_⟩
      exact ⟨rfl, by rw [hk]⟩
  · have hz : (t.length : Int) ≤ j := by omega
    have e : j = t.length := by omega
    subst e
    refine ⟨[Ans.o (Orc.b false)], fun u => of_eq ((↑t.length : Int) ≤ (↑t.length : Int) ∧ (207 : Nat) = (207 : Nat) ∧ hits [Out.mk Unit (AX.exit 4) [0, 1, 2, 9, 18, 20, 151, 152] (fun x => True) (fun x => [ls t r, I (↑k : Int), I (↑s : Int), I (↑t.length : Int), lA l, I (↑(tuS t s i t.length) : Int), I (↑t.length : Int), I (↑i : Int)]) (fun x => lH l) fun x => []] (AX.exit 4) [ls t r, I (↑k : Int), I (↑s : Int), u (3 : Nat), u (4 : Nat), u (5 : Nat), u (6 : Nat), u (7 : Nat), u (8 : Nat), I (↑t.length : Int), u (10 : Nat), u (11 : Nat), u (12 : Nat), u (13 : Nat), u (14 : Nat), u (15 : Nat), u (16 : Nat), u (17 : Nat), ls l (rm (0 : Nat) l), I (↑i : Int), I (↑(tuS t s i t.length) : Int), u (21 : Nat), u (22 : Nat), u (23 : Nat), u (24 : Nat), u (25 : Nat), u (26 : Nat), u (27 : Nat), u (28 : Nat), u (29 : Nat), u (30 : Nat), u (31 : Nat), u (32 : Nat), u (33 : Nat), u (34 : Nat), u (35 : Nat), u (36 : Nat), u (37 : Nat), u (38 : Nat), u (39 : Nat), u (40 : Nat), u (41 : Nat), u (42 : Nat), u (43 : Nat), u (44 : Nat), u (45 : Nat), u (46 : Nat), u (47 : Nat), u (48 : Nat), u (49 : Nat), u (50 : Nat), u (51 : Nat), u (52 : Nat), u (53 : Nat), u (54 : Nat), u (55 : Nat), u (56 : Nat), u (57 : Nat), u (58 : Nat), u (59 : Nat), u (60 : Nat), u (61 : Nat), u (62 : Nat), u (63 : Nat), u (64 : Nat), u (65 : Nat), u (66 : Nat), u (67 : Nat), u (68 : Nat), u (69 : Nat), u (70 : Nat), u (71 : Nat), u (72 : Nat), u (73 : Nat), u (74 : Nat), u (75 : Nat), u (76 : Nat), u (77 : Nat), u (78 : Nat), u (79 : Nat), u (80 : Nat), u (81 : Nat), u (82 : Nat), u (83 : Nat), u (84 : Nat), u (85 : Nat), u (86 : Nat), u (87 : Nat), u (88 : Nat), u (89 : Nat), u (90 : Nat), u (91 : Nat), u (92 : Nat), u (93 : Nat), u (94 : Nat), u (95 : Nat), u (96 : Nat), u (97 : Nat), u (98 : Nat), u (99 : Nat), u (100 : Nat), u (101 : Nat), u (102 : Nat), u (103 : Nat), u (104 : Nat), u (105 : Nat), u (106 : Nat), u (107 : Nat), u (108 : Nat), u (109 : Nat), u (110 : Nat), u (111 : Nat), u (112 : Nat), u (113 : Nat), u (114 : Nat), u (115 : Nat), u (116 : Nat), u (117 : Nat), u (118 : Nat), u (119 : Nat), u (120 : Nat), u (121 : Nat), u (122 : Nat), u (123 : Nat), u (124 : Nat), u (125 : Nat), u (126 : Nat), u (127 : Nat), u (128 : Nat), u (129 : Nat), u (130 : Nat), u (131 : Nat), u (132 : Nat), u (133 : Nat), u (134 : Nat), u (135 : Nat), u (136 : Nat), u (137 : Nat), u (138 : Nat), u (139 : Nat), u (140 : Nat), u (141 : Nat), u (142 : Nat), u (143 : Nat), u (144 : Nat), u (145 : Nat), u (146 : Nat), u (147 : Nat), u (148 : Nat), u (149 : Nat), u (150 : Nat), I (↑t.length : Int), I (↑i : Int), u (153 : Nat), u (154 : Nat), I (↑t.length : Int), I (↑t.length : Int), AV.bool false, u (158 : Nat), u (159 : Nat), u (160 : Nat), u (161 : Nat), u (162 : Nat), u (163 : Nat), u (164 : Nat), u (165 : Nat), u (166 : Nat), u (167 : Nat), u (168 : Nat), u (169 : Nat), u (170 : Nat), u (171 : Nat), u (172 : Nat), u (173 : Nat), u (174 : Nat), u (175 : Nat), u (176 : Nat), u (177 : Nat), u (178 : Nat), u (179 : Nat), u (180 : Nat), u (181 : Nat), u (182 : Nat), u (183 : Nat), u (184 : Nat), u (185 : Nat), u (186 : Nat), u (187 : Nat), u (188 : Nat), u (189 : Nat), u (190 : Nat), u (191 : Nat), u (192 : Nat), u (193 : Nat), u (194 : Nat), u (195 : Nat), u (196 : Nat), u (197 : Nat), u (198 : Nat), u (199 : Nat), u (200 : Nat), u (201 : Nat), u (202 : Nat), u (203 : Nat), u (204 : Nat), u (205 : Nat), u (206 : Nat)] (H.mk [] (tk l) [])) (by kernel_rfl) ?_⟩
    refine ⟨by first | with_reducible assumption | omega | assumption, ?_⟩
    refine ⟨by first | with_reducible assumption | omega | assumption, ?_⟩
    exact .inl ⟨(), trivial, rfl, rfl, rfl⟩
abbrev o12b (t : List Int) (k s : Nat) : List Out := [.mk Unit (.exit 2) [1, 18] (fun _ => True) (fun _ => [I k, lA (tu t s)]) (fun _ => lH (tu t s)) (fun _ => [])]
theorem simp12b : allSimpleM none1 (loopAt Tryd.f12 1) = true := by kernel_rfl
theorem lp12b (t : List Int) (r : Room) (k s : Nat) (h : Tn t) (hr : rok t r) (hs : s < t.length) :
    LoopS (En6 cs12) (loopAt Tryd.f12 1) 207 [0, 1, 2, 9, 18, 151, 152] [ls t r, I k, I s, I t.length, lA (tuL t s 0), I t.length, I 0] (lH (tuL t s 0)) (o12b t k s) := by
  have hR : Rests (En6 cs12) none1 := rests mixed ct12
  have h8 := h.s.2
  refine loop_s hR simp12b none (by intro _ h; cases h) (fun j vs H => H = lH (tuL t s j) ∧ vs = [ls t r, I k, I s, I t.length, lA (tuL t s j), I t.length, I j]) t.length ⟨rfl, rfl⟩ (by intro _ h; cases h) ?_
  rintro i vs h' hj ⟨rfl, rfl⟩
  by_cases hz : (i : Int) < t.length
  · have hz' : i < t.length := by omega
    have ev0 := wj1 (j := i) (by omega)
    have lp := lp12c t r k s i (tuL t s i) h hr hz' hs
    have hlen : (tuL t s i).length ≤ 1000000000 := by rw [tuL_len]; omega
    have hap : aAppend Tryd.prog 22 22 (.sl (ints (tuL t s i)) (tuL t s i).length (rm 0 (tuL t s i))) (.sl [I (tuS t s i t.length : Nat)] 1 .full) ⟨[], tk (tuL t s i), []⟩ = some (.sl (ints (tuL t s (i + 1))) (tuL t s (i + 1)).length (rm 0 (tuL t s (i + 1))), ⟨[], tk (tuL t s (i + 1)), []⟩) := by
      rw [tuL_succ]; exact app_ints (by kernel_rfl) hlen
    refine ⟨[Ans.o (Orc.b true), Ans.loop [0, 1, 2, 9, 18, 19, 20, 151, 152, 155, 156] [Out.mk Unit (AX.exit 4) [0, 1, 2, 9, 18, 20, 151, 152] (fun x => True) (fun x => [ls t r, I (↑k : Int), I (↑s : Int), I (↑t.length : Int), lA (tuL t s i), I (↑(tuS t s i t.length) : Int), I (↑t.length : Int), I (↑i : Int)]) (fun x => lH (tuL t s i)) fun y => [Ans.o (Orc.val 182 (ls (tuL t s (i + (1 : Nat))) (rm (0 : Nat) (tuL t s (i + (1 : Nat))))) (H.mk [] (tk (tuL t s (i + (1 : Nat)))) [])), Ans.o (Orc.val 183 (I (↑(i + (1 : Nat)) : Int)) H.nil)]]], fun u => of_eq ((↑i : Int) < (↑t.length : Int) ∧ LoopS (Env.mk Tryd.prog (Sof cs12) (Pof (P := Tryd.prog) []) H.nil.base (300 : Nat)) (loopAt Tryd.f12 2) 207 [0, 1, 2, 9, 18, 19, 20, 151, 152, 155, 156] [ls t r, I (↑k : Int), I (↑s : Int), I (↑t.length : Int), ls (tuL t s i) (rm (0 : Nat) (tuL t s i)), I (↑i : Int), I 0, I (↑t.length : Int), I (↑i : Int), I (↑t.length : Int), I 0] (H.mk [] (tk (tuL t s i)) []) [Out.mk Unit (AX.exit 4) [0, 1, 2, 9, 18, 20, 151, 152] (fun x => True) (fun x => [ls t r, I (↑k : Int), I (↑s : Int), I (↑t.length : Int), lA (tuL t s i), I (↑(tuS t s i t.length) : Int), I (↑t.length : Int), I (↑i : Int)]) (fun x => lH (tuL t s i)) fun y => [Ans.o (Orc.val 182 (ls (tuL t s (i + (1 : Nat))) (rm (0 : Nat) (tuL t s (i + (1 : Nat))))) (H.mk [] (tk (tuL t s (i + (1 : Nat)))) [])), Ans.o (Orc.val 183 (I (↑(i + (1 : Nat)) : Int)) H.nil)]] ∧ (∀ (y : Unit), True → ∀ (u : Nat → AV), aAppend Tryd.prog 22 (22 : Nat) (ls (tuL t s i) (rm (0 : Nat) (tuL t s i))) (AV.sl [I (↑(tuS t s i t.length) : Int)] (1 : Nat) Room.full) (H.mk [] (tk (tuL t s i)) []) = some (ls (tuL t s (i + (1 : Nat))) (rm (0 : Nat) (tuL t s (i + (1 : Nat)))), H.mk [] (tk (tuL t s (i + (1 : Nat)))) []) ∧ aBin Tryd.prog BinOp.add (3 : Nat) (I (↑i : Int)) (I 1) = some (I (↑(i + (1 : Nat)) : Int)) ∧ (207 : Nat) = (207 : Nat) ∧ i < t.length ∧ Keep (H.mk [] (tk (tuL t s (i + (1 : Nat)))) [] = H.mk [] (tk (tuL t s (i + (1 : Nat)))) [] ∧ [ls t r, I (↑k : Int), I (↑s : Int), I (↑t.length : Int), ls (tuL t s (i + (1 : Nat))) (rm (0 : Nat) (tuL t s (i + (1 : Nat)))), I (↑t.length : Int), I (↑(i + (1 : Nat)) : Int)] = [ls t r, I (↑k : Int), I (↑s : Int), I (↑t.length : Int), ls (tuL t s (i + (1 : Nat))) (rm (0 : Nat) (tuL t s (i + (1 : Nat)))), I (↑t.length : Int), I (↑(i + (1 : Nat)) : Int)])) ∧ True) (by kernel_rfl) ?_⟩
    refine ⟨by first | with_reducible assumption | omega | assumption, ?_⟩
    refine ⟨lp, ?_⟩
    refine And.intro ?_ ?_
    · skip
      intro y
      intro w1
      intro u
      refine ⟨hap, ?_⟩
      refine ⟨told_add (by with_reducible assumption), ?_⟩
      refine ⟨by first | with_reducible assumption | omega | assumption, ?_⟩
      refine ⟨by first | with_reducible assumption | omega | assumption, ?_⟩
      exact ⟨rfl, rfl⟩
    · skip
      trivial
  · have hz : (t.length : Int) ≤ i := by omega
    have e : i = t.length := by omega
    subst e
    refine ⟨[Ans.o (Orc.b false)], fun u => of_eq ((↑t.length : Int) ≤ (↑t.length : Int) ∧ (207 : Nat) = (207 : Nat) ∧ hits [Out.mk Unit (AX.exit 2) [1, 18] (fun x => True) (fun x => [I (↑k : Int), lA (tu t s)]) (fun x => lH (tu t s)) fun x => []] (AX.exit 2) [ls t r, I (↑k : Int), I (↑s : Int), u (3 : Nat), u (4 : Nat), u (5 : Nat), u (6 : Nat), u (7 : Nat), u (8 : Nat), I (↑t.length : Int), u (10 : Nat), u (11 : Nat), u (12 : Nat), u (13 : Nat), u (14 : Nat), u (15 : Nat), u (16 : Nat), u (17 : Nat), ls (tuL t s t.length) (rm (0 : Nat) (tuL t s t.length)), u (19 : Nat), u (20 : Nat), u (21 : Nat), u (22 : Nat), u (23 : Nat), u (24 : Nat), u (25 : Nat), u (26 : Nat), u (27 : Nat), u (28 : Nat), u (29 : Nat), u (30 : Nat), u (31 : Nat), u (32 : Nat), u (33 : Nat), u (34 : Nat), u (35 : Nat), u (36 : Nat), u (37 : Nat), u (38 : Nat), u (39 : Nat), u (40 : Nat), u (41 : Nat), u (42 : Nat), u (43 : Nat), u (44 : Nat), u (45 : Nat), u (46 : Nat), u (47 : Nat), u (48 : Nat), u (49 : Nat), u (50 : Nat), u (51 : Nat), u (52 : Nat), u (53 : Nat), u (54 : Nat), u (55 : Nat), u (56 : Nat), u (57 : Nat), u (58 : Nat), u (59 : Nat), u (60 : Nat), u (61 : Nat), u (62 : Nat), u (63 : Nat), u (64 : Nat), u (65 : Nat), u (66 : Nat), u (67 : Nat), u (68 : Nat), u (69 : Nat), u (70 : Nat), u (71 : Nat), u (72 : Nat), u (73 : Nat), u (74 : Nat), u (75 : Nat), u (76 : Nat), u (77 : Nat), u (78 : Nat), u (79 : Nat), u (80 : Nat), u (81 : Nat), u (82 : Nat), u (83 : Nat), u (84 : Nat), u (85 : Nat), u (86 : Nat), u (87 : Nat), u (88 : Nat), u (89 : Nat), u (90 : Nat), u (91 : Nat), u (92 : Nat), u (93 : Nat), u (94 : Nat), u (95 : Nat), u (96 : Nat), u (97 : Nat), u (98 : Nat), u (99 : Nat), u (100 : Nat), u (101 : Nat), u (102 : Nat), u (103 : Nat), u (104 : Nat), u (105 : Nat), u (106 : Nat), u (107 : Nat), u (108 : Nat), u (109 : Nat), u (110 : Nat), u (111 : Nat), u (112 : Nat), u (113 : Nat), u (114 : Nat), u (115 : Nat), u (116 : Nat), u (117 : Nat), u (118 : Nat), u (119 : Nat), u (120 : Nat), u (121 : Nat), u (122 : Nat), u (123 : Nat), u (124 : Nat), u (125 : Nat), u (126 : Nat), u (127 : Nat), u (128 : Nat), u (129 : Nat), u (130 : Nat), u (131 : Nat), u (132 : Nat), u (133 : Nat), u (134 : Nat), u (135 : Nat), u (136 : Nat), u (137 : Nat), u (138 : Nat), u (139 : Nat), u (140 : Nat), u (141 : Nat), u (142 : Nat), u (143 : Nat), u (144 : Nat), u (145 : Nat), u (146 : Nat), u (147 : Nat), u (148 : Nat), u (149 : Nat), u (150 : Nat), I (↑t.length : Int), I (↑t.length : Int), AV.bool false, u (154 : Nat), u (155 : Nat), u (156 : Nat), u (157 : Nat), u (158 : Nat), u (159 : Nat), u (160 : Nat), u (161 : Nat), u (162 : Nat), u (163 : Nat), u (164 : Nat), u (165 : Nat), u (166 : Nat), u (167 : Nat), u (168 : Nat), u (169 : Nat), u (170 : Nat), u (171 : Nat), u (172 : Nat), u (173 : Nat), u (174 : Nat), u (175 : Nat), u (176 : Nat), u (177 : Nat), u (178 : Nat), u (179 : Nat), u (180 : Nat), u (181 : Nat), u (182 : Nat), u (183 : Nat), u (184 : Nat), u (185 : Nat), u (186 : Nat), u (187 : Nat), u (188 : Nat), u (189 : Nat), u (190 : Nat), u (191 : Nat), u (192 : Nat), u (193 : Nat), u (194 : Nat), u (195 : Nat), u (196 : Nat), u (197 : Nat), u (198 : Nat), u (199 : Nat), u (200 : Nat), u (201 : Nat), u (202 : Nat), u (203 : Nat), u (204 : Nat), u (205 : Nat), u (206 : Nat)] (H.mk [] (tk (tuL t s t.length)) [])) (by kernel_rfl) ?_⟩
    refine ⟨by first | with_reducible assumption | omega | assumption, ?_⟩
    refine ⟨by first | with_reducible assumption | omega | assumption, ?_⟩
    exact .inl ⟨(), trivial, rfl, rfl, rfl⟩
end Go.Proofs.Rnk

