/- Layer 7: the law of counts, the order without an element, and the sum. -/
import Derived.Test.YtmgbglnljnlapaaOrJ
import Derived.KernelRfl
set_option linter.unusedSimpArgs false
set_option linter.unusedVariables false
set_option linter.unnecessarySimpa false
set_option maxHeartbeats 4000000
set_option maxRecDepth 100000
namespace Go.Proofs.Ord
open Go Go.VM
open Go.Proofs.Sur (andn andn_bit andn_le i_wrap i_and i_or i_andn i_shl i_shr bit_01)

abbrev lsl (o : List Int) (x k : Nat) : List Int := rl (cnt x k) (lsR (rel o) x)
abbrev is2 : List Nat := [0, 1, 2, 7, 9, 10, 14, 45, 46, 71, 72, 73]
abbrev slg (ts : List Nat) (l : List Int) : AV := .sl (ints l) l.length (rm ts.length l)
abbrev o10c (o : List Int) (r : Room) (i j n S : Int) (x : Nat) (ts : List Nat) : List Out :=
  [.mk Unit (.exit 4) [0, 1, 2, 7, 9, 10, 14, 45, 46] (fun _ => True) (fun _ => [ls o r, I i, I j, I n, I S, I x, slg ts (lsl o x o.length), I o.length, I x]) (fun _ => ⟨[], tkp ts (lsl o x o.length), []⟩) (fun _ => [])]
theorem simp10c : allSimpleM none1 (loopAt Try.f10 2) = true := by kernel_rfl
theorem lp10c (c19x : PCtr Try.prog) (o : List Int) (r : Room) (h : pJ o r ∧ OrdL o) (i j n S : Int) (x : Nat) (hx : x < o.length) (ts : List Nat) :
    LoopS (En6 [c20t.to, c30t.to, c24t.to, c26.to, c27.to, c19x.to]) (loopAt Try.f10 2) 198 is2 [ls o r, I i, I j, I n, I S, I x, .sl [] 0 .nil, I o.length, I x, ls o r, I o.length, I 0] ⟨[], ts, []⟩ (o10c o r i j n S x ts) := by
  have hR : Rests (En6 [c20t.to, c30t.to, c24t.to, c26.to, c27.to, c19x.to]) none1 := rests mixed (.pure _ (.pure _ (.pure _ (.pure _ (.pure _ (.pure _ .nil))))))
  have h6 := h.2.s.2
  have p6 : 2 ^ o.length ≤ 2 ^ 6 := Nat.pow_le_pow_right (by decide) h6
  have px : 2 ^ x ≤ 2 ^ 6 := Nat.pow_le_pow_right (by decide) (by omega)
  have p0 : 0 < 2 ^ x := Nat.two_pow_pos x
  have ev1 := pw_shl (n := x) (by omega)
  have ev2 : IntKind.i64.wrap (((2 ^ x : Nat) : Int) - 1) = ((2 ^ x - 1 : Nat) : Int) := by rw [wr _ (by omega) (by omega)]; omega
  have ev4 := wj1 (j := x) (by omega)
  refine loop_s hR simp10c none (by intro _ h; cases h) (fun k vs H => H = ⟨[], tkp ts (lsl o x k), []⟩ ∧ vs = [ls o r, I i, I j, I n, I S, I x, slg ts (lsl o x k), I o.length, I x, ls o r, I o.length, I k]) o.length ⟨rfl, rfl⟩ (by intro _ h; cases h) ?_
  rintro k vs H hk ⟨rfl, rfl⟩
  by_cases hz : (k : Int) < o.length
  · have hz' : k < o.length := by omega
    have hr := rok_idx h.1.1.2.1 hz'
    have ev0 := wj1 (j := k) (by omega)
    have hb := h.2.r k hz'
    by_cases hkx : (k : Int) = x
    · have e : k = x := by omega
      have hs : lsl o x k = lsl o x (k + 1) := by rw [e]; exact ls_skip
      refine ⟨[Ans.o (Orc.b true), Ans.o (Orc.val 76 (AV.cptr (ints (List.drop k o))) H.nil), Ans.o (Orc.val 77 (I (o.getD k i0)) H.nil), Ans.o (Orc.b false), Ans.o (Orc.val 96 (I (↑(k + (1 : Nat)) : Int)) H.nil)], fun u => of_eq ((↑k : Int) < (↑o.length : Int) ∧ aIndexAddr Try.prog (23 : Nat) (AV.sl (ints o) o.length r) (I (↑k : Int)) = some (AV.cptr (ints (List.drop k o))) ∧ aLoad Try.prog (3 : Nat) (ints (List.drop k o)) = some (I (o.getD k i0)) ∧ (↑k : Int) = (↑x : Int) ∧ aBin Try.prog BinOp.add (3 : Nat) (I (↑k : Int)) (I 1) = some (I (↑(k + (1 : Nat)) : Int)) ∧ (198 : Nat) = (198 : Nat) ∧ k < o.length ∧ Keep (H.mk [] (tkp ts (lsl o x k)) [] = H.mk [] (tkp ts (lsl o x (k + (1 : Nat)))) [] ∧ [AV.sl (ints o) o.length r, I i, I j, I n, I S, I (↑x : Int), AV.sl (ints (lsl o x k)) (lsl o x k).length (rm ts.length (lsl o x k)), I (↑o.length : Int), I (↑x : Int), AV.sl (ints o) o.length r, I (↑o.length : Int), I (↑(k + (1 : Nat)) : Int)] = [AV.sl (ints o) o.length r, I i, I j, I n, I S, I (↑x : Int), AV.sl (ints (lsl o x (k + (1 : Nat)))) (lsl o x (k + (1 : Nat))).length (rm ts.length (lsl o x (k + (1 : Nat)))), I (↑o.length : Int), I (↑x : Int), AV.sl (ints o) o.length r, I (↑o.length : Int), I (↑(k + (1 : Nat)) : Int)])) (by kernel_rfl) ?_⟩
      refine ⟨by first | with_reducible assumption | omega | assumption, ?_⟩
      refine ⟨by first | exact ix_ints (by kernel_rfl) (by omega) (by assumption) | exact ix_ints (by kernel_rfl) (by omega) (rok_idx (by assumption) (by omega)), ?_⟩
      refine ⟨by first | exact ld_ints (by kernel_rfl) (by kernel_rfl) (by omega) | exact ldm_ints (by kernel_rfl) (by kernel_rfl) (by first | omega | (simp; omega)), ?_⟩
      refine ⟨by first | with_reducible assumption | omega | assumption, ?_⟩
      refine ⟨told_add (by with_reducible assumption), ?_⟩
      refine ⟨by first | with_reducible assumption | omega | assumption, ?_⟩
      refine ⟨by first | with_reducible assumption | omega | assumption, ?_⟩
      exact ⟨by rw [← hs], by rw [← hs]⟩
    · have hkx : (k : Int) ≠ x := hkx
      have e1 : ia o k = ((rel o k : Nat) : Int) := by simp only [rel]; omega
      have hk64 : rel o k < 64 := by simp only [rel]; omega
      have ev3 := i_andv e1 (show ((2 ^ x - 1 : Nat) : Int) = ((2 ^ x - 1 : Nat) : Int) from rfl) hk64 (by omega)
      have ev5 : (ia o k).fdiv (2 ^ min (((x + 1 : Nat) : Int)).toNat IntKind.i64.bits) = ((rel o k >>> (x + 1) : Nat) : Int) := by rw [e1]; exact i_shr (by omega)
      have hsh : rel o k >>> (x + 1) < 64 := Nat.lt_of_le_of_lt (by rw [Nat.shiftRight_eq_div_pow]; exact Nat.div_le_self _ _) hk64
      have hmul : rel o k >>> (x + 1) * 2 ^ x < 4096 := Nat.lt_of_lt_of_le (Nat.mul_lt_mul_of_lt_of_le hsh px (by decide)) (by decide)
      have ev6 : IntKind.i64.wrap (((rel o k >>> (x + 1) : Nat) : Int) * 2 ^ min ((x : Int)).toNat IntKind.i64.bits) = ((rel o k >>> (x + 1) * 2 ^ x : Nat) : Int) := i_shl (by omega) (by omega)
      have hand : rel o k &&& (2 ^ x - 1) < 64 := Nat.lt_of_le_of_lt Nat.and_le_left hk64
      have ev7 : IntKind.i64.wrap ((BitVec.ofInt IntKind.i64.bits ((rel o k &&& (2 ^ x - 1) : Nat) : Int) ||| BitVec.ofInt IntKind.i64.bits ((rel o k >>> (x + 1) * 2 ^ x : Nat) : Int)).toNat : Int) = ((sq x (rel o k) : Nat) : Int) := i_or (by omega) (by omega)
      have hap := app_intsg (t := 23) (by kernel_rfl) (l := lsl o x k) (x := ((sq x (rel o k) : Nat) : Int)) (ts := ts) (by rw [rl_len]; simp only [cnt]; split <;> omega)
      have hs : lsl o x k ++ [((sq x (rel o k) : Nat) : Int)] = lsl o x (k + 1) := ls_next (by omega)
      rw [hs] at hap
      refine ⟨[Ans.o (Orc.b true), Ans.o (Orc.val 76 (AV.cptr (ints (List.drop k o))) H.nil), Ans.o (Orc.val 77 (I (o.getD k i0)) H.nil), Ans.o (Orc.b true), Ans.o (Orc.val 84 (I (↑((2 : Nat) ^ x) : Int)) H.nil), Ans.o (Orc.val 85 (I (↑((2 : Nat) ^ x - (1 : Nat)) : Int)) H.nil), Ans.o (Orc.val 86 (I (↑(rel o k &&& (2 : Nat) ^ x - (1 : Nat)) : Int)) H.nil), Ans.o (Orc.val 89 (I (↑(x + (1 : Nat)) : Int)) H.nil), Ans.o (Orc.val 90 (I (↑(rel o k >>> (x + (1 : Nat))) : Int)) H.nil), Ans.o (Orc.val 92 (I (↑(rel o k >>> (x + (1 : Nat)) * (2 : Nat) ^ x) : Int)) H.nil), Ans.o (Orc.val 93 (I (↑(sq x (rel o k)) : Int)) H.nil), Ans.o (Orc.val 95 (AV.sl (ints (lsl o x (k + (1 : Nat)))) (lsl o x (k + (1 : Nat))).length (rm ts.length (lsl o x (k + (1 : Nat))))) (H.mk [] (tkp ts (lsl o x (k + (1 : Nat)))) [])), Ans.o (Orc.val 96 (I (↑(k + (1 : Nat)) : Int)) H.nil)], fun u => of_eq ((↑k : Int) < (↑o.length : Int) ∧ aIndexAddr Try.prog (23 : Nat) (AV.sl (ints o) o.length r) (I (↑k : Int)) = some (AV.cptr (ints (List.drop k o))) ∧ aLoad Try.prog (3 : Nat) (ints (List.drop k o)) = some (I (o.getD k i0)) ∧ (↑k : Int) ≠ (↑x : Int) ∧ aBin Try.prog BinOp.shl (3 : Nat) (I 1) (I (↑x : Int)) = some (I (↑((2 : Nat) ^ x) : Int)) ∧ aBin Try.prog BinOp.sub (3 : Nat) (I (↑((2 : Nat) ^ x) : Int)) (I 1) = some (I (↑((2 : Nat) ^ x - (1 : Nat)) : Int)) ∧ aBin Try.prog BinOp.and (3 : Nat) (I (o.getD k i0)) (I (↑((2 : Nat) ^ x - (1 : Nat)) : Int)) = some (I (↑(rel o k &&& (2 : Nat) ^ x - (1 : Nat)) : Int)) ∧ aBin Try.prog BinOp.add (3 : Nat) (I (↑x : Int)) (I 1) = some (I (↑(x + (1 : Nat)) : Int)) ∧ aBin Try.prog BinOp.shr (3 : Nat) (I (o.getD k i0)) (I (↑(x + (1 : Nat)) : Int)) = some (I (↑(rel o k >>> (x + (1 : Nat))) : Int)) ∧ aBin Try.prog BinOp.shl (3 : Nat) (I (↑(rel o k >>> (x + (1 : Nat))) : Int)) (I (↑x : Int)) = some (I (↑(rel o k >>> (x + (1 : Nat)) * (2 : Nat) ^ x) : Int)) ∧ aBin Try.prog BinOp.or (3 : Nat) (I (↑(rel o k &&& (2 : Nat) ^ x - (1 : Nat)) : Int)) (I (↑(rel o k >>> (x + (1 : Nat)) * (2 : Nat) ^ x) : Int)) = some (I (↑(sq x (rel o k)) : Int)) ∧ aAppend Try.prog (23 : Nat) (23 : Nat) (AV.sl (ints (lsl o x k)) (lsl o x k).length (rm ts.length (lsl o x k))) (AV.sl [I (↑(sq x (rel o k)) : Int)] (1 : Nat) Room.full) (H.mk [] (tkp ts (lsl o x k)) []) = some (AV.sl (ints (lsl o x (k + (1 : Nat)))) (lsl o x (k + (1 : Nat))).length (rm ts.length (lsl o x (k + (1 : Nat)))), H.mk [] (tkp ts (lsl o x (k + (1 : Nat)))) []) ∧ aBin Try.prog BinOp.add (3 : Nat) (I (↑k : Int)) (I 1) = some (I (↑(k + (1 : Nat)) : Int)) ∧ (198 : Nat) = (198 : Nat) ∧ k < o.length ∧ Keep (H.mk [] (tkp ts (lsl o x (k + (1 : Nat)))) [] = H.mk [] (tkp ts (lsl o x (k + (1 : Nat)))) [] ∧ [AV.sl (ints o) o.length r, I i, I j, I n, I S, I (↑x : Int), AV.sl (ints (lsl o x (k + (1 : Nat)))) (lsl o x (k + (1 : Nat))).length (rm ts.length (lsl o x (k + (1 : Nat)))), I (↑o.length : Int), I (↑x : Int), AV.sl (ints o) o.length r, I (↑o.length : Int), I (↑(k + (1 : Nat)) : Int)] = [AV.sl (ints o) o.length r, I i, I j, I n, I S, I (↑x : Int), AV.sl (ints (lsl o x (k + (1 : Nat)))) (lsl o x (k + (1 : Nat))).length (rm ts.length (lsl o x (k + (1 : Nat)))), I (↑o.length : Int), I (↑x : Int), AV.sl (ints o) o.length r, I (↑o.length : Int), I (↑(k + (1 : Nat)) : Int)])) (by kernel_rfl) ?_⟩
      refine ⟨by first | with_reducible assumption | omega | assumption, ?_⟩
      refine ⟨by first | exact ix_ints (by kernel_rfl) (by omega) (by assumption) | exact ix_ints (by kernel_rfl) (by omega) (rok_idx (by assumption) (by omega)), ?_⟩
      refine ⟨by first | exact ld_ints (by kernel_rfl) (by kernel_rfl) (by omega) | exact ldm_ints (by kernel_rfl) (by kernel_rfl) (by first | omega | (simp; omega)), ?_⟩
      refine ⟨by first | with_reducible assumption | omega | assumption, ?_⟩
      refine ⟨by first | exact told_shl (by first | exact Int.natCast_nonneg _ | omega) (by with_reducible assumption) | exact told_shl (by omega) rfl, ?_⟩
      refine ⟨told_sub (by with_reducible assumption), ?_⟩
      refine ⟨told_and (by with_reducible assumption), ?_⟩
      refine ⟨told_add (by with_reducible assumption), ?_⟩
      refine ⟨by first | exact told_shr (by first | exact Int.natCast_nonneg _ | omega) (by with_reducible assumption) | exact told_shr (by omega) rfl, ?_⟩
      refine ⟨by first | exact told_shl (by first | exact Int.natCast_nonneg _ | omega) (by with_reducible assumption) | exact told_shl (by omega) rfl, ?_⟩
      refine ⟨told_or (by with_reducible assumption), ?_⟩
      refine ⟨hap, ?_⟩
      refine ⟨told_add (by with_reducible assumption), ?_⟩
      refine ⟨by first | with_reducible assumption | omega | assumption, ?_⟩
      refine ⟨by first | with_reducible assumption | omega | assumption, ?_⟩
      exact ⟨rfl, rfl⟩
  · have hz : (o.length : Int) ≤ k := by omega
    have hk' : k = o.length := by omega
    subst hk'
    refine ⟨[Ans.o (Orc.b false)], fun u => of_eq ((↑o.length : Int) ≤ (↑o.length : Int) ∧ (198 : Nat) = (198 : Nat) ∧ hits [Out.mk Unit (AX.exit (4 : Nat)) [(0 : Nat), (1 : Nat), (2 : Nat), (7 : Nat), (9 : Nat), (10 : Nat), (14 : Nat), (45 : Nat), (46 : Nat)] (fun x => True) (fun x_1 => [ls o r, I i, I j, I n, I S, I (↑x : Int), slg ts (lsl o x o.length), I (↑o.length : Int), I (↑x : Int)]) (fun x_1 => H.mk [] (tkp ts (lsl o x o.length)) []) fun x => []] (AX.exit (4 : Nat)) [AV.sl (ints o) o.length r, I i, I j, u (3 : Nat), u (4 : Nat), u (5 : Nat), u (6 : Nat), I n, u (8 : Nat), I S, I (↑x : Int), u (11 : Nat), u (12 : Nat), u (13 : Nat), AV.sl (ints (lsl o x o.length)) (lsl o x o.length).length (rm ts.length (lsl o x o.length)), u (15 : Nat), u (16 : Nat), u (17 : Nat), u (18 : Nat), u (19 : Nat), u (20 : Nat), u (21 : Nat), u (22 : Nat), u (23 : Nat), u (24 : Nat), u (25 : Nat), u (26 : Nat), u (27 : Nat), u (28 : Nat), u (29 : Nat), u (30 : Nat), u (31 : Nat), u (32 : Nat), u (33 : Nat), u (34 : Nat), u (35 : Nat), u (36 : Nat), u (37 : Nat), u (38 : Nat), u (39 : Nat), u (40 : Nat), u (41 : Nat), u (42 : Nat), u (43 : Nat), u (44 : Nat), I (↑o.length : Int), I (↑x : Int), u (47 : Nat), u (48 : Nat), u (49 : Nat), u (50 : Nat), u (51 : Nat), u (52 : Nat), u (53 : Nat), u (54 : Nat), u (55 : Nat), u (56 : Nat), u (57 : Nat), u (58 : Nat), u (59 : Nat), u (60 : Nat), u (61 : Nat), u (62 : Nat), u (63 : Nat), u (64 : Nat), u (65 : Nat), u (66 : Nat), u (67 : Nat), u (68 : Nat), u (69 : Nat), u (70 : Nat), AV.sl (ints o) o.length r, I (↑o.length : Int), I (↑o.length : Int), AV.bool false, u (75 : Nat), u (76 : Nat), u (77 : Nat), u (78 : Nat), u (79 : Nat), u (80 : Nat), u (81 : Nat), u (82 : Nat), u (83 : Nat), u (84 : Nat), u (85 : Nat), u (86 : Nat), u (87 : Nat), u (88 : Nat), u (89 : Nat), u (90 : Nat), u (91 : Nat), u (92 : Nat), u (93 : Nat), u (94 : Nat), u (95 : Nat), u (96 : Nat), u (97 : Nat), u (98 : Nat), u (99 : Nat), u (100 : Nat), u (101 : Nat), u (102 : Nat), u (103 : Nat), u (104 : Nat), u (105 : Nat), u (106 : Nat), u (107 : Nat), u (108 : Nat), u (109 : Nat), u (110 : Nat), u (111 : Nat), u (112 : Nat), u (113 : Nat), u (114 : Nat), u (115 : Nat), u (116 : Nat), u (117 : Nat), u (118 : Nat), u (119 : Nat), u (120 : Nat), u (121 : Nat), u (122 : Nat), u (123 : Nat), u (124 : Nat), u (125 : Nat), u (126 : Nat), u (127 : Nat), u (128 : Nat), u (129 : Nat), u (130 : Nat), u (131 : Nat), u (132 : Nat), u (133 : Nat), u (134 : Nat), u (135 : Nat), u (136 : Nat), u (137 : Nat), u (138 : Nat), u (139 : Nat), u (140 : Nat), u (141 : Nat), u (142 : Nat), u (143 : Nat), u (144 : Nat), u (145 : Nat), u (146 : Nat), u (147 : Nat), u (148 : Nat), u (149 : Nat), u (150 : Nat), u (151 : Nat), u (152 : Nat), u (153 : Nat), u (154 : Nat), u (155 : Nat), u (156 : Nat), u (157 : Nat), u (158 : Nat), u (159 : Nat), u (160 : Nat), u (161 : Nat), u (162 : Nat), u (163 : Nat), u (164 : Nat), u (165 : Nat), u (166 : Nat), u (167 : Nat), u (168 : Nat), u (169 : Nat), u (170 : Nat), u (171 : Nat), u (172 : Nat), u (173 : Nat), u (174 : Nat), u (175 : Nat), u (176 : Nat), u (177 : Nat), u (178 : Nat), u (179 : Nat), u (180 : Nat), u (181 : Nat), u (182 : Nat), u (183 : Nat), u (184 : Nat), u (185 : Nat), u (186 : Nat), u (187 : Nat), u (188 : Nat), u (189 : Nat), u (190 : Nat), u (191 : Nat), u (192 : Nat), u (193 : Nat), u (194 : Nat), u (195 : Nat), u (196 : Nat), u (197 : Nat)] (H.mk [] (tkp ts (lsl o x o.length)) [])) (by kernel_rfl) ?_⟩
    refine ⟨by first | with_reducible assumption | omega | assumption, ?_⟩
    refine ⟨by first | with_reducible assumption | omega | assumption, ?_⟩
    exact .inl ⟨(), trivial, rfl, rfl, rfl⟩
theorem cnt_n {x n : Nat} (h : x < n) : cnt x n = n - 1 := by simp only [cnt]; rw [if_pos h]
theorem rok_rm (l : List Int) (t : Nat) : rok l (rm t l) := by
  cases l with
  | nil => intro h; exact absurd rfl h
  | cons x m => intro _ e; cases e
abbrev o10 (o : List Int) (r : Room) (i j n : Int) : List Out :=
  [.mk (List Nat) (.exit 0) [0, 1, 2, 7, 9] (fun _ => True) (fun _ => [ls o r, I i, I j, I n, I (sm (rel o) o.length o.length : Nat)]) (fun ts => ⟨[], ts, []⟩) (fun _ => [])]
theorem simp10 : allSimpleM none1 (loopAt Try.f10 0) = true := by kernel_rfl
theorem lp10 (c19x : PCtr Try.prog) (o : List Int) (r : Room) (h : pJ o r ∧ OrdL o) (i j n : Int) :
    LoopS (En6 [c20t.to, c30t.to, c24t.to, c26.to, c27.to, c19x.to]) (loopAt Try.f10 0) 198 [0, 1, 2, 7, 9, 45, 46] [ls o r, I i, I j, I n, I 0, I o.length, I 0] .nil (o10 o r i j n) := by
  have hR : Rests (En6 [c20t.to, c30t.to, c24t.to, c26.to, c27.to, c19x.to]) none1 := rests mixed (.pure _ (.pure _ (.pure _ (.pure _ (.pure _ (.pure _ .nil))))))
  have hod := h.2.od
  have h1 := h.2.s.1
  have h6 := h.2.s.2
  have p6 : 2 ^ o.length ≤ 2 ^ 6 := Nat.pow_le_pow_right (by decide) h6
  refine loop_s hR simp10 none (by intro _ h; cases h) (fun x vs H => ∃ ts : List Nat, H = ⟨[], ts, []⟩ ∧ vs = [ls o r, I i, I j, I n, I (sm (rel o) o.length x : Nat), I o.length, I x]) o.length ⟨[], rfl, rfl⟩ (by intro _ h; cases h) ?_
  rintro x vs H hx ⟨ts, rfl, rfl⟩
  by_cases hz : (x : Int) < o.length
  · have hz' : x < o.length := by omega
    have ev0 := wj1 (j := x) (by omega)
    have hl1 := lp10b c19x o r h i j n (sm (rel o) o.length x : Nat) x hz' ts
    have hm := fs_mn (A := rel o) hz'
    have hs2 := sm_le hod h1 h6 (k := x + 1) (by omega)
    cases hf : fsB (rel o) x o.length
    · have hsm : sm (rel o) o.length (x + 1) = sm (rel o) o.length x := by rw [sm, sumN, lsC, if_neg (by rw [hm, hf]; simp)]; rfl
      refine ⟨[Ans.o (Orc.b true), Ans.loop is1 [Out.mk Unit (AX.exit (2 : Nat)) [(0 : Nat), (1 : Nat), (2 : Nat), (7 : Nat), (9 : Nat), (10 : Nat), (11 : Nat), (45 : Nat), (46 : Nat)] (fun x => True) (fun x_1 => [ls o r, I i, I j, I n, I (↑(sm (rel o) o.length x) : Int), I (↑x : Int), AV.bool (fsB (rel o) x o.length), I (↑o.length : Int), I (↑x : Int)]) (fun x => H.mk [] ts []) fun y => [Ans.btold (64 : Nat) false, Ans.o (Orc.val 107 (I (↑(x + (1 : Nat)) : Int)) H.nil)]]], fun u => of_eq ((↑x : Int) < (↑o.length : Int) ∧ LoopS (Env.mk Try.prog (Sof [c20t.to, c30t.to, c24t.to, c26.to, c27.to, c19x.to]) (Pof (P := Try.prog) []) H.nil.base (300 : Nat)) (loopAt Try.f10 (1 : Nat)) (198 : Nat) [(0 : Nat), (1 : Nat), (2 : Nat), (7 : Nat), (9 : Nat), (10 : Nat), (11 : Nat), (45 : Nat), (46 : Nat), (49 : Nat), (50 : Nat), (51 : Nat)] [AV.sl (ints o) o.length r, I i, I j, I n, I (↑(sm (rel o) o.length x) : Int), I (↑x : Int), AV.bool true, I (↑o.length : Int), I (↑x : Int), AV.sl (ints o) o.length r, I (↑o.length : Int), I 0] (H.mk [] ts []) [Out.mk Unit (AX.exit (2 : Nat)) [(0 : Nat), (1 : Nat), (2 : Nat), (7 : Nat), (9 : Nat), (10 : Nat), (11 : Nat), (45 : Nat), (46 : Nat)] (fun x => True) (fun x_1 => [ls o r, I i, I j, I n, I (↑(sm (rel o) o.length x) : Int), I (↑x : Int), AV.bool (fsB (rel o) x o.length), I (↑o.length : Int), I (↑x : Int)]) (fun x => H.mk [] ts []) fun y => [Ans.btold (64 : Nat) false, Ans.o (Orc.val 107 (I (↑(x + (1 : Nat)) : Int)) H.nil)]] ∧ (∀ (y : Unit), True → ∀ (u : Nat → AV), fsB (rel o) x o.length = false ∧ aBin Try.prog BinOp.add (3 : Nat) (I (↑x : Int)) (I 1) = some (I (↑(x + (1 : Nat)) : Int)) ∧ (198 : Nat) = (198 : Nat) ∧ x < o.length ∧ Keep (∃ ts_1, H.mk [] ts [] = H.mk [] ts_1 [] ∧ [AV.sl (ints o) o.length r, I i, I j, I n, I (↑(sm (rel o) o.length x) : Int), I (↑o.length : Int), I (↑(x + (1 : Nat)) : Int)] = [AV.sl (ints o) o.length r, I i, I j, I n, I (↑(sm (rel o) o.length (x + (1 : Nat))) : Int), I (↑o.length : Int), I (↑(x + (1 : Nat)) : Int)])) ∧ True) (by kernel_rfl) ?_⟩
      refine ⟨by first | with_reducible assumption | omega | assumption, ?_⟩
      refine ⟨hl1, ?_⟩
      refine And.intro ?_ ?_
      · skip
        intro y
        intro w1
        intro u
        refine ⟨by first | with_reducible assumption | omega | assumption, ?_⟩
        refine ⟨told_add (by with_reducible assumption), ?_⟩
        refine ⟨by first | with_reducible assumption | omega | assumption, ?_⟩
        refine ⟨by first | with_reducible assumption | omega | assumption, ?_⟩
        exact ⟨ts, rfl, by rw [hsm]⟩
      · skip
        trivial
    · have hsm : sm (rel o) o.length (x + 1) = sm (rel o) o.length x + ct (lsR (rel o) x) (o.length - 1) (alls (o.length - 1)) := by rw [sm, sumN, lsC, if_pos (by rw [hm, hf])]
      by_cases hn1 : (o.length : Int) = 1
      · have e1 : o.length - 1 = 0 := by omega
        rw [e1] at hsm
        have hsm : sm (rel o) o.length (x + 1) = sm (rel o) o.length x + 1 := hsm
        have ev1 : IntKind.i64.wrap (((sm (rel o) o.length x : Nat) : Int) + 1) = ((sm (rel o) o.length (x + 1) : Nat) : Int) := by rw [hsm, wr _ (by omega) (by omega)]; omega
        refine ⟨[Ans.o (Orc.b true), Ans.loop is1 [Out.mk Unit (AX.exit (2 : Nat)) [(0 : Nat), (1 : Nat), (2 : Nat), (7 : Nat), (9 : Nat), (10 : Nat), (11 : Nat), (45 : Nat), (46 : Nat)] (fun x => True) (fun x_1 => [ls o r, I i, I j, I n, I (↑(sm (rel o) o.length x) : Int), I (↑x : Int), AV.bool (fsB (rel o) x o.length), I (↑o.length : Int), I (↑x : Int)]) (fun x => H.mk [] ts []) fun y => [Ans.btold (64 : Nat) true, Ans.o (Orc.b true), Ans.o (Orc.val 70 (I (↑(sm (rel o) o.length (x + (1 : Nat))) : Int)) H.nil), Ans.o (Orc.val 107 (I (↑(x + (1 : Nat)) : Int)) H.nil)]]], fun u => of_eq ((↑x : Int) < (↑o.length : Int) ∧ LoopS (Env.mk Try.prog (Sof [c20t.to, c30t.to, c24t.to, c26.to, c27.to, c19x.to]) (Pof (P := Try.prog) []) H.nil.base (300 : Nat)) (loopAt Try.f10 (1 : Nat)) (198 : Nat) [(0 : Nat), (1 : Nat), (2 : Nat), (7 : Nat), (9 : Nat), (10 : Nat), (11 : Nat), (45 : Nat), (46 : Nat), (49 : Nat), (50 : Nat), (51 : Nat)] [AV.sl (ints o) o.length r, I i, I j, I n, I (↑(sm (rel o) o.length x) : Int), I (↑x : Int), AV.bool true, I (↑o.length : Int), I (↑x : Int), AV.sl (ints o) o.length r, I (↑o.length : Int), I 0] (H.mk [] ts []) [Out.mk Unit (AX.exit (2 : Nat)) [(0 : Nat), (1 : Nat), (2 : Nat), (7 : Nat), (9 : Nat), (10 : Nat), (11 : Nat), (45 : Nat), (46 : Nat)] (fun x => True) (fun x_1 => [ls o r, I i, I j, I n, I (↑(sm (rel o) o.length x) : Int), I (↑x : Int), AV.bool (fsB (rel o) x o.length), I (↑o.length : Int), I (↑x : Int)]) (fun x => H.mk [] ts []) fun y => [Ans.btold (64 : Nat) true, Ans.o (Orc.b true), Ans.o (Orc.val 70 (I (↑(sm (rel o) o.length (x + (1 : Nat))) : Int)) H.nil), Ans.o (Orc.val 107 (I (↑(x + (1 : Nat)) : Int)) H.nil)]] ∧ (∀ (y : Unit), True → ∀ (u : Nat → AV), fsB (rel o) x o.length = true ∧ (↑o.length : Int) = (1 : Int) ∧ aBin Try.prog BinOp.add (3 : Nat) (I (↑(sm (rel o) o.length x) : Int)) (I 1) = some (I (↑(sm (rel o) o.length (x + (1 : Nat))) : Int)) ∧ aBin Try.prog BinOp.add (3 : Nat) (I (↑x : Int)) (I 1) = some (I (↑(x + (1 : Nat)) : Int)) ∧ (198 : Nat) = (198 : Nat) ∧ x < o.length ∧ Keep (∃ ts_1, H.mk [] ts [] = H.mk [] ts_1 [] ∧ [AV.sl (ints o) o.length r, I i, I j, I n, I (↑(sm (rel o) o.length (x + (1 : Nat))) : Int), I (↑o.length : Int), I (↑(x + (1 : Nat)) : Int)] = [AV.sl (ints o) o.length r, I i, I j, I n, I (↑(sm (rel o) o.length (x + (1 : Nat))) : Int), I (↑o.length : Int), I (↑(x + (1 : Nat)) : Int)])) ∧ True) (by kernel_rfl) ?_⟩
        refine ⟨by first | with_reducible assumption | omega | assumption, ?_⟩
        refine ⟨hl1, ?_⟩
        refine And.intro ?_ ?_
        · skip
          intro y
          intro w1
          intro u
          refine ⟨by first | with_reducible assumption | omega | assumption, ?_⟩
          refine ⟨by first | with_reducible assumption | omega | assumption, ?_⟩
          refine ⟨told_add (by with_reducible assumption), ?_⟩
          refine ⟨told_add (by with_reducible assumption), ?_⟩
          refine ⟨by first | with_reducible assumption | omega | assumption, ?_⟩
          refine ⟨by first | with_reducible assumption | omega | assumption, ?_⟩
          exact ⟨ts, rfl, rfl⟩
        · skip
          trivial
      · have hn1 : (o.length : Int) ≠ 1 := hn1
        have hl2 := lp10c c19x o r h i j n (sm (rel o) o.length x : Nat) x hz' ts
        have hlo := ls_od hod hz'
        have hle : lsl o x o.length = rl (o.length - 1) (lsR (rel o) x) := by rw [lsl, cnt_n hz']
        have ho2 : OrdL (lsl o x o.length) := by rw [hle]; exact rl_ord hlo (by omega) (by omega)
        have hp2 : pI (lsl o x o.length) (rm ts.length (lsl o x o.length)) := by rw [hle]; exact rl_pI hlo (by omega) (rok_rm _ _)
        have hct : ctO (lsl o x o.length) = ct (lsR (rel o) x) (o.length - 1) (alls (o.length - 1)) := by rw [hle]; exact ctO_rl hlo.rg
        have ev1 : IntKind.i64.wrap (((sm (rel o) o.length x : Nat) : Int) + ((ctO (lsl o x o.length) : Nat) : Int)) = ((sm (rel o) o.length (x + 1) : Nat) : Int) := by rw [hct, hsm, wr _ (by omega) (by omega)]; omega
        refine ⟨[Ans.o (Orc.b true), Ans.loop is1 [Out.mk Unit (AX.exit (2 : Nat)) [(0 : Nat), (1 : Nat), (2 : Nat), (7 : Nat), (9 : Nat), (10 : Nat), (11 : Nat), (45 : Nat), (46 : Nat)] (fun x => True) (fun x_1 => [ls o r, I i, I j, I n, I (↑(sm (rel o) o.length x) : Int), I (↑x : Int), AV.bool (fsB (rel o) x o.length), I (↑o.length : Int), I (↑x : Int)]) (fun x => H.mk [] ts []) fun y => [Ans.btold (64 : Nat) true, Ans.o (Orc.b false), Ans.loop is2 [Out.mk Unit (AX.exit (4 : Nat)) [(0 : Nat), (1 : Nat), (2 : Nat), (7 : Nat), (9 : Nat), (10 : Nat), (14 : Nat), (45 : Nat), (46 : Nat)] (fun x => True) (fun x_1 => [ls o r, I i, I j, I n, I (↑(sm (rel o) o.length x) : Int), I (↑x : Int), slg ts (lsl o x o.length), I (↑o.length : Int), I (↑x : Int)]) (fun x_1 => H.mk [] (tkp ts (lsl o x o.length)) []) fun y => [Ans.o (Orc.val 99 (AV.tup [I (↑(ctO (lsl o x o.length)) : Int), I 0]) (H.mk [] (tkp ts (lsl o x o.length)) [])), Ans.o Orc.dflt, Ans.o (Orc.val 106 (I (↑(sm (rel o) o.length (x + (1 : Nat))) : Int)) H.nil), Ans.o (Orc.val 107 (I (↑(x + (1 : Nat)) : Int)) H.nil)]]]]], fun u => of_eq ((↑x : Int) < (↑o.length : Int) ∧ LoopS (Env.mk Try.prog (Sof [c20t.to, c30t.to, c24t.to, c26.to, c27.to, c19x.to]) (Pof (P := Try.prog) []) H.nil.base (300 : Nat)) (loopAt Try.f10 (1 : Nat)) (198 : Nat) [(0 : Nat), (1 : Nat), (2 : Nat), (7 : Nat), (9 : Nat), (10 : Nat), (11 : Nat), (45 : Nat), (46 : Nat), (49 : Nat), (50 : Nat), (51 : Nat)] [AV.sl (ints o) o.length r, I i, I j, I n, I (↑(sm (rel o) o.length x) : Int), I (↑x : Int), AV.bool true, I (↑o.length : Int), I (↑x : Int), AV.sl (ints o) o.length r, I (↑o.length : Int), I 0] (H.mk [] ts []) [Out.mk Unit (AX.exit (2 : Nat)) [(0 : Nat), (1 : Nat), (2 : Nat), (7 : Nat), (9 : Nat), (10 : Nat), (11 : Nat), (45 : Nat), (46 : Nat)] (fun x => True) (fun x_1 => [ls o r, I i, I j, I n, I (↑(sm (rel o) o.length x) : Int), I (↑x : Int), AV.bool (fsB (rel o) x o.length), I (↑o.length : Int), I (↑x : Int)]) (fun x => H.mk [] ts []) fun y => [Ans.btold (64 : Nat) true, Ans.o (Orc.b false), Ans.loop is2 [Out.mk Unit (AX.exit (4 : Nat)) [(0 : Nat), (1 : Nat), (2 : Nat), (7 : Nat), (9 : Nat), (10 : Nat), (14 : Nat), (45 : Nat), (46 : Nat)] (fun x => True) (fun x_1 => [ls o r, I i, I j, I n, I (↑(sm (rel o) o.length x) : Int), I (↑x : Int), slg ts (lsl o x o.length), I (↑o.length : Int), I (↑x : Int)]) (fun x_1 => H.mk [] (tkp ts (lsl o x o.length)) []) fun y => [Ans.o (Orc.val 99 (AV.tup [I (↑(ctO (lsl o x o.length)) : Int), I 0]) (H.mk [] (tkp ts (lsl o x o.length)) [])), Ans.o Orc.dflt, Ans.o (Orc.val 106 (I (↑(sm (rel o) o.length (x + (1 : Nat))) : Int)) H.nil), Ans.o (Orc.val 107 (I (↑(x + (1 : Nat)) : Int)) H.nil)]]]] ∧ (∀ (y : Unit), True → ∀ (u : Nat → AV), fsB (rel o) x o.length = true ∧ (↑o.length : Int) ≠ (1 : Int) ∧ LoopS (Env.mk Try.prog (Sof [c20t.to, c30t.to, c24t.to, c26.to, c27.to, c19x.to]) (Pof (P := Try.prog) []) H.nil.base (300 : Nat)) (loopAt Try.f10 (2 : Nat)) (198 : Nat) [(0 : Nat), (1 : Nat), (2 : Nat), (7 : Nat), (9 : Nat), (10 : Nat), (14 : Nat), (45 : Nat), (46 : Nat), (71 : Nat), (72 : Nat), (73 : Nat)] [AV.sl (ints o) o.length r, I i, I j, I n, I (↑(sm (rel o) o.length x) : Int), I (↑x : Int), AV.sl [] (0 : Nat) Room.nil, I (↑o.length : Int), I (↑x : Int), AV.sl (ints o) o.length r, I (↑o.length : Int), I 0] (H.mk [] ts []) [Out.mk Unit (AX.exit (4 : Nat)) [(0 : Nat), (1 : Nat), (2 : Nat), (7 : Nat), (9 : Nat), (10 : Nat), (14 : Nat), (45 : Nat), (46 : Nat)] (fun x => True) (fun x_1 => [ls o r, I i, I j, I n, I (↑(sm (rel o) o.length x) : Int), I (↑x : Int), slg ts (lsl o x o.length), I (↑o.length : Int), I (↑x : Int)]) (fun x_1 => H.mk [] (tkp ts (lsl o x o.length)) []) fun y => [Ans.o (Orc.val 99 (AV.tup [I (↑(ctO (lsl o x o.length)) : Int), I 0]) (H.mk [] (tkp ts (lsl o x o.length)) [])), Ans.o Orc.dflt, Ans.o (Orc.val 106 (I (↑(sm (rel o) o.length (x + (1 : Nat))) : Int)) H.nil), Ans.o (Orc.val 107 (I (↑(x + (1 : Nat)) : Int)) H.nil)]] ∧ (∀ (y : Unit), True → ∀ (u : Nat → AV), aCall (Sof [c20t.to, c30t.to, c24t.to, c26.to, c27.to, c19x.to]) (AV.fn (Fn.func (30 : Nat)) [] []) [AV.sl (ints (lsl o x o.length)) (lsl o x o.length).length (rm ts.length (lsl o x o.length))] (H.mk [] (tkp ts (lsl o x o.length)) []) = some (AV.tup [I (↑(ctO (lsl o x o.length)) : Int), I 0], H.mk [] (tkp ts (lsl o x o.length)) []) ∧ aBin Try.prog BinOp.add (3 : Nat) (I (↑(sm (rel o) o.length x) : Int)) (I (↑(ctO (lsl o x o.length)) : Int)) = some (I (↑(sm (rel o) o.length (x + (1 : Nat))) : Int)) ∧ aBin Try.prog BinOp.add (3 : Nat) (I (↑x : Int)) (I 1) = some (I (↑(x + (1 : Nat)) : Int)) ∧ (198 : Nat) = (198 : Nat) ∧ x < o.length ∧ Keep (∃ ts_1, H.mk [] (tkp ts (lsl o x o.length)) [] = H.mk [] ts_1 [] ∧ [AV.sl (ints o) o.length r, I i, I j, I n, I (↑(sm (rel o) o.length (x + (1 : Nat))) : Int), I (↑o.length : Int), I (↑(x + (1 : Nat)) : Int)] = [AV.sl (ints o) o.length r, I i, I j, I n, I (↑(sm (rel o) o.length (x + (1 : Nat))) : Int), I (↑o.length : Int), I (↑(x + (1 : Nat)) : Int)])) ∧ True) ∧ True) (by kernel_rfl) ?_⟩
        refine ⟨by first | with_reducible assumption | omega | assumption, ?_⟩
        refine ⟨hl1, ?_⟩
        refine And.intro ?_ ?_
        · skip
          intro y
          intro w1
          intro u
          refine ⟨by first | with_reducible assumption | omega | assumption, ?_⟩
          refine ⟨by first | with_reducible assumption | omega | assumption, ?_⟩
          refine ⟨hl2, ?_⟩
          refine And.intro ?_ ?_
          · skip
            intro y
            intro w4
            intro u
            refine ⟨acall_hit (c := c30t.to) ((lsl o x o.length, rm ts.length (lsl o x o.length)) : List Int × Room) _ rfl ⟨hp2, ho2⟩, ?_⟩
            refine ⟨told_add (by with_reducible assumption), ?_⟩
            refine ⟨told_add (by with_reducible assumption), ?_⟩
            refine ⟨by first | with_reducible assumption | omega | assumption, ?_⟩
            refine ⟨by first | with_reducible assumption | omega | assumption, ?_⟩
            exact ⟨_, rfl, rfl⟩
          · skip
            trivial
        · skip
          trivial
  · have hz : (o.length : Int) ≤ x := by omega
    have hx' : x = o.length := by omega
    subst hx'
    refine ⟨[Ans.o (Orc.b false)], fun u => of_eq ((↑o.length : Int) ≤ (↑o.length : Int) ∧ (198 : Nat) = (198 : Nat) ∧ hits [Out.mk (List Nat) (AX.exit (0 : Nat)) [(0 : Nat), (1 : Nat), (2 : Nat), (7 : Nat), (9 : Nat)] (fun x => True) (fun x => [ls o r, I i, I j, I n, I (↑(sm (rel o) o.length o.length) : Int)]) (fun ts => H.mk [] ts []) fun x => []] (AX.exit (0 : Nat)) [AV.sl (ints o) o.length r, I i, I j, u (3 : Nat), u (4 : Nat), u (5 : Nat), u (6 : Nat), I n, u (8 : Nat), I (↑(sm (rel o) o.length o.length) : Int), u (10 : Nat), u (11 : Nat), u (12 : Nat), u (13 : Nat), u (14 : Nat), u (15 : Nat), u (16 : Nat), u (17 : Nat), u (18 : Nat), u (19 : Nat), u (20 : Nat), u (21 : Nat), u (22 : Nat), u (23 : Nat), u (24 : Nat), u (25 : Nat), u (26 : Nat), u (27 : Nat), u (28 : Nat), u (29 : Nat), u (30 : Nat), u (31 : Nat), u (32 : Nat), u (33 : Nat), u (34 : Nat), u (35 : Nat), u (36 : Nat), u (37 : Nat), u (38 : Nat), u (39 : Nat), u (40 : Nat), u (41 : Nat), u (42 : Nat), u (43 : Nat), u (44 : Nat), I (↑o.length : Int), I (↑o.length : Int), AV.bool false, u (48 : Nat), u (49 : Nat), u (50 : Nat), u (51 : Nat), u (52 : Nat), u (53 : Nat), u (54 : Nat), u (55 : Nat), u (56 : Nat), u (57 : Nat), u (58 : Nat), u (59 : Nat), u (60 : Nat), u (61 : Nat), u (62 : Nat), u (63 : Nat), u (64 : Nat), u (65 : Nat), u (66 : Nat), u (67 : Nat), u (68 : Nat), u (69 : Nat), u (70 : Nat), u (71 : Nat), u (72 : Nat), u (73 : Nat), u (74 : Nat), u (75 : Nat), u (76 : Nat), u (77 : Nat), u (78 : Nat), u (79 : Nat), u (80 : Nat), u (81 : Nat), u (82 : Nat), u (83 : Nat), u (84 : Nat), u (85 : Nat), u (86 : Nat), u (87 : Nat), u (88 : Nat), u (89 : Nat), u (90 : Nat), u (91 : Nat), u (92 : Nat), u (93 : Nat), u (94 : Nat), u (95 : Nat), u (96 : Nat), u (97 : Nat), u (98 : Nat), u (99 : Nat), u (100 : Nat), u (101 : Nat), u (102 : Nat), u (103 : Nat), u (104 : Nat), u (105 : Nat), u (106 : Nat), u (107 : Nat), u (108 : Nat), u (109 : Nat), u (110 : Nat), u (111 : Nat), u (112 : Nat), u (113 : Nat), u (114 : Nat), u (115 : Nat), u (116 : Nat), u (117 : Nat), u (118 : Nat), u (119 : Nat), u (120 : Nat), u (121 : Nat), u (122 : Nat), u (123 : Nat), u (124 : Nat), u (125 : Nat), u (126 : Nat), u (127 : Nat), u (128 : Nat), u (129 : Nat), u (130 : Nat), u (131 : Nat), u (132 : Nat), u (133 : Nat), u (134 : Nat), u (135 : Nat), u (136 : Nat), u (137 : Nat), u (138 : Nat), u (139 : Nat), u (140 : Nat), u (141 : Nat), u (142 : Nat), u (143 : Nat), u (144 : Nat), u (145 : Nat), u (146 : Nat), u (147 : Nat), u (148 : Nat), u (149 : Nat), u (150 : Nat), u (151 : Nat), u (152 : Nat), u (153 : Nat), u (154 : Nat), u (155 : Nat), u (156 : Nat), u (157 : Nat), u (158 : Nat), u (159 : Nat), u (160 : Nat), u (161 : Nat), u (162 : Nat), u (163 : Nat), u (164 : Nat), u (165 : Nat), u (166 : Nat), u (167 : Nat), u (168 : Nat), u (169 : Nat), u (170 : Nat), u (171 : Nat), u (172 : Nat), u (173 : Nat), u (174 : Nat), u (175 : Nat), u (176 : Nat), u (177 : Nat), u (178 : Nat), u (179 : Nat), u (180 : Nat), u (181 : Nat), u (182 : Nat), u (183 : Nat), u (184 : Nat), u (185 : Nat), u (186 : Nat), u (187 : Nat), u (188 : Nat), u (189 : Nat), u (190 : Nat), u (191 : Nat), u (192 : Nat), u (193 : Nat), u (194 : Nat), u (195 : Nat), u (196 : Nat), u (197 : Nat)] (H.mk [] ts [])) (by kernel_rfl) ?_⟩
    refine ⟨by first | with_reducible assumption | omega | assumption, ?_⟩
    refine ⟨by first | with_reducible assumption | omega | assumption, ?_⟩
    exact .inl ⟨ts, trivial, rfl, rfl, rfl⟩
end Go.Proofs.Ord

