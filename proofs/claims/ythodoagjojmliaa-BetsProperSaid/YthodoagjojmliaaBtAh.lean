/- Layer 9: the law of proper scores (P9.12). -/
import Derived.Test.YthodoagjojmliaaBtAg
import Derived.Test.YthodoagjojmliaaBtR
import Derived.KernelRfl
set_option linter.unusedSimpArgs false
set_option linter.unusedVariables false
set_option linter.unnecessarySimpa false
set_option maxHeartbeats 4000000
set_option maxRecDepth 100000
namespace Go.Proofs.Bts
open Go Go.VM

abbrev o15b (x y : Pr) (ts : List Nat) (M S U0 V0 g : Int) : List Out := [.mk Unit (.exit 2) [9, 10, 13, 14, 15] (fun _ => True) (fun _ => [I M, I S, I U0, I V0, I g]) (fun _ => hZ x y ts) (fun _ => [])]
theorem simp15b : allSimpleM M21 (loopAt Try.f15 1) = true := by kernel_rfl
theorem lp15b (x y : Pr) (ts : List Nat) (M S U0 V0 : Int) (hv : nn6 V0) : LoopS E15 (loopAt Try.f15 1) 222 [9, 10, 13, 14, 15, 16] [I M, I S, I U0, I V0, I (abI U0), I V0] (hZ x y ts) (o15b x y ts M S U0 V0 (gcI (abI U0) V0)) := by
  have hR : Rests E15 M21 := rests mixed ct15
  refine loop_s hR simp15b none (by intro _ h; cases h) (fun j vs H => H = hZ x y ts ∧ ∃ a b : Int, vs = [I M, I S, I U0, I V0, I a, I b] ∧ nn6 a ∧ nn6 b ∧ gcI a b = gcI (abI U0) V0 ∧ b.toNat + j ≤ V0.toNat) V0.toNat ⟨rfl, abI U0, V0, rfl, abI_nn U0, hv, rfl, by omega⟩ (by intro _ h; cases h) ?_
  rintro j vs H hj ⟨rfl, a, b, rfl, ha, hb, hg, hle⟩
  by_cases hz : b = 0
  · have e : a = gcI (abI U0) V0 := by
      rw [← hg, hz]
      have ha : 0 ≤ a := ha
      show a = ((Nat.gcd a.toNat 0 : Nat) : Int)
      rw [Nat.gcd_zero_right]; omega
    subst hz
    rw [← e]
    refine ⟨[Ans.o Orc.dflt], fun u => of_eq ((222 : Nat) = (222 : Nat) ∧ hits [Out.mk Unit (AX.exit (2 : Nat)) [(9 : Nat), (10 : Nat), (13 : Nat), (14 : Nat), (15 : Nat)] (fun x => True) (fun x => [I M, I S, I U0, I V0, I a]) (fun x_1 => hZ x y ts) fun x => []] (AX.exit (2 : Nat)) [u (0 : Nat), u (1 : Nat), u (2 : Nat), u (3 : Nat), u (4 : Nat), u (5 : Nat), u (6 : Nat), u (7 : Nat), u (8 : Nat), I M, I S, u (11 : Nat), u (12 : Nat), I U0, I V0, I a, I 0, u (17 : Nat), u (18 : Nat), u (19 : Nat), u (20 : Nat), u (21 : Nat), u (22 : Nat), u (23 : Nat), u (24 : Nat), u (25 : Nat), u (26 : Nat), u (27 : Nat), u (28 : Nat), u (29 : Nat), u (30 : Nat), u (31 : Nat), u (32 : Nat), u (33 : Nat), u (34 : Nat), u (35 : Nat), u (36 : Nat), u (37 : Nat), u (38 : Nat), u (39 : Nat), u (40 : Nat), u (41 : Nat), u (42 : Nat), u (43 : Nat), u (44 : Nat), u (45 : Nat), u (46 : Nat), u (47 : Nat), u (48 : Nat), u (49 : Nat), u (50 : Nat), u (51 : Nat), u (52 : Nat), u (53 : Nat), u (54 : Nat), u (55 : Nat), u (56 : Nat), u (57 : Nat), u (58 : Nat), u (59 : Nat), u (60 : Nat), u (61 : Nat), u (62 : Nat), u (63 : Nat), u (64 : Nat), u (65 : Nat), u (66 : Nat), u (67 : Nat), u (68 : Nat), u (69 : Nat), u (70 : Nat), u (71 : Nat), u (72 : Nat), u (73 : Nat), u (74 : Nat), u (75 : Nat), u (76 : Nat), u (77 : Nat), u (78 : Nat), u (79 : Nat), u (80 : Nat), u (81 : Nat), u (82 : Nat), u (83 : Nat), u (84 : Nat), u (85 : Nat), u (86 : Nat), u (87 : Nat), u (88 : Nat), u (89 : Nat), u (90 : Nat), u (91 : Nat), u (92 : Nat), u (93 : Nat), u (94 : Nat), u (95 : Nat), u (96 : Nat), u (97 : Nat), u (98 : Nat), u (99 : Nat), u (100 : Nat), u (101 : Nat), u (102 : Nat), u (103 : Nat), u (104 : Nat), u (105 : Nat), u (106 : Nat), u (107 : Nat), u (108 : Nat), u (109 : Nat), u (110 : Nat), u (111 : Nat), u (112 : Nat), u (113 : Nat), u (114 : Nat), u (115 : Nat), u (116 : Nat), u (117 : Nat), u (118 : Nat), u (119 : Nat), u (120 : Nat), u (121 : Nat), u (122 : Nat), u (123 : Nat), u (124 : Nat), u (125 : Nat), u (126 : Nat), u (127 : Nat), u (128 : Nat), u (129 : Nat), u (130 : Nat), u (131 : Nat), u (132 : Nat), u (133 : Nat), u (134 : Nat), u (135 : Nat), u (136 : Nat), u (137 : Nat), u (138 : Nat), u (139 : Nat), u (140 : Nat), u (141 : Nat), u (142 : Nat), u (143 : Nat), u (144 : Nat), u (145 : Nat), u (146 : Nat), u (147 : Nat), u (148 : Nat), u (149 : Nat), u (150 : Nat), u (151 : Nat), u (152 : Nat), u (153 : Nat), u (154 : Nat), u (155 : Nat), u (156 : Nat), u (157 : Nat), u (158 : Nat), u (159 : Nat), u (160 : Nat), u (161 : Nat), u (162 : Nat), u (163 : Nat), u (164 : Nat), u (165 : Nat), u (166 : Nat), u (167 : Nat), u (168 : Nat), u (169 : Nat), u (170 : Nat), u (171 : Nat), u (172 : Nat), u (173 : Nat), u (174 : Nat), u (175 : Nat), u (176 : Nat), u (177 : Nat), u (178 : Nat), u (179 : Nat), u (180 : Nat), u (181 : Nat), u (182 : Nat), u (183 : Nat), u (184 : Nat), u (185 : Nat), u (186 : Nat), u (187 : Nat), u (188 : Nat), u (189 : Nat), I 0, AV.bool false, u (192 : Nat), u (193 : Nat), u (194 : Nat), u (195 : Nat), u (196 : Nat), u (197 : Nat), u (198 : Nat), u (199 : Nat), u (200 : Nat), u (201 : Nat), u (202 : Nat), u (203 : Nat), u (204 : Nat), u (205 : Nat), u (206 : Nat), u (207 : Nat), u (208 : Nat), u (209 : Nat), u (210 : Nat), u (211 : Nat), u (212 : Nat), u (213 : Nat), u (214 : Nat), u (215 : Nat), u (216 : Nat), u (217 : Nat), u (218 : Nat), u (219 : Nat), u (220 : Nat), u (221 : Nat)] (H.mk [[I x.fst, I x.snd], [I y.fst, I y.snd]] ts [])) (by kernel_rfl) ?_⟩
    refine ⟨by first | with_reducible assumption | omega | assumption, ?_⟩
    exact .inl ⟨(), trivial, rfl, rfl, rfl⟩
  · have hz : b ≠ 0 := hz
    have ha : 0 ≤ a := ha
    have hb : 0 ≤ b := hb
    obtain ⟨X, rfl⟩ : ∃ X : Nat, a = X := ⟨a.toNat, by omega⟩
    obtain ⟨Y, rfl⟩ : ∃ Y : Nat, b = Y := ⟨b.toNat, by omega⟩
    have hm : X % Y < Y := Nat.mod_lt _ (by omega)
    have ev0 : (X : Int).tmod (Y : Int) = ((X % Y : Nat) : Int) := by rw [Int.ofNat_tmod]
    have hg2 : gcI (Y : Nat) ((X % Y : Nat) : Int) = gcI (abI U0) V0 := by
      rw [← hg]
      show ((Nat.gcd (Y : Int).toNat ((X % Y : Nat) : Int).toNat : Nat) : Int) = ((Nat.gcd (X : Int).toNat (Y : Int).toNat : Nat) : Int)
      rw [Int.toNat_natCast, Int.toNat_natCast, Int.toNat_natCast, Nat.gcd_comm X Y, Nat.gcd_rec Y X, Nat.gcd_comm]
    have h1 : nn6 ((X % Y : Nat) : Int) := Int.natCast_nonneg _
    have h2 : ((X % Y : Nat) : Int).toNat + (j + 1) ≤ V0.toNat := by rw [Int.toNat_natCast]; rw [Int.toNat_natCast] at hle; omega
    have h3 : nn6 ((Y : Nat) : Int) := Int.natCast_nonneg _
    refine ⟨[Ans.o (Orc.b true), Ans.o (Orc.val 195 (I (↑(X % Y) : Int)) H.nil)], fun u => of_eq ((↑Y : Int) ≠ (0 : Int) ∧ aBin Try.prog BinOp.rem (3 : Nat) (I (↑X : Int)) (I (↑Y : Int)) = some (I (↑(X % Y) : Int)) ∧ (222 : Nat) = (222 : Nat) ∧ j < V0.toNat ∧ Keep (H.mk [[I x.fst, I x.snd], [I y.fst, I y.snd]] ts [] = H.mk [[I x.fst, I x.snd], [I y.fst, I y.snd]] ts [] ∧ ∃ a b, [I M, I S, I U0, I V0, I (↑Y : Int), I (↑(X % Y) : Int)] = [I M, I S, I U0, I V0, I a, I b] ∧ nn6 a ∧ nn6 b ∧ gcI a b = gcI (abI U0) V0 ∧ b.toNat + (j + (1 : Nat)) ≤ V0.toNat)) (by kernel_rfl) ?_⟩
    refine ⟨by first | with_reducible assumption | omega | assumption, ?_⟩
    refine ⟨told_rem (by first | decide | omega) (by with_reducible assumption), ?_⟩
    refine ⟨by first | with_reducible assumption | omega | assumption, ?_⟩
    refine ⟨by first | with_reducible assumption | omega | assumption, ?_⟩
    exact ⟨rfl, _, _, rfl, h3, h1, hg2, h2⟩
/-- the averages' numbers -/
structure Prp (l m : List Pr) : Prop where
  x2 : 1 ≤ (mnP (cutp l) (cutp m)).2
  y2 : 1 ≤ (mnP (cutp m) (cutp m)).2
  x : -(mnP (cutp l) (cutp m)).2 ≤ (mnP (cutp l) (cutp m)).1 ∧ (mnP (cutp l) (cutp m)).1 ≤ (mnP (cutp l) (cutp m)).2
  y : -(mnP (cutp m) (cutp m)).2 ≤ (mnP (cutp m) (cutp m)).1 ∧ (mnP (cutp m) (cutp m)).1 ≤ (mnP (cutp m) (cutp m)).2
  big : ∀ M : Int, M = (cmM l m : Nat) → M ≤ 1000 → (mnP (cutp l) (cutp m)).2 ≤ 1000000000 ∧ (mnP (cutp m) (cutp m)).2 ≤ 1000000000
  eq : ∀ p q : Int, ((cmM l m : Nat) : Int) = stD l * p → ((cmM l m : Nat) : Int) = stD m * q → 1 ≤ p → 1 ≤ q → ((mnP (cutp m) (cutp m)).1 * (mnP (cutp l) (cutp m)).2 - (mnP (cutp l) (cutp m)).1 * (mnP (cutp m) (cutp m)).2) * ((cmM l m : Nat) * (cmM l m : Nat)) = sqD (nums l) (nums m) p q l.length * ((mnP (cutp l) (cutp m)).2 * (mnP (cutp m) (cutp m)).2)
theorem prp {l m : List Pr} (hl : fcB l = true) (hm : fcB m = true) (hn : l.length = m.length) : Prp l m := by
  have cl := cutp_fi hl
  have cm := cutp_fi hm
  have hx : mnP (cutp l) (cutp m) = lw (avN (nums l) (stD l) (nums m) (stD m)) (avD (stD l) (stD m)) := by
    rw [(mn_t (l := cutp l) (m := cutp m) (by rw [cl]; exact hl) (by rw [cm]; exact hm) (by rw [cl, cm]; exact hn)).1]
    rw [cl, cm, (fcB_d hl).1, (fcB_d hl).2, (fcB_d hm).1, (fcB_d hm).2]
  have hy : mnP (cutp m) (cutp m) = lw (avN (nums m) (stD m) (nums m) (stD m)) (avD (stD m) (stD m)) := by
    rw [(mn_t (l := cutp m) (m := cutp m) (by rw [cm]; exact hm) (by rw [cm]; exact hm) rfl).1]
    rw [cm, (fcB_d hm).1, (fcB_d hm).2]
  obtain ⟨⟨h1, h2⟩, h3⟩ := fcB_b hl
  obtain ⟨⟨g1, g2⟩, g3⟩ := fcB_b hm
  have el : (nums l).length = l.length := nmL_len _ _
  have em : (nums m).length = m.length := nmL_len _ _
  have pl := dn_pos h2.1 (j := l.length) (Nat.le_refl _)
  have pm := dn_pos g2.1 (j := m.length) (Nat.le_refl _)
  have sl := hl
  rw [fcB_t ⟨h1, h2⟩, decide_eq_true_eq] at sl
  have sm := hm
  rw [fcB_t ⟨g1, g2⟩, decide_eq_true_eq] at sm
  have hD : 1 ≤ stD l := by show (1 : Int) ≤ ((dn l l.length : Nat) : Int); omega
  have hE : 1 ≤ stD m := by show (1 : Int) ≤ ((dn m m.length : Nat) : Int); omega
  have b1 := mean_b (a := nums l) (b := nums m) (D := stD l) (E := stD m) (by omega) hD hE (nums_b h2) (nums_b g2) (by rw [el]; exact sl) (by rw [em]; exact sm)
  have b2 := mean_b (a := nums m) (b := nums m) (D := stD m) (E := stD m) rfl hE hE (nums_b g2) (nums_b g2) (by rw [em]; exact sm) (by rw [em]; exact sm)
  have lx := lw_le b1.1 b1.2.1 b1.2.2
  have ly := lw_le b2.1 b2.2.1 b2.2.2
  have mx := lw_mul (N := avN (nums l) (stD l) (nums m) (stD m)) b1.1
  have my := lw_mul (N := avN (nums m) (stD m) (nums m) (stD m)) b2.1
  refine ⟨?_, ?_, ?_, ?_, fun M hM hle => ?_, fun p q e1 e2 hp hq => ?_⟩
  · rw [hx]; exact lx.1.1
  · rw [hy]; exact ly.1.1
  · rw [hx]; exact lx.2.1
  · rw [hy]; exact ly.2.1
  · have d1 : stD l ≤ 1000 := by
      have := Nat.le_of_dvd (mul_app h2 g2 h3 g3).2 (Nat.dvd_lcm_left (dn l l.length) (dn m m.length))
      show ((dn l l.length : Nat) : Int) ≤ _; omega
    have d2 : stD m ≤ 1000 := by
      have := Nat.le_of_dvd (mul_app h2 g2 h3 g3).2 (Nat.dvd_lcm_right (dn l l.length) (dn m m.length))
      show ((dn m m.length : Nat) : Int) ≤ _; omega
    have q1 : avD (stD l) (stD m) ≤ 1000000000 := by
      have k1 := mul_b (x := stD l) (y := stD l) (X := 1000) (Y := 1000) ⟨by omega, d1⟩ ⟨by omega, d1⟩
      have k2 := mul_b (x := stD l * stD l) (y := stD m) (X := 1000 * 1000) (Y := 1000) k1 ⟨by omega, d2⟩
      unfold avD; omega
    have q2 : avD (stD m) (stD m) ≤ 1000000000 := by
      have k1 := mul_b (x := stD m) (y := stD m) (X := 1000) (Y := 1000) ⟨by omega, d2⟩ ⟨by omega, d2⟩
      have k2 := mul_b (x := stD m * stD m) (y := stD m) (X := 1000 * 1000) (Y := 1000) k1 ⟨by omega, d2⟩
      unfold avD; omega
    rw [hx, hy]
    exact ⟨Int.le_trans lx.1.2 q1, Int.le_trans ly.1.2 q2⟩
  · have gap := mean_gap (a := nums l) (b := nums m) (D := stD l) (E := stD m) (p := p) (q := q) (M := (cmM l m : Nat)) (n := l.length) el (by omega) e1 e2
    rw [hx, hy]
    dsimp only [lw]
    obtain ⟨u1, u2, u3⟩ := mx
    obtain ⟨w1, w2, w3⟩ := my
    generalize ((cmM l m : Nat) : Int) * ((cmM l m : Nat) : Int) = W at gap ⊢
    generalize sqD (nums l) (nums m) p q l.length = S at gap ⊢
    generalize avN (nums l) (stD l) (nums m) (stD m) = N1 at u1 u2 u3 gap ⊢
    generalize avD (stD l) (stD m) = Q1 at u1 u2 u3 gap ⊢
    generalize avN (nums m) (stD m) (nums m) (stD m) = N2 at w1 w2 w3 gap ⊢
    generalize avD (stD m) (stD m) = Q2 at w1 w2 w3 gap ⊢
    generalize gcI (abI N1) Q1 = g at u1 u2 u3
    generalize gcI (abI N2) Q2 = k at w1 w2 w3
    generalize lwN N1 Q1 = s at u2 ⊢
    generalize lwD N1 Q1 = t at u3 ⊢
    generalize lwN N2 Q2 = y at w2 ⊢
    generalize lwD N2 Q2 = z at w3 ⊢
    refine Int.eq_of_mul_eq_mul_right (show g * k ≠ 0 by have := Int.mul_pos (show 0 < g by omega) (show 0 < k by omega); omega) ?_
    have f1 : (y * t - s * z) * W * (g * k) = ((y * k) * (t * g) - (s * g) * (z * k)) * W := by grind
    have f2 : S * (t * z) * (g * k) = S * ((t * g) * (z * k)) := by grind
    rw [f1, f2, u2, u3, w2, w3]
    exact gap
end Go.Proofs.Bts

