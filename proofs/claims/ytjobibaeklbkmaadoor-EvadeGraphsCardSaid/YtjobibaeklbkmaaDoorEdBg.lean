/- Layer 8: EvadeGraphs. -/
import Derived.Test.YtjobibaeklbkmaaDoorEdBf
import Derived.KernelRfl
set_option linter.unusedSimpArgs false
set_option linter.unusedVariables false
set_option linter.unnecessarySimpa false
set_option maxHeartbeats 4000000
set_option maxRecDepth 100000
namespace Go.Proofs.Evd
open Go Go.VM
open Go.Proofs.Sur (W w_wrap w_nat w_inj w_eq0 w_and w_or w_andn w_shl w_shr neg_nat sub_nat tz tz_ok cl bits_cons bits_0 bits_len andn andn_bit andn_le i_wrap i_and i_or i_andn i_shl i_shr bit_01)

/-! ### what the least property is -/
theorem sp_rg {m : Nat} (hm : 2 ≤ m ∧ m ≤ 4) {k : List Nat} (h : okS (nP m : Nat) (ic k)) : Rg (nP m) (fix m (fm k)) := by
  have h1 := oks_rg h.2.2
  rw [nl_ic, Int.toNat_natCast] at h1
  exact itr_rg hm h1 64
theorem sp_fm {m : Nat} (hm : 2 ≤ m ∧ m ≤ 4) {k : List Nat} (h : okS (nP m : Nat) (ic k)) : Fm (nP m : Nat) (lst (spV m (fm k))) (spV m (fm k)) := by
  have h1 := nP_1 hm
  have h6 := nP_6 hm.2
  refine ⟨by omega, by omega, ?_, cls_dn _, rfl⟩
  rw [Int.toNat_natCast]
  exact cls_rg (sp_rg hm h)
theorem sp_inv {m : Nat} (hm : 2 ≤ m ∧ m ≤ 4) {k : List Nat} (h : okS (nP m : Nat) (ic k)) : Inv m (spV m (fm k)) := inv_cls (sp_rg hm h) (inv_of (fix_fix m (fm k)))
theorem sp_mem {m : Nat} (hm : 2 ≤ m ∧ m ≤ 4) {k : List Nat} (h : okS (nP m : Nat) (ic k)) {i : Nat} (hi : i < (ic k).length) : ia (ic k) i ∈ lst (spV m (fm k)) := by
  have h6 := nP_6 hm.2
  have h64 := p64 h6
  have hr := h.2.2 i hi
  rw [Int.toNat_natCast] at hr
  obtain ⟨s, hs'⟩ : ∃ s : Nat, ia (ic k) i = s := ⟨(ia (ic k) i).toNat, by omega⟩
  have hm' : ((s : Nat) : Int) ∈ ic k := by rw [← hs']; exact ia_mem hi
  have hk : s ∈ k := by
    simp only [ic, List.mem_map] at hm'
    obtain ⟨a, h1, h2⟩ := hm'
    have : a = s := by omega
    exact this ▸ h1
  have hsl : s < 64 := by omega
  rw [hs']
  refine mem_lst.2 ?_
  exact (cls_bit hsl).2 ⟨s, itr_le m (fm k) 64 s ((fm_bit hsl).2 hk), fun _ h => h⟩
theorem emp_of {F : W} (h : (lst F).length = 0) : hs F 0 = false := by
  cases hb : hs F 0
  · rfl
  · have := mem_lst.2 hb
    rw [List.length_eq_zero_iff.1 h] at this
    cases this
theorem of_emp {F : W} (hd : Dn F) (h : hs F 0 = false) : (lst F).length = 0 := by
  refine Classical.byContradiction fun hc => ?_
  obtain ⟨s, _, h2, _⟩ := ia_lst (F := F) (i := 0) (by omega)
  have := hd 0 s h2 (zero_sub s)
  rw [h] at this; cases this
/-- what a property asks -/
theorem sp_ask {m : Nat} (hm : 2 ≤ m ∧ m ≤ 4) {F : W} (hf : Fm (nP m : Nat) (lst F) F) (hI : Inv m F) :
    (((lst F).length : Int) = 0 → ((askV (nP m : Nat) F : Nat) : Int) = 0) ∧ (((lst F).length : Int) = ((2 ^ nP m : Nat) : Int) → ((askV (nP m : Nat) F : Nat) : Int) = 0) ∧ (¬ ((lst F).length : Int) = 0 → ¬ ((lst F).length : Int) = ((2 ^ nP m : Nat) : Int) → ((askV (nP m : Nat) F : Nat) : Int) = ((nP m : Nat) : Int)) := by
  have h6 := nP_6 hm.2
  have h64 := p64 h6
  have hp := Nat.two_pow_pos (nP m)
  have hl := len_dF hf
  have hdf := dF_fm hf
  have hfull : hs F (2 ^ nP m - 1) = true ↔ hs (dF (nP m) F) 0 = false := by
    have := dF_bit h6 F (s := 0) (by decide)
    rw [Nat.sub_zero] at this
    cases h1 : hs F (2 ^ nP m - 1) <;> cases h2 : hs (dF (nP m) F) 0
    · exact absurd (this.2 ⟨hp, h1⟩) (by rw [h2]; decide)
    · simp
    · simp
    · exact absurd (this.1 h2).2 (by rw [h1]; decide)
  have hstl : stl (2 ^ nP m - 1) F = true → ((askV (nP m : Nat) F : Nat) : Int) = 0 := fun h => by
    rw [askV_nat, ask_stl h]; rfl
  refine ⟨fun h => hstl ?_, fun h => hstl ?_, fun h1 h2 => ?_⟩
  · have := emp_of (F := F) (by omega)
    simp only [stl, this]; cases hs F (2 ^ nP m - 1) <;> rfl
  · have := hfull.2 (emp_of (by omega))
    simp only [stl, this]; rfl
  · have g1 : hs F 0 = true := by
      cases hb : hs F 0
      · exact absurd (of_emp hf.dn hb) (by omega)
      · rfl
    have g2 : hs F (2 ^ nP m - 1) = false := by
      cases hb : hs F (2 ^ nP m - 1)
      · rfl
      · exact absurd (of_emp hdf.dn (hfull.1 hb)) (by omega)
    rw [prop_ask hm hf hI g1 g2]
/-! ### the law -/
abbrev o13 (F : W) (n a : Nat) : List Out := [.mk Unit (.exit 0) [5, 7, 14] (fun _ => True) (fun _ => [ls (lst F) (rn (lst F)), I n, I a]) (fun _ => .nil) (fun _ => [])]
theorem simp13 : allSimpleM none1 (loopAt Tryd.f13 0) = true := by kernel_rfl
theorem lp13 (hR : Rests (En6 [c18i.to, c48g.to, c49.to, c50.to, c21.to, c55f.to, c47t.to, c17g.to, c30g.to, c39g.to, c22.to, c57.to, c26.to]) none1) (l : List Int) (r : Room) (F : W) (n a : Nat) (h0 : l.length ≤ 64) (h1 : rok l r) (hm : ∀ i, i < l.length → ia l i ∈ lst F) :
    LoopS (En6 [c18i.to, c48g.to, c49.to, c50.to, c21.to, c55f.to, c47t.to, c17g.to, c30g.to, c39g.to, c22.to, c57.to, c26.to]) (loopAt Tryd.f13 0) 165 [5, 7, 14, 133, 134, 135] [ls (lst F) (rn (lst F)), I n, I a, ls l r, I l.length, I 0] .nil (o13 F n a) := by
  refine loop_s hR simp13 none (by intro _ h; cases h) (fun j vs h => h = .nil ∧ vs = [ls (lst F) (rn (lst F)), I n, I a, ls l r, I l.length, I j]) l.length ⟨rfl, rfl⟩ (by intro _ h; cases h) ?_
  rintro j vs h hj ⟨rfl, rfl⟩
  by_cases hz : (j : Int) < l.length
  · have hz' : j < l.length := by omega
    have hr1 := rok_idx h1 hz'
    have ev0 : IntKind.i64.wrap ((j : Int) + 1) = ((j + 1 : Nat) : Int) := by rw [wr _ (by omega) (by omega)]; omega
    have hll : lim (lst F).length := by have := lst_len F; simp only [lim]; omega
    have p57 : (lim (lst F).length ∧ rok (lst F) (rn (lst F))) ∧ ia l j ∈ lst F := ⟨⟨hll, rn_rok _⟩, hm j hz'⟩
    refine ⟨[Ans.o (Orc.b true), Ans.o (Orc.val 137 (AV.cptr (ints (List.drop j l))) H.nil), Ans.o (Orc.val 138 (I (l.getD j i0)) H.nil), Ans.o (Orc.val 141 (AV.bool true) (H.mk [] [] [])), Ans.o (Orc.val 143 (I (↑(j + (1 : Nat)) : Int)) H.nil)], fun u => of_eq ((↑j : Int) < (↑l.length : Int) ∧ aIndexAddr Tryd.prog (22 : Nat) (AV.sl (ints l) l.length r) (I (↑j : Int)) = some (AV.cptr (ints (List.drop j l))) ∧ aLoad Tryd.prog (3 : Nat) (ints (List.drop j l)) = some (I (l.getD j i0)) ∧ aCall (Sof [c18i.to, c48g.to, c49.to, c50.to, c21.to, c55f.to, c47t.to, c17g.to, c30g.to, c39g.to, c22.to, c57.to, c26.to]) (AV.fn (Fn.func (57 : Nat)) [] []) [AV.sl (ints (lst F)) (lst F).length (rn (lst F)), I (l.getD j i0)] (H.mk [] [] []) = some (AV.bool true, H.mk [] [] []) ∧ aBin Tryd.prog BinOp.add (3 : Nat) (I (↑j : Int)) (I 1) = some (I (↑(j + (1 : Nat)) : Int)) ∧ (165 : Nat) = (165 : Nat) ∧ j < l.length ∧ Keep (H.mk [] [] [] = H.mk [] [] [] ∧ [AV.sl (ints (lst F)) (lst F).length (rn (lst F)), I (↑n : Int), I (↑a : Int), AV.sl (ints l) l.length r, I (↑l.length : Int), I (↑(j + (1 : Nat)) : Int)] = [AV.sl (ints (lst F)) (lst F).length (rn (lst F)), I (↑n : Int), I (↑a : Int), AV.sl (ints l) l.length r, I (↑l.length : Int), I (↑(j + (1 : Nat)) : Int)])) (by kernel_rfl) ?_⟩
    refine ⟨by first | with_reducible assumption | omega | assumption, ?_⟩
    refine ⟨ix_ints (by kernel_rfl) (by omega) hr1, ?_⟩
    refine ⟨by first | exact ld_ints (by kernel_rfl) (by kernel_rfl) (by omega) | exact ldm_ints (by kernel_rfl) (by kernel_rfl) (by first | omega | (simp; omega)), ?_⟩
    refine ⟨acall_hit (c := c57.to) (lst F, rn (lst F), ia l j) _ rfl p57, ?_⟩
    refine ⟨told_add (by with_reducible assumption), ?_⟩
    refine ⟨by first | with_reducible assumption | omega | assumption, ?_⟩
    refine ⟨by first | with_reducible assumption | omega | assumption, ?_⟩
    exact ⟨rfl, rfl⟩
  · have hz : (l.length : Int) ≤ j := by omega
    refine ⟨[Ans.o (Orc.b false)], fun u => of_eq ((↑l.length : Int) ≤ (↑j : Int) ∧ (165 : Nat) = (165 : Nat) ∧ hits [Out.mk Unit (AX.exit (0 : Nat)) [(5 : Nat), (7 : Nat), (14 : Nat)] (fun x => True) (fun x => [ls (lst F) (rn (lst F)), I (↑n : Int), I (↑a : Int)]) (fun x => H.nil) fun x => []] (AX.exit (0 : Nat)) [u (0 : Nat), u (1 : Nat), u (2 : Nat), u (3 : Nat), u (4 : Nat), AV.sl (ints (lst F)) (lst F).length (rn (lst F)), u (6 : Nat), I (↑n : Int), u (8 : Nat), u (9 : Nat), u (10 : Nat), u (11 : Nat), u (12 : Nat), u (13 : Nat), I (↑a : Int), u (15 : Nat), u (16 : Nat), u (17 : Nat), u (18 : Nat), u (19 : Nat), u (20 : Nat), u (21 : Nat), u (22 : Nat), u (23 : Nat), u (24 : Nat), u (25 : Nat), u (26 : Nat), u (27 : Nat), u (28 : Nat), u (29 : Nat), u (30 : Nat), u (31 : Nat), u (32 : Nat), u (33 : Nat), u (34 : Nat), u (35 : Nat), u (36 : Nat), u (37 : Nat), u (38 : Nat), u (39 : Nat), u (40 : Nat), u (41 : Nat), u (42 : Nat), u (43 : Nat), u (44 : Nat), u (45 : Nat), u (46 : Nat), u (47 : Nat), u (48 : Nat), u (49 : Nat), u (50 : Nat), u (51 : Nat), u (52 : Nat), u (53 : Nat), u (54 : Nat), u (55 : Nat), u (56 : Nat), u (57 : Nat), u (58 : Nat), u (59 : Nat), u (60 : Nat), u (61 : Nat), u (62 : Nat), u (63 : Nat), u (64 : Nat), u (65 : Nat), u (66 : Nat), u (67 : Nat), u (68 : Nat), u (69 : Nat), u (70 : Nat), u (71 : Nat), u (72 : Nat), u (73 : Nat), u (74 : Nat), u (75 : Nat), u (76 : Nat), u (77 : Nat), u (78 : Nat), u (79 : Nat), u (80 : Nat), u (81 : Nat), u (82 : Nat), u (83 : Nat), u (84 : Nat), u (85 : Nat), u (86 : Nat), u (87 : Nat), u (88 : Nat), u (89 : Nat), u (90 : Nat), u (91 : Nat), u (92 : Nat), u (93 : Nat), u (94 : Nat), u (95 : Nat), u (96 : Nat), u (97 : Nat), u (98 : Nat), u (99 : Nat), u (100 : Nat), u (101 : Nat), u (102 : Nat), u (103 : Nat), u (104 : Nat), u (105 : Nat), u (106 : Nat), u (107 : Nat), u (108 : Nat), u (109 : Nat), u (110 : Nat), u (111 : Nat), u (112 : Nat), u (113 : Nat), u (114 : Nat), u (115 : Nat), u (116 : Nat), u (117 : Nat), u (118 : Nat), u (119 : Nat), u (120 : Nat), u (121 : Nat), u (122 : Nat), u (123 : Nat), u (124 : Nat), u (125 : Nat), u (126 : Nat), u (127 : Nat), u (128 : Nat), u (129 : Nat), u (130 : Nat), u (131 : Nat), u (132 : Nat), AV.sl (ints l) l.length r, I (↑l.length : Int), I (↑j : Int), AV.bool false, u (137 : Nat), u (138 : Nat), u (139 : Nat), u (140 : Nat), u (141 : Nat), u (142 : Nat), u (143 : Nat), u (144 : Nat), u (145 : Nat), u (146 : Nat), u (147 : Nat), u (148 : Nat), u (149 : Nat), u (150 : Nat), u (151 : Nat), u (152 : Nat), u (153 : Nat), u (154 : Nat), u (155 : Nat), u (156 : Nat), u (157 : Nat), u (158 : Nat), u (159 : Nat), u (160 : Nat), u (161 : Nat), u (162 : Nat), u (163 : Nat), u (164 : Nat)] (H.mk [] [] [])) (by kernel_rfl) ?_⟩
    refine ⟨by first | with_reducible assumption | omega | assumption, ?_⟩
    refine ⟨by first | with_reducible assumption | omega | assumption, ?_⟩
    exact .inl ⟨(), trivial, rfl, rfl, rfl⟩
theorem ok13 : FokM Tryd.prog none1 13 Tryd.f13 := ⟨mixed, by kernel_rfl, by kernel_rfl, by kernel_rfl, by kernel_rfl⟩
theorem r13g (m : Nat) (k : List Nat) (r : Room) (hm : 2 ≤ m ∧ m ≤ 4) (hk : okS (nP m : Nat) (ic k)) (hr : rok (ic k) r) (he : em (ic k) r) : Body (En6 [c18i.to, c48g.to, c49.to, c50.to, c21.to, c55f.to, c47t.to, c17g.to, c30g.to, c39g.to, c22.to, c57.to, c26.to]) none1 Tryd.f13 [I m, ls (ic k) r] .nil (.bool true, .nil) := by
  have hR : Rests (En6 [c18i.to, c48g.to, c49.to, c50.to, c21.to, c55f.to, c47t.to, c17g.to, c30g.to, c39g.to, c22.to, c57.to, c26.to]) none1 := rests mixed (.pure _ (.pure _ (.pure _ (.pure _ (.pure _ (.pure _ (.pure _ (.pure _ (.pure _ (.pure _ (.pure _ (.pure _ (.pure _ .nil)))))))))))))
  have hF := sp_fm hm hk
  have hI := sp_inv hm hk
  have hmem := fun i (hi : i < (ic k).length) => sp_mem hm hk hi
  have hdF := dF_fm hF
  have hsame : spV m (spV m (fm k)) = (spV m (fm k)) := sp_same hm hF.dn hI
  have h6 := nP_6 hm.2
  have h64 := p64 h6
  have hlen := hk.2.1
  have hkl : k.length ≤ 70 := by have := ic_len k; omega
  have hrg := hF.rg
  rw [Int.toNat_natCast] at hrg
  have hIdF := inv_dF hm.2 hrg hI
  have hloop := lp13 hR (ic k) r (spV m (fm k)) (nP m) (askV (nP m : Nat) (spV m (fm k))) hlen hr hmem
  have hask := sp_ask hm hF hI
  obtain ⟨ha1, ha2, ha3⟩ := hask
  have p18 : k.length ≤ 70 ∧ rok (ic k) r ∧ em (ic k) r := ⟨hkl, hr, he⟩
  have p48 : (2 ≤ m ∧ m ≤ 4) ∧ rok (ic k) (rcl r) ∧ okS (nP m : Nat) (ic k) := ⟨hm, rcl_rok hr, hk⟩
  have hd49 := pd_t hm
  have p21 : lim (ic k).length ∧ rok (ic k) r := ⟨by simp only [lim]; omega, hr⟩
  have hd21 : gB (nP m : Nat) (ic k) = true := gB_t hk
  have p55 : rok (lst (spV m (fm k))) (rn (lst (spV m (fm k)))) ∧ em (lst (spV m (fm k))) (rn (lst (spV m (fm k)))) := ⟨rn_rok _, rn_em _⟩
  have hrc : rok (lst (spV m (fm k))) (rcl (rn (lst (spV m (fm k))))) := rcl_rok (rn_rok _)
  have p47 : (2 ≤ m ∧ m ≤ 4) ∧ (Fm (nP m : Nat) (lst (spV m (fm k))) (spV m (fm k)) ∧ rok (lst (spV m (fm k))) (rcl (rn (lst (spV m (fm k)))))) ∧ Inv m (spV m (fm k)) := ⟨hm, ⟨hF, hrc⟩, hI⟩
  have hkS : okS (nP m : Nat) (ic (elts (spV m (fm k)))) := hF.ok
  have p48s : (2 ≤ m ∧ m ≤ 4) ∧ rok (ic (elts (spV m (fm k)))) (rcl (rn (lst (spV m (fm k))))) ∧ okS (nP m : Nat) (ic (elts (spV m (fm k)))) := ⟨hm, hrc, hkS⟩
  have p17 : (rok (lst (spV m (fm k))) (rcl (rn (lst (spV m (fm k))))) ∧ rng (lst (spV m (fm k)))) ∧ okS (nP m : Nat) (lst (spV m (fm k))) := ⟨⟨hrc, lst_rng _⟩, hF.ok⟩
  have p30 : Fm (nP m : Nat) (lst (spV m (fm k))) (spV m (fm k)) ∧ rok (lst (spV m (fm k))) (rcl (rn (lst (spV m (fm k))))) := ⟨hF, hrc⟩
  have p47d : (2 ≤ m ∧ m ≤ 4) ∧ (Fm (nP m : Nat) (lst (dF (nP m) (spV m (fm k)))) (dF (nP m) (spV m (fm k))) ∧ rok (lst (dF (nP m) (spV m (fm k)))) (rn (lst (dF (nP m) (spV m (fm k)))))) ∧ Inv m (dF (nP m) (spV m (fm k))) := ⟨hm, ⟨hdF, rn_rok _⟩, hIdF⟩
  have e1 : lst (spV m (fm (elts (spV m (fm k))))) = lst (spV m (fm k)) := by rw [fm_bits, hsame]
  have e2 : lst (cls (fm (nl (lst (spV m (fm k)))))) = lst (spV m (fm k)) := by rw [nl_lst, fm_bits, cls_fix.2 hF.dn]
  have hl1 := lst_len (spV m (fm (elts (spV m (fm k)))))
  have hl2 := lst_len (cls (fm (nl (lst (spV m (fm k))))))
  have p22a : lim (lst (spV m (fm (elts (spV m (fm k)))))).length ∧ rok (lst (spV m (fm (elts (spV m (fm k)))))) (rn (lst (spV m (fm (elts (spV m (fm k))))))) ∧ rok (lst (spV m (fm k))) (rn (lst (spV m (fm k)))) := ⟨by simp only [lim]; omega, rn_rok _, rn_rok _⟩
  have d22a : decide (lst (spV m (fm (elts (spV m (fm k))))) = lst (spV m (fm k))) = true := decide_eq_true e1
  have p22b : lim (lst (cls (fm (nl (lst (spV m (fm k))))))).length ∧ rok (lst (cls (fm (nl (lst (spV m (fm k))))))) (rn (lst (cls (fm (nl (lst (spV m (fm k)))))))) ∧ rok (lst (spV m (fm k))) (rn (lst (spV m (fm k)))) := ⟨by simp only [lim]; omega, rn_rok _, rn_rok _⟩
  have d22b : decide (lst (cls (fm (nl (lst (spV m (fm k)))))) = lst (spV m (fm k))) = true := decide_eq_true e2
  have ev0 := pw_shl (n := nP m) (by omega)
  clear e1 e2 hsame hrg hdF hIdF hmem hkS
  refine body_s ([Ans.o (Orc.val 25 (AV.sl (ints (ic k)) (ic k).length (rcl r)) (H.mk [] [] [])), Ans.o (Orc.val 26 (AV.tup [AV.sl (ints (lst (spV m (fm k)))) (lst (spV m (fm k))).length (rn (lst (spV m (fm k)))), I 0]) (H.mk [] [] [])), Ans.o Orc.dflt, Ans.o (Orc.val 33 (AV.bool true) (H.mk [] [] [])), Ans.o (Orc.val 38 (I (↑(nP m) : Int)) (H.mk [] [] [])), Ans.o (Orc.val 40 (AV.bool true) (H.mk [] [] [])), Ans.o (Orc.val 49 (I (↑(nP m) : Int)) (H.mk [] [] [])), Ans.o (Orc.val 53 (AV.sl (ints (lst (spV m (fm k)))) (lst (spV m (fm k))).length (rcl (rn (lst (spV m (fm k)))))) (H.mk [] [] [])), Ans.o (Orc.val 54 (AV.tup [AV.bool true, I 0]) (H.mk [] [] [])), Ans.o (Orc.val 60 (AV.sl (ints (lst (spV m (fm k)))) (lst (spV m (fm k))).length (rcl (rn (lst (spV m (fm k)))))) (H.mk [] [] [])), Ans.o (Orc.val 61 (AV.tup [AV.sl (ints (lst (spV m (fm (elts (spV m (fm k))))))) (lst (spV m (fm (elts (spV m (fm k)))))).length (rn (lst (spV m (fm (elts (spV m (fm k))))))), I 0]) (H.mk [] [] [])), Ans.o (Orc.val 67 (AV.sl (ints (lst (spV m (fm k)))) (lst (spV m (fm k))).length (rcl (rn (lst (spV m (fm k)))))) (H.mk [] [] [])), Ans.o (Orc.val 68 (AV.tup [AV.sl (ints (lst (cls (fm (nl (lst (spV m (fm k)))))))) (lst (cls (fm (nl (lst (spV m (fm k))))))).length (rn (lst (cls (fm (nl (lst (spV m (fm k)))))))), I 0]) (H.mk [] [] [])), Ans.o (Orc.val 74 (AV.sl (ints (lst (spV m (fm k)))) (lst (spV m (fm k))).length (rcl (rn (lst (spV m (fm k)))))) (H.mk [] [] [])), Ans.o (Orc.val 75 (AV.tup [I (↑(askV (↑(nP m) : Int) (spV m (fm k))) : Int), I 0]) (H.mk [] [] [])), Ans.o (Orc.val 81 (AV.sl (ints (lst (spV m (fm k)))) (lst (spV m (fm k))).length (rcl (rn (lst (spV m (fm k)))))) (H.mk [] [] [])), Ans.o (Orc.val 82 (AV.tup [AV.sl (ints (lst (dF (nP m) (spV m (fm k))))) (lst (dF (nP m) (spV m (fm k)))).length (rn (lst (dF (nP m) (spV m (fm k))))), I 0]) (H.mk [] [] [])), Ans.o (Orc.val 88 (AV.tup [AV.bool true, I 0]) (H.mk [] [] [])), Ans.o Orc.dflt, Ans.o Orc.dflt, Ans.o Orc.dflt, Ans.o Orc.dflt, Ans.o Orc.dflt, Ans.o Orc.dflt, Ans.o (Orc.val 124 (AV.bool true) (H.mk [] [] [])), Ans.o (Orc.val 130 (AV.bool true) (H.mk [] [] [])), Ans.loop [(5 : Nat), (7 : Nat), (14 : Nat), (133 : Nat), (134 : Nat), (135 : Nat)] [Out.mk Unit (AX.exit (0 : Nat)) [(5 : Nat), (7 : Nat), (14 : Nat)] (fun x => True) (fun x => [ls (lst (spV m (fm k))) (rn (lst (spV m (fm k)))), I (↑(nP m) : Int), I (↑(askV (↑(nP m) : Int) (spV m (fm k))) : Int)]) (fun x => H.nil) fun y => [Ans.fork [Ans.fork [Ans.o (Orc.val 157 (AV.bool true) (H.mk [] [] []))] []] [Ans.o (Orc.val 151 (I (↑((2 : Nat) ^ nP m) : Int)) H.nil), Ans.fork [Ans.fork [Ans.o (Orc.val 157 (AV.bool true) (H.mk [] [] []))] []] [Ans.fork [Ans.o (Orc.val 163 (AV.bool true) (H.mk [] [] []))] []]]]]]) (aCall (Sof [c18i.to, c48g.to, c49.to, c50.to, c21.to, c55f.to, c47t.to, c17g.to, c30g.to, c39g.to, c22.to, c57.to, c26.to]) (AV.fn (Fn.func (18 : Nat)) [] []) [AV.sl (ints (ic k)) (ic k).length r] (H.mk [] [] []) = some (AV.sl (ints (ic k)) (ic k).length (rcl r), H.mk [] [] []) ∧ aCall (Sof [c18i.to, c48g.to, c49.to, c50.to, c21.to, c55f.to, c47t.to, c17g.to, c30g.to, c39g.to, c22.to, c57.to, c26.to]) (AV.fn (Fn.func (48 : Nat)) [] []) [I (↑m : Int), AV.sl (ints (ic k)) (ic k).length (rcl r)] (H.mk [] [] []) = some (AV.tup [AV.sl (ints (lst (spV m (fm k)))) (lst (spV m (fm k))).length (rn (lst (spV m (fm k)))), I 0], H.mk [] [] []) ∧ aCall (Sof [c18i.to, c48g.to, c49.to, c50.to, c21.to, c55f.to, c47t.to, c17g.to, c30g.to, c39g.to, c22.to, c57.to, c26.to]) (AV.fn (Fn.func (49 : Nat)) [] []) [I (↑m : Int)] (H.mk [] [] []) = some (AV.bool true, H.mk [] [] []) ∧ aCall (Sof [c18i.to, c48g.to, c49.to, c50.to, c21.to, c55f.to, c47t.to, c17g.to, c30g.to, c39g.to, c22.to, c57.to, c26.to]) (AV.fn (Fn.func (50 : Nat)) [] []) [I (↑m : Int)] (H.mk [] [] []) = some (I (↑(nP m) : Int), H.mk [] [] []) ∧ aCall (Sof [c18i.to, c48g.to, c49.to, c50.to, c21.to, c55f.to, c47t.to, c17g.to, c30g.to, c39g.to, c22.to, c57.to, c26.to]) (AV.fn (Fn.func (21 : Nat)) [] []) [I (↑(nP m) : Int), AV.sl (ints (ic k)) (ic k).length r] (H.mk [] [] []) = some (AV.bool true, H.mk [] [] []) ∧ aCall (Sof [c18i.to, c48g.to, c49.to, c50.to, c21.to, c55f.to, c47t.to, c17g.to, c30g.to, c39g.to, c22.to, c57.to, c26.to]) (AV.fn (Fn.func (50 : Nat)) [] []) [I (↑m : Int)] (H.mk [] [] []) = some (I (↑(nP m) : Int), H.mk [] [] []) ∧ aCall (Sof [c18i.to, c48g.to, c49.to, c50.to, c21.to, c55f.to, c47t.to, c17g.to, c30g.to, c39g.to, c22.to, c57.to, c26.to]) (AV.fn (Fn.func (55 : Nat)) [] []) [AV.sl (ints (lst (spV m (fm k)))) (lst (spV m (fm k))).length (rn (lst (spV m (fm k))))] (H.mk [] [] []) = some (AV.sl (ints (lst (spV m (fm k)))) (lst (spV m (fm k))).length (rcl (rn (lst (spV m (fm k))))), H.mk [] [] []) ∧ aCall (Sof [c18i.to, c48g.to, c49.to, c50.to, c21.to, c55f.to, c47t.to, c17g.to, c30g.to, c39g.to, c22.to, c57.to, c26.to]) (AV.fn (Fn.func (47 : Nat)) [] []) [I (↑m : Int), AV.sl (ints (lst (spV m (fm k)))) (lst (spV m (fm k))).length (rcl (rn (lst (spV m (fm k)))))] (H.mk [] [] []) = some (AV.tup [AV.bool true, I 0], H.mk [] [] []) ∧ aCall (Sof [c18i.to, c48g.to, c49.to, c50.to, c21.to, c55f.to, c47t.to, c17g.to, c30g.to, c39g.to, c22.to, c57.to, c26.to]) (AV.fn (Fn.func (55 : Nat)) [] []) [AV.sl (ints (lst (spV m (fm k)))) (lst (spV m (fm k))).length (rn (lst (spV m (fm k))))] (H.mk [] [] []) = some (AV.sl (ints (lst (spV m (fm k)))) (lst (spV m (fm k))).length (rcl (rn (lst (spV m (fm k))))), H.mk [] [] []) ∧ aCall (Sof [c18i.to, c48g.to, c49.to, c50.to, c21.to, c55f.to, c47t.to, c17g.to, c30g.to, c39g.to, c22.to, c57.to, c26.to]) (AV.fn (Fn.func (48 : Nat)) [] []) [I (↑m : Int), AV.sl (ints (lst (spV m (fm k)))) (lst (spV m (fm k))).length (rcl (rn (lst (spV m (fm k)))))] (H.mk [] [] []) = some (AV.tup [AV.sl (ints (lst (spV m (fm (elts (spV m (fm k))))))) (lst (spV m (fm (elts (spV m (fm k)))))).length (rn (lst (spV m (fm (elts (spV m (fm k))))))), I 0], H.mk [] [] []) ∧ aCall (Sof [c18i.to, c48g.to, c49.to, c50.to, c21.to, c55f.to, c47t.to, c17g.to, c30g.to, c39g.to, c22.to, c57.to, c26.to]) (AV.fn (Fn.func (55 : Nat)) [] []) [AV.sl (ints (lst (spV m (fm k)))) (lst (spV m (fm k))).length (rn (lst (spV m (fm k))))] (H.mk [] [] []) = some (AV.sl (ints (lst (spV m (fm k)))) (lst (spV m (fm k))).length (rcl (rn (lst (spV m (fm k))))), H.mk [] [] []) ∧ aCall (Sof [c18i.to, c48g.to, c49.to, c50.to, c21.to, c55f.to, c47t.to, c17g.to, c30g.to, c39g.to, c22.to, c57.to, c26.to]) (AV.fn (Fn.func (17 : Nat)) [] []) [I (↑(nP m) : Int), AV.sl (ints (lst (spV m (fm k)))) (lst (spV m (fm k))).length (rcl (rn (lst (spV m (fm k)))))] (H.mk [] [] []) = some (AV.tup [AV.sl (ints (lst (cls (fm (nl (lst (spV m (fm k)))))))) (lst (cls (fm (nl (lst (spV m (fm k))))))).length (rn (lst (cls (fm (nl (lst (spV m (fm k)))))))), I 0], H.mk [] [] []) ∧ aCall (Sof [c18i.to, c48g.to, c49.to, c50.to, c21.to, c55f.to, c47t.to, c17g.to, c30g.to, c39g.to, c22.to, c57.to, c26.to]) (AV.fn (Fn.func (55 : Nat)) [] []) [AV.sl (ints (lst (spV m (fm k)))) (lst (spV m (fm k))).length (rn (lst (spV m (fm k))))] (H.mk [] [] []) = some (AV.sl (ints (lst (spV m (fm k)))) (lst (spV m (fm k))).length (rcl (rn (lst (spV m (fm k))))), H.mk [] [] []) ∧ aCall (Sof [c18i.to, c48g.to, c49.to, c50.to, c21.to, c55f.to, c47t.to, c17g.to, c30g.to, c39g.to, c22.to, c57.to, c26.to]) (AV.fn (Fn.func (30 : Nat)) [] []) [I (↑(nP m) : Int), AV.sl (ints (lst (spV m (fm k)))) (lst (spV m (fm k))).length (rcl (rn (lst (spV m (fm k)))))] (H.mk [] [] []) = some (AV.tup [I (↑(askV (↑(nP m) : Int) (spV m (fm k))) : Int), I 0], H.mk [] [] []) ∧ aCall (Sof [c18i.to, c48g.to, c49.to, c50.to, c21.to, c55f.to, c47t.to, c17g.to, c30g.to, c39g.to, c22.to, c57.to, c26.to]) (AV.fn (Fn.func (55 : Nat)) [] []) [AV.sl (ints (lst (spV m (fm k)))) (lst (spV m (fm k))).length (rn (lst (spV m (fm k))))] (H.mk [] [] []) = some (AV.sl (ints (lst (spV m (fm k)))) (lst (spV m (fm k))).length (rcl (rn (lst (spV m (fm k))))), H.mk [] [] []) ∧ aCall (Sof [c18i.to, c48g.to, c49.to, c50.to, c21.to, c55f.to, c47t.to, c17g.to, c30g.to, c39g.to, c22.to, c57.to, c26.to]) (AV.fn (Fn.func (39 : Nat)) [] []) [I (↑(nP m) : Int), AV.sl (ints (lst (spV m (fm k)))) (lst (spV m (fm k))).length (rcl (rn (lst (spV m (fm k)))))] (H.mk [] [] []) = some (AV.tup [AV.sl (ints (lst (dF (nP m) (spV m (fm k))))) (lst (dF (nP m) (spV m (fm k)))).length (rn (lst (dF (nP m) (spV m (fm k))))), I 0], H.mk [] [] []) ∧ aCall (Sof [c18i.to, c48g.to, c49.to, c50.to, c21.to, c55f.to, c47t.to, c17g.to, c30g.to, c39g.to, c22.to, c57.to, c26.to]) (AV.fn (Fn.func (47 : Nat)) [] []) [I (↑m : Int), AV.sl (ints (lst (dF (nP m) (spV m (fm k))))) (lst (dF (nP m) (spV m (fm k)))).length (rn (lst (dF (nP m) (spV m (fm k)))))] (H.mk [] [] []) = some (AV.tup [AV.bool true, I 0], H.mk [] [] []) ∧ aCall (Sof [c18i.to, c48g.to, c49.to, c50.to, c21.to, c55f.to, c47t.to, c17g.to, c30g.to, c39g.to, c22.to, c57.to, c26.to]) (AV.fn (Fn.func (22 : Nat)) [] []) [AV.sl (ints (lst (spV m (fm (elts (spV m (fm k))))))) (lst (spV m (fm (elts (spV m (fm k)))))).length (rn (lst (spV m (fm (elts (spV m (fm k))))))), AV.sl (ints (lst (spV m (fm k)))) (lst (spV m (fm k))).length (rn (lst (spV m (fm k))))] (H.mk [] [] []) = some (AV.bool true, H.mk [] [] []) ∧ aCall (Sof [c18i.to, c48g.to, c49.to, c50.to, c21.to, c55f.to, c47t.to, c17g.to, c30g.to, c39g.to, c22.to, c57.to, c26.to]) (AV.fn (Fn.func (22 : Nat)) [] []) [AV.sl (ints (lst (cls (fm (nl (lst (spV m (fm k)))))))) (lst (cls (fm (nl (lst (spV m (fm k))))))).length (rn (lst (cls (fm (nl (lst (spV m (fm k)))))))), AV.sl (ints (lst (spV m (fm k)))) (lst (spV m (fm k))).length (rn (lst (spV m (fm k))))] (H.mk [] [] []) = some (AV.bool true, H.mk [] [] []) ∧ LoopS (Env.mk Tryd.prog (Sof [c18i.to, c48g.to, c49.to, c50.to, c21.to, c55f.to, c47t.to, c17g.to, c30g.to, c39g.to, c22.to, c57.to, c26.to]) (Pof (P := Tryd.prog) []) H.nil.base (300 : Nat)) (loopAt Tryd.f13 (0 : Nat)) (165 : Nat) [(5 : Nat), (7 : Nat), (14 : Nat), (133 : Nat), (134 : Nat), (135 : Nat)] [AV.sl (ints (lst (spV m (fm k)))) (lst (spV m (fm k))).length (rn (lst (spV m (fm k)))), I (↑(nP m) : Int), I (↑(askV (↑(nP m) : Int) (spV m (fm k))) : Int), AV.sl (ints (ic k)) (ic k).length r, I (↑(ic k).length : Int), I 0] (H.mk [] [] []) [Out.mk Unit (AX.exit (0 : Nat)) [(5 : Nat), (7 : Nat), (14 : Nat)] (fun x => True) (fun x => [ls (lst (spV m (fm k))) (rn (lst (spV m (fm k)))), I (↑(nP m) : Int), I (↑(askV (↑(nP m) : Int) (spV m (fm k))) : Int)]) (fun x => H.nil) fun y => [Ans.fork [Ans.fork [Ans.o (Orc.val 157 (AV.bool true) (H.mk [] [] []))] []] [Ans.o (Orc.val 151 (I (↑((2 : Nat) ^ nP m) : Int)) H.nil), Ans.fork [Ans.fork [Ans.o (Orc.val 157 (AV.bool true) (H.mk [] [] []))] []] [Ans.fork [Ans.o (Orc.val 163 (AV.bool true) (H.mk [] [] []))] []]]]] ∧ (∀ (y : Unit), True → ∀ (u : Nat → AV), ((↑(lst (spV m (fm k))).length : Int) = (0 : Int) → ((↑(askV (↑(nP m) : Int) (spV m (fm k))) : Int) = (0 : Int) → aCall (Sof [c18i.to, c48g.to, c49.to, c50.to, c21.to, c55f.to, c47t.to, c17g.to, c30g.to, c39g.to, c22.to, c57.to, c26.to]) (AV.fn (Fn.func (26 : Nat)) [] []) [] (H.mk [] [] []) = some (AV.bool true, H.mk [] [] []) ∧ (AV.bool true, H.mk [] [] []) = (AV.bool true, H.mk [] [] [])) ∧ ((↑(askV (↑(nP m) : Int) (spV m (fm k))) : Int) ≠ (0 : Int) → (AV.bool false, H.mk [] [] []) = (AV.bool true, H.mk [] [] []))) ∧ ((↑(lst (spV m (fm k))).length : Int) ≠ (0 : Int) → aBin Tryd.prog BinOp.shl (3 : Nat) (I 1) (I (↑(nP m) : Int)) = some (I (↑((2 : Nat) ^ nP m) : Int)) ∧ ((↑(lst (spV m (fm k))).length : Int) = (↑((2 : Nat) ^ nP m) : Int) → ((↑(askV (↑(nP m) : Int) (spV m (fm k))) : Int) = (0 : Int) → aCall (Sof [c18i.to, c48g.to, c49.to, c50.to, c21.to, c55f.to, c47t.to, c17g.to, c30g.to, c39g.to, c22.to, c57.to, c26.to]) (AV.fn (Fn.func (26 : Nat)) [] []) [] (H.mk [] [] []) = some (AV.bool true, H.mk [] [] []) ∧ (AV.bool true, H.mk [] [] []) = (AV.bool true, H.mk [] [] [])) ∧ ((↑(askV (↑(nP m) : Int) (spV m (fm k))) : Int) ≠ (0 : Int) → (AV.bool false, H.mk [] [] []) = (AV.bool true, H.mk [] [] []))) ∧ ((↑(lst (spV m (fm k))).length : Int) ≠ (↑((2 : Nat) ^ nP m) : Int) → ((↑(askV (↑(nP m) : Int) (spV m (fm k))) : Int) = (↑(nP m) : Int) → aCall (Sof [c18i.to, c48g.to, c49.to, c50.to, c21.to, c55f.to, c47t.to, c17g.to, c30g.to, c39g.to, c22.to, c57.to, c26.to]) (AV.fn (Fn.func (26 : Nat)) [] []) [] (H.mk [] [] []) = some (AV.bool true, H.mk [] [] []) ∧ (AV.bool true, H.mk [] [] []) = (AV.bool true, H.mk [] [] [])) ∧ ((↑(askV (↑(nP m) : Int) (spV m (fm k))) : Int) ≠ (↑(nP m) : Int) → (AV.bool false, H.mk [] [] []) = (AV.bool true, H.mk [] [] []))))) ∧ True) (by kernel_rfl) ?_
  refine ⟨acall_hit (c := c18i.to) (k, r) _ rfl p18, ?_⟩
  refine ⟨by first | exact acall_hit (c := c48g.to) (m, k, rcl r) _ rfl p48 | exact acall_hit (c := c48g.to) (m, elts (spV m (fm k)), (rcl (rn (lst (spV m (fm k)))))) _ rfl p48s, ?_⟩
  refine ⟨acall_b (acall_hit (c := c49.to) (m : Int) _ rfl trivial) hd49, ?_⟩
  refine ⟨acall_hit (c := c50.to) m _ rfl hm, ?_⟩
  refine ⟨acall_b (acall_hit (c := c21.to) ((nP m : Int), ic k, r) _ rfl p21) hd21, ?_⟩
  refine ⟨acall_hit (c := c50.to) m _ rfl hm, ?_⟩
  refine ⟨acall_hit (c := c55f.to) ((spV m (fm k)), (rn (lst (spV m (fm k))))) _ rfl p55, ?_⟩
  refine ⟨by first | exact acall_hit (c := c47t.to) (m, (spV m (fm k)), (rcl (rn (lst (spV m (fm k)))))) _ rfl p47 | exact acall_hit (c := c47t.to) (m, dF (nP m) (spV m (fm k)), rn (lst (dF (nP m) (spV m (fm k))))) _ rfl p47d, ?_⟩
  refine ⟨acall_hit (c := c55f.to) ((spV m (fm k)), (rn (lst (spV m (fm k))))) _ rfl p55, ?_⟩
  refine ⟨by first | exact acall_hit (c := c48g.to) (m, k, rcl r) _ rfl p48 | exact acall_hit (c := c48g.to) (m, elts (spV m (fm k)), (rcl (rn (lst (spV m (fm k)))))) _ rfl p48s, ?_⟩
  refine ⟨acall_hit (c := c55f.to) ((spV m (fm k)), (rn (lst (spV m (fm k))))) _ rfl p55, ?_⟩
  refine ⟨acall_hit (c := c17g.to) (nP m, lst (spV m (fm k)), (rcl (rn (lst (spV m (fm k)))))) _ rfl p17, ?_⟩
  refine ⟨acall_hit (c := c55f.to) ((spV m (fm k)), (rn (lst (spV m (fm k))))) _ rfl p55, ?_⟩
  refine ⟨acall_hit (c := c30g.to) ((nP m : Int), (spV m (fm k)), (rcl (rn (lst (spV m (fm k)))))) _ rfl p30, ?_⟩
  refine ⟨acall_hit (c := c55f.to) ((spV m (fm k)), (rn (lst (spV m (fm k))))) _ rfl p55, ?_⟩
  refine ⟨acall_hit (c := c39g.to) (nP m, (spV m (fm k)), (rcl (rn (lst (spV m (fm k)))))) _ rfl p30, ?_⟩
  refine ⟨by first | exact acall_hit (c := c47t.to) (m, (spV m (fm k)), (rcl (rn (lst (spV m (fm k)))))) _ rfl p47 | exact acall_hit (c := c47t.to) (m, dF (nP m) (spV m (fm k)), rn (lst (dF (nP m) (spV m (fm k))))) _ rfl p47d, ?_⟩
  refine ⟨by first | exact acall_b (acall_hit (c := c22.to) (lst (spV m (fm (elts (spV m (fm k))))), rn (lst (spV m (fm (elts (spV m (fm k)))))), lst (spV m (fm k)), (rn (lst (spV m (fm k))))) _ rfl p22a) d22a | exact acall_b (acall_hit (c := c22.to) (lst (cls (fm (nl (lst (spV m (fm k)))))), rn (lst (cls (fm (nl (lst (spV m (fm k))))))), lst (spV m (fm k)), (rn (lst (spV m (fm k))))) _ rfl p22b) d22b, ?_⟩
  refine ⟨by first | exact acall_b (acall_hit (c := c22.to) (lst (spV m (fm (elts (spV m (fm k))))), rn (lst (spV m (fm (elts (spV m (fm k)))))), lst (spV m (fm k)), (rn (lst (spV m (fm k))))) _ rfl p22a) d22a | exact acall_b (acall_hit (c := c22.to) (lst (cls (fm (nl (lst (spV m (fm k)))))), rn (lst (cls (fm (nl (lst (spV m (fm k))))))), lst (spV m (fm k)), (rn (lst (spV m (fm k))))) _ rfl p22b) d22b, ?_⟩
  refine ⟨hloop, ?_⟩
  refine And.intro ?_ ?_
  · skip
    intro y
    intro w1
    intro u
    refine And.intro ?_ ?_
    · skip
      intro w3
      refine And.intro ?_ ?_
      · skip
        intro w4
        refine ⟨acall_hit (c := c26.to) () _ rfl trivial, ?_⟩
        first | rfl | (exfalso; omega)
      · skip
        intro w4
        first | rfl | (exfalso; omega)
    · skip
      intro w3
      refine ⟨by first | exact told_shl (by first | exact Int.natCast_nonneg _ | omega) (by with_reducible assumption) | exact told_shl (by omega) rfl, ?_⟩
      refine And.intro ?_ ?_
      · skip
        intro w4
        refine And.intro ?_ ?_
        · skip
          intro w5
          refine ⟨acall_hit (c := c26.to) () _ rfl trivial, ?_⟩
          first | rfl | (exfalso; omega)
        · skip
          intro w5
          first | rfl | (exfalso; omega)
      · skip
        intro w4
        refine And.intro ?_ ?_
        · skip
          intro w5
          refine ⟨acall_hit (c := c26.to) () _ rfl trivial, ?_⟩
          first | rfl | (exfalso; omega)
        · skip
          intro w5
          first | rfl | (exfalso; omega)
  · skip
    trivial
theorem r13b (m : Nat) (l : List Int) (r : Room) (hm : 2 ≤ m ∧ m ≤ 4) (h : ¬ okS (nP m : Nat) l) (hl : lim l.length) (hr : rok l r) (he : em l r) (hg : rng l) : Body (En6 [c18.to, c48b.to, c26.to]) none1 Tryd.f13 [I m, ls l r] .nil (.bool true, .nil) := by
  have p18 : lim l.length ∧ rok l r ∧ em l r := ⟨hl, hr, he⟩
  have p48 : ((2 ≤ m ∧ m ≤ 4) ∧ lim (cut l).length ∧ rok (cut l) (rcl r) ∧ rng (cut l)) ∧ ¬ okS (nP m : Nat) (cut l) := ⟨⟨hm, cut_lim l, cut_rok hr, cut_rng hg⟩, cut_okS h⟩
  refine body_s ([Ans.o (Orc.val 25 (AV.sl (ints (cut l)) (cut l).length (rcl r)) (H.mk [] [] [])), Ans.o (Orc.val 26 (AV.tup [AV.sl [] (0 : Nat) Room.nil, I 2]) (H.mk [] [] [])), Ans.o Orc.dflt, Ans.o Orc.dflt, Ans.o (Orc.val 46 (AV.bool true) (H.mk [] [] []))]) (aCall (Sof [c18.to, c48b.to, c26.to]) (AV.fn (Fn.func (18 : Nat)) [] []) [AV.sl (ints l) l.length r] (H.mk [] [] []) = some (AV.sl (ints (cut l)) (cut l).length (rcl r), H.mk [] [] []) ∧ aCall (Sof [c18.to, c48b.to, c26.to]) (AV.fn (Fn.func (48 : Nat)) [] []) [I (↑m : Int), AV.sl (ints (cut l)) (cut l).length (rcl r)] (H.mk [] [] []) = some (AV.tup [AV.sl [] (0 : Nat) Room.nil, I 2], H.mk [] [] []) ∧ aCall (Sof [c18.to, c48b.to, c26.to]) (AV.fn (Fn.func (26 : Nat)) [] []) [] (H.mk [] [] []) = some (AV.bool true, H.mk [] [] []) ∧ (AV.bool true, H.mk [] [] []) = (AV.bool true, H.mk [] [] [])) (by kernel_rfl) ?_
  refine ⟨acall_hit (c := c18.to) (l, r) _ rfl p18, ?_⟩
  refine ⟨acall_hit (c := c48b.to) (m, cut l, rcl r) _ rfl p48, ?_⟩
  refine ⟨acall_hit (c := c26.to) () _ rfl trivial, ?_⟩
  first | with_reducible rfl | (refine bleaf_t ?_; omega) | (refine bleaf_f ?_; omega) | (refine ileaf ?_; omega) | rfl | (exfalso; omega)
theorem r13m (m : Int) (l : List Int) (r : Room) (hm : ¬ (2 ≤ m ∧ m ≤ 4)) (hl : lim l.length) (hr : rok l r) (he : em l r) : Body (En6 [c18.to, c48m.to, c26.to]) none1 Tryd.f13 [I m, ls l r] .nil (.bool true, .nil) := by
  have p18 : lim l.length ∧ rok l r ∧ em l r := ⟨hl, hr, he⟩
  refine body_s ([Ans.o (Orc.val 25 (AV.sl (ints (cut l)) (cut l).length (rcl r)) (H.mk [] [] [])), Ans.o (Orc.val 26 (AV.tup [AV.sl [] (0 : Nat) Room.nil, I 2]) (H.mk [] [] [])), Ans.o Orc.dflt, Ans.o Orc.dflt, Ans.o (Orc.val 46 (AV.bool true) (H.mk [] [] []))]) (aCall (Sof [c18.to, c48m.to, c26.to]) (AV.fn (Fn.func (18 : Nat)) [] []) [AV.sl (ints l) l.length r] (H.mk [] [] []) = some (AV.sl (ints (cut l)) (cut l).length (rcl r), H.mk [] [] []) ∧ aCall (Sof [c18.to, c48m.to, c26.to]) (AV.fn (Fn.func (48 : Nat)) [] []) [I m, AV.sl (ints (cut l)) (cut l).length (rcl r)] (H.mk [] [] []) = some (AV.tup [AV.sl [] (0 : Nat) Room.nil, I 2], H.mk [] [] []) ∧ aCall (Sof [c18.to, c48m.to, c26.to]) (AV.fn (Fn.func (26 : Nat)) [] []) [] (H.mk [] [] []) = some (AV.bool true, H.mk [] [] []) ∧ (AV.bool true, H.mk [] [] []) = (AV.bool true, H.mk [] [] [])) (by kernel_rfl) ?_
  refine ⟨acall_hit (c := c18.to) (l, r) _ rfl p18, ?_⟩
  refine ⟨acall_hit (c := c48m.to) (m, cut l, rcl r) _ rfl hm, ?_⟩
  refine ⟨acall_hit (c := c26.to) () _ rfl trivial, ?_⟩
  first | with_reducible rfl | (refine bleaf_t ?_; omega) | (refine bleaf_f ?_; omega) | (refine ileaf ?_; omega) | rfl | (exfalso; omega)
theorem graphs_ok (m : Int) (l : List Int) (q : RK) (h1 : l.length ≤ Go.maxLen) (h2 : q.mt = true → l = []) (h3 : rng l) : CallOk Tryd.prog 13 [I m, ls l (rr q)] .nil (.bool true) .nil := by
  have hx : Go.maxLen ≤ 9223372036854775807 := by decide
  have hl : lim l.length := Nat.le_trans h1 hx
  by_cases hm : 2 ≤ m ∧ m ≤ 4
  · obtain ⟨a, rfl⟩ : ∃ a : Nat, m = a := ⟨m.toNat, by omega⟩
    have hm' : 2 ≤ a ∧ a ≤ 4 := by omega
    by_cases hs1 : okS (nP a : Nat) l
    · have e := ic_nl (l := l) (fun i hi => (hs1.2.2 i hi).1)
      have hr := rr_rok h2
      have he := em_rr h2
      rw [← e] at hs1 hr he ⊢
      exact (r13g a (nl l) (rr q) hm' hs1 hr he).run ok13 (.pure _ (.pure _ (.pure _ (.pure _ (.pure _ (.pure _ (.pure _ (.pure _ (.pure _ (.pure _ (.pure _ (.pure _ (.pure _ .nil))))))))))))) rfl
    · exact (r13b a l (rr q) hm' hs1 hl (rr_rok h2) (em_rr h2) h3).run ok13 (.pure _ (.pure _ (.pure _ .nil))) rfl
  · exact (r13m m l (rr q) hm hl (rr_rok h2) (em_rr h2)).run ok13 (.pure _ (.pure _ (.pure _ .nil))) rfl
end Go.Proofs.Evd

