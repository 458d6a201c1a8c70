/- Layer 5: the law of bounds. -/
import Derived.Test.YtlomlnkafakloaaDoorSxI
import Derived.Test.YtlomlnkafakloaaDoorSxJ
import Derived.Test.YtlomlnkafakloaaDoorSuJ0
import Derived.Test.YtlomlnkafakloaaDoorSuY
import Derived.KernelRfl
set_option linter.unusedSimpArgs false
set_option linter.unusedVariables false
set_option linter.unnecessarySimpa false
set_option maxHeartbeats 4000000
set_option maxRecDepth 100000
namespace Go.Proofs.Sur
open Go Go.VM

theorem ok50 : FokM Tryd.prog none1 50 Tryd.f50 := ⟨mixed, by kernel_rfl, by kernel_rfl, by kernel_rfl, by kernel_rfl⟩
theorem r50 (n : Int) (d : Int) (hp : 1 ≤ d ∧ d ≤ 720 ∧ d ≤ n ∧ n ≤ 6 * d) : Body ⟨Tryd.prog, Sof (P := Tryd.prog) [], Pof (P := Tryd.prog) [], H.nil.base, 300⟩ none1 Tryd.f50 [.agg [I n, I d]] .nil (.bool true, .nil) := by
  obtain ⟨h1, h2, h3, h4⟩ := hp
  have h5 : d ≤ 1000 := by omega
  have ev0 : IntKind.i64.wrap (6 * d) = 6 * d := wr _ (by omega) (by omega)
  refine body_s ([Ans.o (Orc.b true), Ans.o (Orc.b true), Ans.o (Orc.b true), Ans.o (Orc.val 23 (I ((6 : Int) * d)) H.nil), Ans.o (Orc.b true)]) ((1 : Int) ≤ d ∧ d ≤ (1000 : Int) ∧ d ≤ n ∧ aBin Tryd.prog BinOp.mul (3 : Nat) (I 6) (I d) = some (I ((6 : Int) * d)) ∧ n ≤ (6 : Int) * d ∧ (AV.bool true, H.mk [] [] []) = (AV.bool true, H.mk [] [] [])) (by kernel_rfl) ?_
  refine ⟨by first | with_reducible assumption | omega | assumption, ?_⟩
  refine ⟨by first | with_reducible assumption | omega | assumption, ?_⟩
  refine ⟨by first | with_reducible assumption | omega | assumption, ?_⟩
  refine ⟨told_mul (by with_reducible assumption), ?_⟩
  refine ⟨by first | with_reducible assumption | omega | assumption, ?_⟩
  first | with_reducible rfl | (refine bleaf_t ?_; omega) | (refine bleaf_f ?_; omega) | (refine ileaf ?_; omega) | rfl | (exfalso; omega)
noncomputable def c50 : PCtr Tryd.prog := sctr ok50 (X := Int × Int) (fun x => [.agg [I x.1, I x.2]]) (fun x => 1 ≤ x.2 ∧ x.2 ≤ 720 ∧ x.2 ≤ x.1 ∧ x.1 ≤ 6 * x.2) (fun x => .bool true) (by intro x y e _ _; simp at e; simp [e]) (fun x => by simp [AV.bnds, AV.bnd, AV.wk, rm_wk_bnd]) (fun x => by first | rfl | (simp [AV.bnd, rm_wk_bnd]; done)  | (simp [AV.bnd, AV.bnds, rm_wk_bnd]; done) | simp [AV.bnd, AV.bnds, Room.bnd, rm_wk_bnd]) (fun x hx => ⟨_, _, _, .nil, r50 (x.1) (x.2) hx⟩)
theorem cut_g5 {g : List Int} (h : sz (cut g)) : cut g = g := by
  have h1 := h.2
  have : (cut g).length = min 80 g.length := by simp [cut]
  exact List.take_of_length_le (by omega)
theorem cut_gr5 {g : List Int} : Gr (cut g) ↔ Gr g := by
  constructor
  · intro h; rw [cut_g5 h.1] at h; exact h
  · intro h
    have : cut g = g := List.take_of_length_le (by have := h.1.2; omega)
    rw [this]; exact h
theorem rd_gr {g : List Int} {k : Int} (h : rdE g k = 0) : Gr g ∧ 1 ≤ k ∧ k ≤ 3 := by
  simp only [rdE] at h
  split at h
  · rename_i hc; exact ⟨grB_iff.1 hc.1, hc.2⟩
  · cases h
theorem ipw_le {x M : Int} (h0 : 0 ≤ x) (h : x ≤ M) : ∀ k, ipw x k ≤ ipw M k
  | 0 => Int.le_refl _
  | k + 1 => Int.mul_le_mul (ipw_le h0 h k) h h0 (ipw_nn (by omega) k)
theorem ipw_b {x : Int} (h0 : 0 ≤ x) (h : x ≤ 4320) {k : Nat} (hk : k ≤ 3) : 0 ≤ ipw x k ∧ ipw x k ≤ 80621568000 := by
  have h1 := ipw_le h0 h k
  have h2 := ipw_nn h0 k
  have : ipw 4320 k ≤ 80621568000 := by
    have : k = 0 ∨ k = 1 ∨ k = 2 ∨ k = 3 := by omega
    rcases this with rfl | rfl | rfl | rfl <;> decide
  omega
theorem ipw_nat (m : Nat) : ∀ k, ipw (m : Int) k = ((m ^ k : Nat) : Int)
  | 0 => rfl
  | k + 1 => by simp only [ipw, ipw_nat m k, Nat.pow_succ, Int.natCast_mul]
theorem co_eqB {g : List Int} {k : Int} (h : rdE g k = 0) : coV g k = frV (rdW g k) := if_pos h
theorem co_smB {g : List Int} {k : Int} (h : rdE g k = 0) : (coV g k).length ≤ 64 := by
  have hg := rd_gs h
  obtain ⟨h1, h2, _⟩ := frV_ok hg
  rw [co_eqB h, h1]; exact msV_le _ _
theorem co_len {g : List Int} {k : Int} (h : rdE g k = 0) : (coV g k).length = msV (pwW g (k - 1).toNat) (ful (pwW g (k - 1).toNat).length) ∧ g.length ^ ((k - 1).toNat + 1) ≤ 64 := by
  obtain ⟨e, hl⟩ := rd_pw h
  obtain ⟨_, h1, _⟩ := rd_gr h
  rw [co_eqB h, (frV_ok (rd_gs h)).1, e]
  refine ⟨rfl, ?_⟩
  have : (k - 1).toNat + 1 = k.toNat := by omega
  rw [this]; exact hl
/-- what the law asks of a code -/
theorem bd_facts {g : List Int} {k : Int} (h : rdE g k = 0) : ((coV g k).length : Int) * ipw (wgD g) k.toNat ≤ ipw (wgN g) k.toNat ∧ ((coV g k).length : Int) ≤ ipw (ftF g g.length [0] : Nat) k.toNat := by
  obtain ⟨hg, h1, h3⟩ := rd_gr h
  obtain ⟨e, hl⟩ := co_len h
  have hk : (k - 1).toNat + 1 = k.toNat := by omega
  have r := rosenK hg (k - 1).toNat hl
  have f := haemers hg (k - 1).toNat hl
  rw [hk] at r f
  rw [e]
  refine ⟨r, ?_⟩
  rw [ipw_nat]; omega
abbrev o10a (g : List Int) (r : Room) (k : Int) (c : AV) (N D : Int) : List Out := [.mk Unit (.exit 0) [0, 1, 5, 11, 12] (fun _ => True) (fun _ => [ls g r, I k, c, I (ipw N k.toNat), I (ipw D k.toNat)]) (fun _ => ⟨[[I N, I D]], [], []⟩) (fun _ => [])]
theorem simp10a : allSimpleM none1 (loopAt Tryd.f10 0) = true := by kernel_rfl
theorem simp10b : allSimpleM none1 (loopAt Tryd.f10 1) = true := by kernel_rfl
noncomputable abbrev E10 (c : PCtr Tryd.prog) : Env := En6 [c19.to, c28.to, c33.to, c40g.to, c29.to, c50.to, c.to, c23.to]
theorem lp10a (cc : PCtr Tryd.prog) (g : List Int) (r : Room) (k : Int) (c : AV) (N D : Int) (hk : 1 ≤ k ∧ k ≤ 3) (hN : 0 ≤ N ∧ N ≤ 4320) (hD : 0 ≤ D ∧ D ≤ 4320) :
    LoopS (E10 cc) (loopAt Tryd.f10 0) 139 [0, 1, 5, 7, 11, 12, 79, 80] [ls g r, I k, c, .ptr 0 0, I 1, I 1, I k, I 0] ⟨[[I N, I D]], [], []⟩ (o10a g r k c N D) := by
  have hR : Rests (E10 cc) none1 := rests mixed (.pure _ (.pure _ (.pure _ (.pure _ (.pure _ (.pure _ (.pure _ (.pure _ .nil))))))))
  refine loop_s hR simp10a none (by intro _ h; cases h) (fun j vs H => H = ⟨[[I N, I D]], [], []⟩ ∧ vs = [ls g r, I k, c, .ptr 0 0, I (ipw N j), I (ipw D j), I k, I (j : Nat)] ∧ (j : Int) ≤ k) k.toNat ⟨rfl, rfl, by show (0 : Int) ≤ k; omega⟩ (by intro _ h; cases h) ?_
  rintro j vs H hj ⟨rfl, rfl, hle⟩
  by_cases hz : (j : Int) < k
  · have b1 := ipw_b hN.1 hN.2 (show j + 1 ≤ 3 by omega)
    have b2 := ipw_b hD.1 hD.2 (show j + 1 ≤ 3 by omega)
    have ev0 : IntKind.i64.wrap (ipw N j * N) = ipw N (j + 1) := wr _ (by show _ ≤ ipw N (j + 1); omega) (by show ipw N (j + 1) ≤ _; omega)
    have ev1 : IntKind.i64.wrap (ipw D j * D) = ipw D (j + 1) := wr _ (by show _ ≤ ipw D (j + 1); omega) (by show ipw D (j + 1) ≤ _; omega)
    have ev2 := w_suc (i := j) (by omega)
    have hj1 : ((j + 1 : Nat) : Int) ≤ k := by omega
    refine ⟨[Ans.o (Orc.b true), Ans.o (Orc.val 85 (I (ipw N (j + (1 : Nat)))) H.nil), Ans.o (Orc.val 89 (I (ipw D (j + (1 : Nat)))) H.nil), Ans.o (Orc.val 90 (I (↑(j + (1 : Nat)) : Int)) H.nil)], fun u => of_eq ((↑j : Int) < k ∧ aBin Tryd.prog BinOp.mul (3 : Nat) (I (ipw N j)) (I N) = some (I (ipw N (j + (1 : Nat)))) ∧ aBin Tryd.prog BinOp.mul (3 : Nat) (I (ipw D j)) (I D) = some (I (ipw D (j + (1 : Nat)))) ∧ aBin Tryd.prog BinOp.add (3 : Nat) (I (↑j : Int)) (I 1) = some (I (↑(j + (1 : Nat)) : Int)) ∧ (139 : Nat) = (139 : Nat) ∧ j < k.toNat ∧ Keep (H.mk [[I N, I D]] [] [] = H.mk [[I N, I D]] [] [] ∧ [AV.sl (ints g) g.length r, I k, c, AV.ptr 0 0, I (ipw N (j + (1 : Nat))), I (ipw D (j + (1 : Nat))), I k, I (↑(j + (1 : Nat)) : Int)] = [AV.sl (ints g) g.length r, I k, c, AV.ptr 0 0, I (ipw N (j + (1 : Nat))), I (ipw D (j + (1 : Nat))), I k, I (↑(j + (1 : Nat)) : Int)] ∧ (↑(j + (1 : Nat)) : Int) ≤ k)) (by kernel_rfl) ?_⟩
    refine ⟨by first | with_reducible assumption | omega | assumption, ?_⟩
    refine ⟨told_mul (by with_reducible assumption), ?_⟩
    refine ⟨told_mul (by with_reducible assumption), ?_⟩
    refine ⟨told_add (by with_reducible assumption), ?_⟩
    refine ⟨by first | with_reducible assumption | omega | assumption, ?_⟩
    refine ⟨by first | with_reducible assumption | omega | assumption, ?_⟩
    exact ⟨rfl, rfl, hj1⟩
  · have hz : k ≤ (j : Int) := by omega
    have e : j = k.toNat := by omega
    subst e
    refine ⟨[Ans.o (Orc.b false)], fun u => of_eq (k ≤ (↑k.toNat : Int) ∧ (139 : Nat) = (139 : Nat) ∧ hits [Out.mk Unit (AX.exit (0 : Nat)) [(0 : Nat), (1 : Nat), (5 : Nat), (11 : Nat), (12 : Nat)] (fun x => True) (fun x => [ls g r, I k, c, I (ipw N k.toNat), I (ipw D k.toNat)]) (fun x => H.mk [[I N, I D]] [] []) fun x => []] (AX.exit (0 : Nat)) [AV.sl (ints g) g.length r, I k, u (2 : Nat), u (3 : Nat), u (4 : Nat), c, u (6 : Nat), AV.ptr 0 0, u (8 : Nat), u (9 : Nat), u (10 : Nat), I (ipw N k.toNat), I (ipw D k.toNat), u (13 : Nat), u (14 : Nat), u (15 : Nat), u (16 : Nat), u (17 : Nat), u (18 : Nat), u (19 : Nat), u (20 : Nat), u (21 : Nat), u (22 : Nat), u (23 : Nat), u (24 : Nat), u (25 : Nat), u (26 : Nat), u (27 : Nat), u (28 : Nat), u (29 : Nat), u (30 : Nat), u (31 : Nat), u (32 : Nat), u (33 : Nat), u (34 : Nat), u (35 : Nat), u (36 : Nat), u (37 : Nat), u (38 : Nat), u (39 : Nat), u (40 : Nat), u (41 : Nat), u (42 : Nat), u (43 : Nat), u (44 : Nat), u (45 : Nat), u (46 : Nat), u (47 : Nat), u (48 : Nat), u (49 : Nat), u (50 : Nat), u (51 : Nat), u (52 : Nat), u (53 : Nat), u (54 : Nat), u (55 : Nat), u (56 : Nat), u (57 : Nat), u (58 : Nat), u (59 : Nat), u (60 : Nat), u (61 : Nat), u (62 : Nat), u (63 : Nat), u (64 : Nat), u (65 : Nat), u (66 : Nat), u (67 : Nat), u (68 : Nat), u (69 : Nat), u (70 : Nat), u (71 : Nat), u (72 : Nat), u (73 : Nat), u (74 : Nat), u (75 : Nat), u (76 : Nat), u (77 : Nat), u (78 : Nat), I k, I (↑k.toNat : Int), AV.bool false, u (82 : Nat), u (83 : Nat), u (84 : Nat), u (85 : Nat), u (86 : Nat), u (87 : Nat), u (88 : Nat), u (89 : Nat), u (90 : Nat), u (91 : Nat), u (92 : Nat), u (93 : Nat), u (94 : Nat), u (95 : Nat), u (96 : Nat), u (97 : Nat), u (98 : Nat), u (99 : Nat), u (100 : Nat), u (101 : Nat), u (102 : Nat), u (103 : Nat), u (104 : Nat), u (105 : Nat), u (106 : Nat), u (107 : Nat), u (108 : Nat), u (109 : Nat), u (110 : Nat), u (111 : Nat), u (112 : Nat), u (113 : Nat), u (114 : Nat), u (115 : Nat), u (116 : Nat), u (117 : Nat), u (118 : Nat), u (119 : Nat), u (120 : Nat), u (121 : Nat), u (122 : Nat), u (123 : Nat), u (124 : Nat), u (125 : Nat), u (126 : Nat), u (127 : Nat), u (128 : Nat), u (129 : Nat), u (130 : Nat), u (131 : Nat), u (132 : Nat), u (133 : Nat), u (134 : Nat), u (135 : Nat), u (136 : Nat), u (137 : Nat), u (138 : Nat)] (H.mk [[I N, I D]] [] [])) (by kernel_rfl) ?_⟩
    refine ⟨by first | with_reducible assumption | omega | assumption, ?_⟩
    refine ⟨by first | with_reducible assumption | omega | assumption, ?_⟩
    exact .inl ⟨(), trivial, rfl, rfl, rfl⟩
abbrev o10b (g : List Int) (r : Room) (c : AV) (m : Int) (k : Int) (h : H) : List Out := [.mk Unit (.exit 2) [0, 5, 13, 15] (fun _ => True) (fun _ => [ls g r, c, I m, I (ipw m k.toNat)]) (fun _ => h) (fun _ => [])]
theorem lp10b (cc : PCtr Tryd.prog) (g : List Int) (r : Room) (k : Int) (c : AV) (m N D : Int) (hk : 1 ≤ k ∧ k ≤ 3) (hm : 0 ≤ m ∧ m ≤ 4320) :
    LoopS (E10 cc) (loopAt Tryd.f10 1) 139 [0, 5, 13, 15, 115, 116] [ls g r, c, I m, I 1, I k, I 0] ⟨[[I N, I D]], [], []⟩ (o10b g r c m k ⟨[[I N, I D]], [], []⟩) := by
  have hR : Rests (E10 cc) none1 := rests mixed (.pure _ (.pure _ (.pure _ (.pure _ (.pure _ (.pure _ (.pure _ (.pure _ .nil))))))))
  refine loop_s hR simp10b none (by intro _ h; cases h) (fun j vs H => H = ⟨[[I N, I D]], [], []⟩ ∧ vs = [ls g r, c, I m, I (ipw m j), I k, I (j : Nat)] ∧ (j : Int) ≤ k) k.toNat ⟨rfl, rfl, by show (0 : Int) ≤ k; omega⟩ (by intro _ h; cases h) ?_
  rintro j vs H hj ⟨rfl, rfl, hle⟩
  by_cases hz : (j : Int) < k
  · have b1 := ipw_b hm.1 hm.2 (show j + 1 ≤ 3 by omega)
    have ev0 : IntKind.i64.wrap (ipw m j * m) = ipw m (j + 1) := wr _ (by show _ ≤ ipw m (j + 1); omega) (by show ipw m (j + 1) ≤ _; omega)
    have ev2 := w_suc (i := j) (by omega)
    have hj1 : ((j + 1 : Nat) : Int) ≤ k := by omega
    refine ⟨[Ans.o (Orc.b true), Ans.o (Orc.val 120 (I (ipw m (j + (1 : Nat)))) H.nil), Ans.o (Orc.val 121 (I (↑(j + (1 : Nat)) : Int)) H.nil)], fun u => of_eq ((↑j : Int) < k ∧ aBin Tryd.prog BinOp.mul (3 : Nat) (I (ipw m j)) (I m) = some (I (ipw m (j + (1 : Nat)))) ∧ aBin Tryd.prog BinOp.add (3 : Nat) (I (↑j : Int)) (I 1) = some (I (↑(j + (1 : Nat)) : Int)) ∧ (139 : Nat) = (139 : Nat) ∧ j < k.toNat ∧ Keep (H.mk [[I N, I D]] [] [] = H.mk [[I N, I D]] [] [] ∧ [AV.sl (ints g) g.length r, c, I m, I (ipw m (j + (1 : Nat))), I k, I (↑(j + (1 : Nat)) : Int)] = [AV.sl (ints g) g.length r, c, I m, I (ipw m (j + (1 : Nat))), I k, I (↑(j + (1 : Nat)) : Int)] ∧ (↑(j + (1 : Nat)) : Int) ≤ k)) (by kernel_rfl) ?_⟩
    refine ⟨by first | with_reducible assumption | omega | assumption, ?_⟩
    refine ⟨told_mul (by with_reducible assumption), ?_⟩
    refine ⟨told_add (by with_reducible assumption), ?_⟩
    refine ⟨by first | with_reducible assumption | omega | assumption, ?_⟩
    refine ⟨by first | with_reducible assumption | omega | assumption, ?_⟩
    exact ⟨rfl, rfl, hj1⟩
  · have hz : k ≤ (j : Int) := by omega
    have e : j = k.toNat := by omega
    subst e
    refine ⟨[Ans.o (Orc.b false)], fun u => of_eq (k ≤ (↑k.toNat : Int) ∧ (139 : Nat) = (139 : Nat) ∧ hits [Out.mk Unit (AX.exit (2 : Nat)) [(0 : Nat), (5 : Nat), (13 : Nat), (15 : Nat)] (fun x => True) (fun x => [ls g r, c, I m, I (ipw m k.toNat)]) (fun x => H.mk [[I N, I D]] [] []) fun x => []] (AX.exit (2 : Nat)) [AV.sl (ints g) g.length r, u (1 : Nat), u (2 : Nat), u (3 : Nat), u (4 : Nat), c, u (6 : Nat), u (7 : Nat), u (8 : Nat), u (9 : Nat), u (10 : Nat), u (11 : Nat), u (12 : Nat), I m, u (14 : Nat), I (ipw m k.toNat), u (16 : Nat), u (17 : Nat), u (18 : Nat), u (19 : Nat), u (20 : Nat), u (21 : Nat), u (22 : Nat), u (23 : Nat), u (24 : Nat), u (25 : Nat), u (26 : Nat), u (27 : Nat), u (28 : Nat), u (29 : Nat), u (30 : Nat), u (31 : Nat), u (32 : Nat), u (33 : Nat), u (34 : Nat), u (35 : Nat), u (36 : Nat), u (37 : Nat), u (38 : Nat), u (39 : Nat), u (40 : Nat), u (41 : Nat), u (42 : Nat), u (43 : Nat), u (44 : Nat), u (45 : Nat), u (46 : Nat), u (47 : Nat), u (48 : Nat), u (49 : Nat), u (50 : Nat), u (51 : Nat), u (52 : Nat), u (53 : Nat), u (54 : Nat), u (55 : Nat), u (56 : Nat), u (57 : Nat), u (58 : Nat), u (59 : Nat), u (60 : Nat), u (61 : Nat), u (62 : Nat), u (63 : Nat), u (64 : Nat), u (65 : Nat), u (66 : Nat), u (67 : Nat), u (68 : Nat), u (69 : Nat), u (70 : Nat), u (71 : Nat), u (72 : Nat), u (73 : Nat), u (74 : Nat), u (75 : Nat), u (76 : Nat), u (77 : Nat), u (78 : Nat), u (79 : Nat), u (80 : Nat), u (81 : Nat), u (82 : Nat), u (83 : Nat), u (84 : Nat), u (85 : Nat), u (86 : Nat), u (87 : Nat), u (88 : Nat), u (89 : Nat), u (90 : Nat), u (91 : Nat), u (92 : Nat), u (93 : Nat), u (94 : Nat), u (95 : Nat), u (96 : Nat), u (97 : Nat), u (98 : Nat), u (99 : Nat), u (100 : Nat), u (101 : Nat), u (102 : Nat), u (103 : Nat), u (104 : Nat), u (105 : Nat), u (106 : Nat), u (107 : Nat), u (108 : Nat), u (109 : Nat), u (110 : Nat), u (111 : Nat), u (112 : Nat), u (113 : Nat), u (114 : Nat), I k, I (↑k.toNat : Int), AV.bool false, u (118 : Nat), u (119 : Nat), u (120 : Nat), u (121 : Nat), u (122 : Nat), u (123 : Nat), u (124 : Nat), u (125 : Nat), u (126 : Nat), u (127 : Nat), u (128 : Nat), u (129 : Nat), u (130 : Nat), u (131 : Nat), u (132 : Nat), u (133 : Nat), u (134 : Nat), u (135 : Nat), u (136 : Nat), u (137 : Nat), u (138 : Nat)] (H.mk [[I N, I D]] [] [])) (by kernel_rfl) ?_⟩
    refine ⟨by first | with_reducible assumption | omega | assumption, ?_⟩
    refine ⟨by first | with_reducible assumption | omega | assumption, ?_⟩
    exact .inl ⟨(), trivial, rfl, rfl, rfl⟩
theorem ok10 : FokM Tryd.prog none1 10 Tryd.f10 := ⟨mixed, by kernel_rfl, by kernel_rfl, by kernel_rfl, by kernel_rfl⟩
theorem r10b (g : List Int) (q : RK) (k : Int) (hg : pl g q) (hn : ¬ Gr g) : Body (En6 [c19.to, c28.to, c33.to, c40b.to, c23.to]) none1 Tryd.f10 [ls g (rr q), I k] .nil (.bool true, .nil) := by
  have p19 := pl_19 hg
  have p28 := pl_c hg
  have hc : ¬ Gr (cut g) := fun h => hn (cut_gr5.1 h)
  have p40 : (lim (cut g).length ∧ rok (cut g) (rcl (rr q))) ∧ ¬ Gr (cut g) := ⟨p28, hc⟩
  have h : rdE (cut g) k = 2 := (rd_bad (g := cut g) (k := k) (fun hb => hc (grB_iff.1 hb.1))).1
  have e0 : rdE (cut g) k ≠ 0 := by omega
  refine body_s ([Ans.o (Orc.val 18 (AV.sl (ints (cut g)) (cut g).length (rcl (rr q))) (H.mk [] [] [])), Ans.o (Orc.val 20 (AV.tup [AV.sl (ints (coV (cut g) k)) (coV (cut g) k).length (rn (coV (cut g) k)), I (rdE (cut g) k)]) (H.mk [] [] [])), Ans.o (Orc.val 25 (AV.sl (ints (cut g)) (cut g).length (rcl (rr q))) (H.mk [] [] [])), Ans.o (Orc.val 26 (AV.tup [AV.agg [I (wgN (cut g)), I (wgD (cut g))], I (wgE (cut g))]) (H.mk [] [] [])), Ans.o (Orc.val 31 (AV.sl (ints (cut g)) (cut g).length (rcl (rr q))) (H.mk [[I (wgN (cut g)), I (wgD (cut g))]] [] [])), Ans.o (Orc.val 32 (AV.tup [I 0, I 2]) (H.mk [[I (wgN (cut g)), I (wgD (cut g))]] [] [])), Ans.o (Orc.b true), Ans.o (Orc.b true), Ans.o (Orc.val 57 (AV.bool true) (H.mk [[I (wgN (cut g)), I (wgD (cut g))]] [] []))]) (aCall (Sof [c19.to, c28.to, c33.to, c40b.to, c23.to]) (AV.fn (Fn.func (19 : Nat)) [] []) [AV.sl (ints g) g.length (rr q)] (H.mk [] [] []) = some (AV.sl (ints (cut g)) (cut g).length (rcl (rr q)), H.mk [] [] []) ∧ aCall (Sof [c19.to, c28.to, c33.to, c40b.to, c23.to]) (AV.fn (Fn.func (28 : Nat)) [] []) [AV.sl (ints (cut g)) (cut g).length (rcl (rr q)), I k] (H.mk [] [] []) = some (AV.tup [AV.sl (ints (coV (cut g) k)) (coV (cut g) k).length (rn (coV (cut g) k)), I (rdE (cut g) k)], H.mk [] [] []) ∧ aCall (Sof [c19.to, c28.to, c33.to, c40b.to, c23.to]) (AV.fn (Fn.func (19 : Nat)) [] []) [AV.sl (ints g) g.length (rr q)] (H.mk [] [] []) = some (AV.sl (ints (cut g)) (cut g).length (rcl (rr q)), H.mk [] [] []) ∧ aCall (Sof [c19.to, c28.to, c33.to, c40b.to, c23.to]) (AV.fn (Fn.func (33 : Nat)) [] []) [AV.sl (ints (cut g)) (cut g).length (rcl (rr q))] (H.mk [] [] []) = some (AV.tup [AV.agg [I (wgN (cut g)), I (wgD (cut g))], I (wgE (cut g))], H.mk [] [] []) ∧ aCall (Sof [c19.to, c28.to, c33.to, c40b.to, c23.to]) (AV.fn (Fn.func (19 : Nat)) [] []) [AV.sl (ints g) g.length (rr q)] (H.mk [[I (wgN (cut g)), I (wgD (cut g))]] [] []) = some (AV.sl (ints (cut g)) (cut g).length (rcl (rr q)), H.mk [[I (wgN (cut g)), I (wgD (cut g))]] [] []) ∧ aCall (Sof [c19.to, c28.to, c33.to, c40b.to, c23.to]) (AV.fn (Fn.func (40 : Nat)) [] []) [AV.sl (ints (cut g)) (cut g).length (rcl (rr q))] (H.mk [[I (wgN (cut g)), I (wgD (cut g))]] [] []) = some (AV.tup [I 0, I 2], H.mk [[I (wgN (cut g)), I (wgD (cut g))]] [] []) ∧ rdE (cut g) k ≠ (0 : Int) ∧ rdE (cut g) k = (2 : Int) ∧ aCall (Sof [c19.to, c28.to, c33.to, c40b.to, c23.to]) (AV.fn (Fn.func (23 : Nat)) [] []) [] (H.mk [[I (wgN (cut g)), I (wgD (cut g))]] [] []) = some (AV.bool true, H.mk [[I (wgN (cut g)), I (wgD (cut g))]] [] []) ∧ (AV.bool true, H.mk [] [] []) = (AV.bool true, H.mk [] [] [])) (by kernel_rfl) ?_
  refine ⟨acall_hit (c := c19.to) (g, rr q) _ rfl p19, ?_⟩
  refine ⟨acall_hit (c := c28.to) (cut g, rcl (rr q), k) _ rfl p28, ?_⟩
  refine ⟨acall_hit (c := c19.to) (g, rr q) _ rfl p19, ?_⟩
  refine ⟨acall_hit (c := c33.to) (cut g, rcl (rr q)) _ rfl p28, ?_⟩
  refine ⟨acall_hit (c := c19.to) (g, rr q) _ rfl p19, ?_⟩
  refine ⟨acall_hit (c := c40b.to) (cut g, rcl (rr q)) _ rfl p40, ?_⟩
  refine ⟨by first | with_reducible assumption | omega | assumption, ?_⟩
  refine ⟨by first | with_reducible assumption | omega | assumption, ?_⟩
  refine ⟨acall_hit (c := c23.to) () _ rfl trivial, ?_⟩
  first | with_reducible rfl | (refine bleaf_t ?_; omega) | (refine bleaf_f ?_; omega) | (refine ileaf ?_; omega) | rfl | (exfalso; omega)
theorem r10e (g : List Int) (q : RK) (k : Int) (hg : pl g q) (hn : Gr g) (h : rdE (cut g) k ≠ 0) : Body (En6 [c19.to, c28.to, c33.to, c40g.to, c23.to]) none1 Tryd.f10 [ls g (rr q), I k] .nil (.bool true, .nil) := by
  have p19 := pl_19 hg
  have p28 := pl_c hg
  have p40 : (lim (cut g).length ∧ rok (cut g) (rcl (rr q))) ∧ Gr (cut g) := ⟨p28, cut_gr5.2 hn⟩
  rcases rdE_cases (cut g) k with e | e | e
  · exact absurd e h
  · refine body_s ([Ans.o (Orc.val 18 (AV.sl (ints (cut g)) (cut g).length (rcl (rr q))) (H.mk [] [] [])), Ans.o (Orc.val 20 (AV.tup [AV.sl (ints (coV (cut g) k)) (coV (cut g) k).length (rn (coV (cut g) k)), I (rdE (cut g) k)]) (H.mk [] [] [])), Ans.o (Orc.val 25 (AV.sl (ints (cut g)) (cut g).length (rcl (rr q))) (H.mk [] [] [])), Ans.o (Orc.val 26 (AV.tup [AV.agg [I (wgN (cut g)), I (wgD (cut g))], I (wgE (cut g))]) (H.mk [] [] [])), Ans.o (Orc.val 31 (AV.sl (ints (cut g)) (cut g).length (rcl (rr q))) (H.mk [[I (wgN (cut g)), I (wgD (cut g))]] [] [])), Ans.o (Orc.val 32 (AV.tup [I (↑(cvA (cut g)) : Int), I 0]) (H.mk [[I (wgN (cut g)), I (wgD (cut g))]] [] [])), Ans.o (Orc.b true), Ans.o (Orc.b true), Ans.o (Orc.val 57 (AV.bool true) (H.mk [[I (wgN (cut g)), I (wgD (cut g))]] [] []))]) (aCall (Sof [c19.to, c28.to, c33.to, c40g.to, c23.to]) (AV.fn (Fn.func (19 : Nat)) [] []) [AV.sl (ints g) g.length (rr q)] (H.mk [] [] []) = some (AV.sl (ints (cut g)) (cut g).length (rcl (rr q)), H.mk [] [] []) ∧ aCall (Sof [c19.to, c28.to, c33.to, c40g.to, c23.to]) (AV.fn (Fn.func (28 : Nat)) [] []) [AV.sl (ints (cut g)) (cut g).length (rcl (rr q)), I k] (H.mk [] [] []) = some (AV.tup [AV.sl (ints (coV (cut g) k)) (coV (cut g) k).length (rn (coV (cut g) k)), I (rdE (cut g) k)], H.mk [] [] []) ∧ aCall (Sof [c19.to, c28.to, c33.to, c40g.to, c23.to]) (AV.fn (Fn.func (19 : Nat)) [] []) [AV.sl (ints g) g.length (rr q)] (H.mk [] [] []) = some (AV.sl (ints (cut g)) (cut g).length (rcl (rr q)), H.mk [] [] []) ∧ aCall (Sof [c19.to, c28.to, c33.to, c40g.to, c23.to]) (AV.fn (Fn.func (33 : Nat)) [] []) [AV.sl (ints (cut g)) (cut g).length (rcl (rr q))] (H.mk [] [] []) = some (AV.tup [AV.agg [I (wgN (cut g)), I (wgD (cut g))], I (wgE (cut g))], H.mk [] [] []) ∧ aCall (Sof [c19.to, c28.to, c33.to, c40g.to, c23.to]) (AV.fn (Fn.func (19 : Nat)) [] []) [AV.sl (ints g) g.length (rr q)] (H.mk [[I (wgN (cut g)), I (wgD (cut g))]] [] []) = some (AV.sl (ints (cut g)) (cut g).length (rcl (rr q)), H.mk [[I (wgN (cut g)), I (wgD (cut g))]] [] []) ∧ aCall (Sof [c19.to, c28.to, c33.to, c40g.to, c23.to]) (AV.fn (Fn.func (40 : Nat)) [] []) [AV.sl (ints (cut g)) (cut g).length (rcl (rr q))] (H.mk [[I (wgN (cut g)), I (wgD (cut g))]] [] []) = some (AV.tup [I (↑(cvA (cut g)) : Int), I 0], H.mk [[I (wgN (cut g)), I (wgD (cut g))]] [] []) ∧ rdE (cut g) k ≠ (0 : Int) ∧ rdE (cut g) k = (2 : Int) ∧ aCall (Sof [c19.to, c28.to, c33.to, c40g.to, c23.to]) (AV.fn (Fn.func (23 : Nat)) [] []) [] (H.mk [[I (wgN (cut g)), I (wgD (cut g))]] [] []) = some (AV.bool true, H.mk [[I (wgN (cut g)), I (wgD (cut g))]] [] []) ∧ (AV.bool true, H.mk [] [] []) = (AV.bool true, H.mk [] [] [])) (by kernel_rfl) ?_
    refine ⟨acall_hit (c := c19.to) (g, rr q) _ rfl p19, ?_⟩
    refine ⟨acall_hit (c := c28.to) (cut g, rcl (rr q), k) _ rfl p28, ?_⟩
    refine ⟨acall_hit (c := c19.to) (g, rr q) _ rfl p19, ?_⟩
    refine ⟨acall_hit (c := c33.to) (cut g, rcl (rr q)) _ rfl p28, ?_⟩
    refine ⟨acall_hit (c := c19.to) (g, rr q) _ rfl p19, ?_⟩
    refine ⟨acall_hit (c := c40g.to) (cut g, rcl (rr q)) _ rfl p40, ?_⟩
    refine ⟨by first | with_reducible assumption | omega | assumption, ?_⟩
    refine ⟨by first | with_reducible assumption | omega | assumption, ?_⟩
    refine ⟨acall_hit (c := c23.to) () _ rfl trivial, ?_⟩
    first | with_reducible rfl | (refine bleaf_t ?_; omega) | (refine bleaf_f ?_; omega) | (refine ileaf ?_; omega) | rfl | (exfalso; omega)
  · have e2 : rdE (cut g) k ≠ 2 := by omega
    refine body_s ([Ans.o (Orc.val 18 (AV.sl (ints (cut g)) (cut g).length (rcl (rr q))) (H.mk [] [] [])), Ans.o (Orc.val 20 (AV.tup [AV.sl (ints (coV (cut g) k)) (coV (cut g) k).length (rn (coV (cut g) k)), I (rdE (cut g) k)]) (H.mk [] [] [])), Ans.o (Orc.val 25 (AV.sl (ints (cut g)) (cut g).length (rcl (rr q))) (H.mk [] [] [])), Ans.o (Orc.val 26 (AV.tup [AV.agg [I (wgN (cut g)), I (wgD (cut g))], I (wgE (cut g))]) (H.mk [] [] [])), Ans.o (Orc.val 31 (AV.sl (ints (cut g)) (cut g).length (rcl (rr q))) (H.mk [[I (wgN (cut g)), I (wgD (cut g))]] [] [])), Ans.o (Orc.val 32 (AV.tup [I (↑(cvA (cut g)) : Int), I 0]) (H.mk [[I (wgN (cut g)), I (wgD (cut g))]] [] [])), Ans.o (Orc.b true), Ans.o (Orc.b false), Ans.o (Orc.b true), Ans.o (Orc.val 57 (AV.bool true) (H.mk [[I (wgN (cut g)), I (wgD (cut g))]] [] []))]) (aCall (Sof [c19.to, c28.to, c33.to, c40g.to, c23.to]) (AV.fn (Fn.func (19 : Nat)) [] []) [AV.sl (ints g) g.length (rr q)] (H.mk [] [] []) = some (AV.sl (ints (cut g)) (cut g).length (rcl (rr q)), H.mk [] [] []) ∧ aCall (Sof [c19.to, c28.to, c33.to, c40g.to, c23.to]) (AV.fn (Fn.func (28 : Nat)) [] []) [AV.sl (ints (cut g)) (cut g).length (rcl (rr q)), I k] (H.mk [] [] []) = some (AV.tup [AV.sl (ints (coV (cut g) k)) (coV (cut g) k).length (rn (coV (cut g) k)), I (rdE (cut g) k)], H.mk [] [] []) ∧ aCall (Sof [c19.to, c28.to, c33.to, c40g.to, c23.to]) (AV.fn (Fn.func (19 : Nat)) [] []) [AV.sl (ints g) g.length (rr q)] (H.mk [] [] []) = some (AV.sl (ints (cut g)) (cut g).length (rcl (rr q)), H.mk [] [] []) ∧ aCall (Sof [c19.to, c28.to, c33.to, c40g.to, c23.to]) (AV.fn (Fn.func (33 : Nat)) [] []) [AV.sl (ints (cut g)) (cut g).length (rcl (rr q))] (H.mk [] [] []) = some (AV.tup [AV.agg [I (wgN (cut g)), I (wgD (cut g))], I (wgE (cut g))], H.mk [] [] []) ∧ aCall (Sof [c19.to, c28.to, c33.to, c40g.to, c23.to]) (AV.fn (Fn.func (19 : Nat)) [] []) [AV.sl (ints g) g.length (rr q)] (H.mk [[I (wgN (cut g)), I (wgD (cut g))]] [] []) = some (AV.sl (ints (cut g)) (cut g).length (rcl (rr q)), H.mk [[I (wgN (cut g)), I (wgD (cut g))]] [] []) ∧ aCall (Sof [c19.to, c28.to, c33.to, c40g.to, c23.to]) (AV.fn (Fn.func (40 : Nat)) [] []) [AV.sl (ints (cut g)) (cut g).length (rcl (rr q))] (H.mk [[I (wgN (cut g)), I (wgD (cut g))]] [] []) = some (AV.tup [I (↑(cvA (cut g)) : Int), I 0], H.mk [[I (wgN (cut g)), I (wgD (cut g))]] [] []) ∧ rdE (cut g) k ≠ (0 : Int) ∧ rdE (cut g) k ≠ (2 : Int) ∧ rdE (cut g) k = (6 : Int) ∧ aCall (Sof [c19.to, c28.to, c33.to, c40g.to, c23.to]) (AV.fn (Fn.func (23 : Nat)) [] []) [] (H.mk [[I (wgN (cut g)), I (wgD (cut g))]] [] []) = some (AV.bool true, H.mk [[I (wgN (cut g)), I (wgD (cut g))]] [] []) ∧ (AV.bool true, H.mk [] [] []) = (AV.bool true, H.mk [] [] [])) (by kernel_rfl) ?_
    refine ⟨acall_hit (c := c19.to) (g, rr q) _ rfl p19, ?_⟩
    refine ⟨acall_hit (c := c28.to) (cut g, rcl (rr q), k) _ rfl p28, ?_⟩
    refine ⟨acall_hit (c := c19.to) (g, rr q) _ rfl p19, ?_⟩
    refine ⟨acall_hit (c := c33.to) (cut g, rcl (rr q)) _ rfl p28, ?_⟩
    refine ⟨acall_hit (c := c19.to) (g, rr q) _ rfl p19, ?_⟩
    refine ⟨acall_hit (c := c40g.to) (cut g, rcl (rr q)) _ rfl p40, ?_⟩
    refine ⟨by first | with_reducible assumption | omega | assumption, ?_⟩
    refine ⟨by first | with_reducible assumption | omega | assumption, ?_⟩
    refine ⟨by first | with_reducible assumption | omega | assumption, ?_⟩
    refine ⟨acall_hit (c := c23.to) () _ rfl trivial, ?_⟩
    first | with_reducible rfl | (refine bleaf_t ?_; omega) | (refine bleaf_f ?_; omega) | (refine ileaf ?_; omega) | rfl | (exfalso; omega)
/-- what the good cases have in common -/
structure Good10 (g : List Int) (q : RK) (k : Int) : Prop where
  p19 : lim g.length ∧ rok g (rr q) ∧ em g (rr q)
  p28 : lim (cut g).length ∧ rok (cut g) (rcl (rr q))
  p40 : (lim (cut g).length ∧ rok (cut g) (rcl (rr q))) ∧ Gr (cut g)
  p29 : lim g.length ∧ rok g (rr q)
  b29 : grB g = true
  k1 : 1 ≤ k
  k3 : k ≤ 3
  eE : wgE (cut g) = 0
  p50 : 1 ≤ wgD (cut g) ∧ wgD (cut g) ≤ 720 ∧ wgD (cut g) ≤ wgN (cut g) ∧ wgN (cut g) ≤ 6 * wgD (cut g)
  hN : 0 ≤ wgN (cut g) ∧ wgN (cut g) ≤ 4320
  hD : 0 ≤ wgD (cut g) ∧ wgD (cut g) ≤ 4320
  hcov : wgN (cut g) ≤ (cvA (cut g) : Nat) * wgD (cut g)
  cvl : ((cvA (cut g) : Nat) : Int) ≤ 6
  c1 : ((coV (cut g) k).length : Int) * ipw (wgD (cut g)) k.toNat ≤ ipw (wgN (cut g)) k.toNat
  c2 : ((coV (cut g) k).length : Int) ≤ ipw (ftF (cut g) (cut g).length [0] : Nat) k.toNat
  cl : ((coV (cut g) k).length : Int) ≤ 64
  cg : cut g = g
theorem good10 {g : List Int} {q : RK} {k : Int} (hg : pl g q) (h : rdE (cut g) k = 0) : Good10 g q k := by
  obtain ⟨hgr, hk⟩ := rd_gr h
  have hgr' := cut_gr5.1 hgr
  obtain ⟨w0, _, _, _, w1, w2, w3, w4⟩ := wg_ok hgr
  have h6 := hgr.1.2
  have w5 : wgN (cut g) ≤ 6 * wgD (cut g) := by
    have := Int.mul_le_mul_of_nonneg_right (show ((cut g).length : Int) ≤ 6 by omega) (show 0 ≤ wgD (cut g) by omega)
    omega
  obtain ⟨b1, b2⟩ := bd_facts h
  have b3 := co_smB h
  exact ⟨pl_19 hg, pl_c hg, ⟨pl_c hg, hgr⟩, ⟨hg.1, pl_rok hg⟩, grB_t hgr', hk.1, hk.2, w0, ⟨w1, w2, w3, w5⟩, ⟨by omega, by omega⟩, ⟨by omega, by omega⟩, cover_wg hgr, by have := V_le (cut g) (2 ^ (cut g).length - 1); show ((V (cut g) (2 ^ (cut g).length - 1) : Nat) : Int) ≤ 6; omega, b1, b2, by omega, cut_g5 hgr.1⟩
theorem r10l (g : List Int) (q : RK) (k : Int) (h0 : rdE (cut g) k = 0) (h : Good10 g q k) (h5 : ¬ (cut g).length ≤ 5) : Body (E10 c43l) none1 Tryd.f10 [ls g (rr q), I k] .nil (.bool true, .nil) := by
  obtain ⟨p19, p28, p40, p29, b29, k1, k3, eE, p50, hN, hD, hcov, cvl, c1, c2, cl, cg⟩ := h
  have p43 : (lim (cut g).length ∧ rok (cut g) (rcl (rr q))) ∧ Gr (cut g) ∧ ¬ (cut g).length ≤ 5 := ⟨p28, p40.2, h5⟩
  have hl6 : (5 : Int) < (g.length : Int) := by rw [cg] at h5; omega
  have lpa := lp10a c43l g (rr q) k (ls (coV (cut g) k) (rn (coV (cut g) k))) (wgN (cut g)) (wgD (cut g)) ⟨k1, k3⟩ hN hD
  have m0 : 0 ≤ ((cvA (cut g) : Nat) : Int) * (wgD (cut g)) := Int.mul_nonneg (by omega) hD.1
  have m1 : ((cvA (cut g) : Nat) : Int) * (wgD (cut g)) ≤ 6 * (wgD (cut g)) := Int.mul_le_mul_of_nonneg_right cvl hD.1
  have ev0 : IntKind.i64.wrap (((cvA (cut g) : Nat) : Int) * (wgD (cut g))) = ((cvA (cut g) : Nat) : Int) * (wgD (cut g)) := wr _ (by omega) (by omega)
  have b2 := ipw_b hD.1 hD.2 (show k.toNat ≤ 3 by omega)
  have b1 := ipw_b hN.1 hN.2 (show k.toNat ≤ 3 by omega)
  have m2 : 0 ≤ ((coV (cut g) k).length : Int) * ipw (wgD (cut g)) k.toNat := Int.mul_nonneg (by omega) b2.1
  have ev1 : IntKind.i64.wrap (((coV (cut g) k).length : Int) * ipw (wgD (cut g)) k.toNat) = ((coV (cut g) k).length : Int) * ipw (wgD (cut g)) k.toNat := wr _ (by omega) (by omega)
  refine body_s ([Ans.o (Orc.val 18 (AV.sl (ints (cut g)) (cut g).length (rcl (rr q))) (H.mk [] [] [])), Ans.o (Orc.val 20 (AV.tup [AV.sl (ints (coV (cut g) k)) (coV (cut g) k).length (rn (coV (cut g) k)), I (rdE (cut g) k)]) (H.mk [] [] [])), Ans.o (Orc.val 25 (AV.sl (ints (cut g)) (cut g).length (rcl (rr q))) (H.mk [] [] [])), Ans.o (Orc.val 26 (AV.tup [AV.agg [I (wgN (cut g)), I (wgD (cut g))], I (wgE (cut g))]) (H.mk [] [] [])), Ans.o (Orc.val 31 (AV.sl (ints (cut g)) (cut g).length (rcl (rr q))) (H.mk [[I (wgN (cut g)), I (wgD (cut g))]] [] [])), Ans.o (Orc.val 32 (AV.tup [I (↑(cvA (cut g)) : Int), I 0]) (H.mk [[I (wgN (cut g)), I (wgD (cut g))]] [] [])), Ans.o (Orc.b false), Ans.o (Orc.val 39 (AV.bool true) (H.mk [[I (wgN (cut g)), I (wgD (cut g))]] [] [])), Ans.o (Orc.b false), Ans.o (Orc.b false), Ans.o (Orc.b false), Ans.o Orc.dflt, Ans.o (Orc.val 67 (AV.bool true) (H.mk [[I (wgN (cut g)), I (wgD (cut g))]] [] [])), Ans.o (Orc.val 76 (I ((↑(cvA (cut g)) : Int) * wgD (cut g))) H.nil), Ans.o (Orc.b false), Ans.loop [(0 : Nat), (1 : Nat), (5 : Nat), (7 : Nat), (11 : Nat), (12 : Nat), (79 : Nat), (80 : Nat)] [Out.mk Unit (AX.exit (0 : Nat)) [(0 : Nat), (1 : Nat), (5 : Nat), (11 : Nat), (12 : Nat)] (fun x => True) (fun x => [ls g (rr q), I k, ls (coV (cut g) k) (rn (coV (cut g) k)), I (ipw (wgN (cut g)) k.toNat), I (ipw (wgD (cut g)) k.toNat)]) (fun x => H.mk [[I (wgN (cut g)), I (wgD (cut g))]] [] []) fun y => [Ans.o (Orc.val 94 (I ((↑(coV (cut g) k).length : Int) * ipw (wgD (cut g)) k.toNat)) H.nil), Ans.o (Orc.b false), Ans.o (Orc.val 99 (AV.sl (ints (cut g)) (cut g).length (rcl (rr q))) (H.mk [[I (wgN (cut g)), I (wgD (cut g))]] [] [])), Ans.o (Orc.val 100 (AV.tup [I 0, I 2]) (H.mk [[I (wgN (cut g)), I (wgD (cut g))]] [] [])), Ans.o Orc.dflt, Ans.o Orc.dflt, Ans.o (Orc.b true), Ans.o (Orc.val 113 (AV.bool true) (H.mk [[I (wgN (cut g)), I (wgD (cut g))]] [] []))]]]) (aCall (Sof [c19.to, c28.to, c33.to, c40g.to, c29.to, c50.to, c43l.to, c23.to]) (AV.fn (Fn.func (19 : Nat)) [] []) [AV.sl (ints g) g.length (rr q)] (H.mk [] [] []) = some (AV.sl (ints (cut g)) (cut g).length (rcl (rr q)), H.mk [] [] []) ∧ aCall (Sof [c19.to, c28.to, c33.to, c40g.to, c29.to, c50.to, c43l.to, c23.to]) (AV.fn (Fn.func (28 : Nat)) [] []) [AV.sl (ints (cut g)) (cut g).length (rcl (rr q)), I k] (H.mk [] [] []) = some (AV.tup [AV.sl (ints (coV (cut g) k)) (coV (cut g) k).length (rn (coV (cut g) k)), I (rdE (cut g) k)], H.mk [] [] []) ∧ aCall (Sof [c19.to, c28.to, c33.to, c40g.to, c29.to, c50.to, c43l.to, c23.to]) (AV.fn (Fn.func (19 : Nat)) [] []) [AV.sl (ints g) g.length (rr q)] (H.mk [] [] []) = some (AV.sl (ints (cut g)) (cut g).length (rcl (rr q)), H.mk [] [] []) ∧ aCall (Sof [c19.to, c28.to, c33.to, c40g.to, c29.to, c50.to, c43l.to, c23.to]) (AV.fn (Fn.func (33 : Nat)) [] []) [AV.sl (ints (cut g)) (cut g).length (rcl (rr q))] (H.mk [] [] []) = some (AV.tup [AV.agg [I (wgN (cut g)), I (wgD (cut g))], I (wgE (cut g))], H.mk [] [] []) ∧ aCall (Sof [c19.to, c28.to, c33.to, c40g.to, c29.to, c50.to, c43l.to, c23.to]) (AV.fn (Fn.func (19 : Nat)) [] []) [AV.sl (ints g) g.length (rr q)] (H.mk [[I (wgN (cut g)), I (wgD (cut g))]] [] []) = some (AV.sl (ints (cut g)) (cut g).length (rcl (rr q)), H.mk [[I (wgN (cut g)), I (wgD (cut g))]] [] []) ∧ aCall (Sof [c19.to, c28.to, c33.to, c40g.to, c29.to, c50.to, c43l.to, c23.to]) (AV.fn (Fn.func (40 : Nat)) [] []) [AV.sl (ints (cut g)) (cut g).length (rcl (rr q))] (H.mk [[I (wgN (cut g)), I (wgD (cut g))]] [] []) = some (AV.tup [I (↑(cvA (cut g)) : Int), I 0], H.mk [[I (wgN (cut g)), I (wgD (cut g))]] [] []) ∧ rdE (cut g) k = (0 : Int) ∧ aCall (Sof [c19.to, c28.to, c33.to, c40g.to, c29.to, c50.to, c43l.to, c23.to]) (AV.fn (Fn.func (29 : Nat)) [] []) [AV.sl (ints g) g.length (rr q)] (H.mk [[I (wgN (cut g)), I (wgD (cut g))]] [] []) = some (AV.bool true, H.mk [[I (wgN (cut g)), I (wgD (cut g))]] [] []) ∧ (1 : Int) ≤ k ∧ k ≤ (3 : Int) ∧ wgE (cut g) = (0 : Int) ∧ aCall (Sof [c19.to, c28.to, c33.to, c40g.to, c29.to, c50.to, c43l.to, c23.to]) (AV.fn (Fn.func (50 : Nat)) [] []) [AV.agg [I (wgN (cut g)), I (wgD (cut g))]] (H.mk [[I (wgN (cut g)), I (wgD (cut g))]] [] []) = some (AV.bool true, H.mk [[I (wgN (cut g)), I (wgD (cut g))]] [] []) ∧ aBin Tryd.prog BinOp.mul (3 : Nat) (I (↑(cvA (cut g)) : Int)) (I (wgD (cut g))) = some (I ((↑(cvA (cut g)) : Int) * wgD (cut g))) ∧ wgN (cut g) ≤ (↑(cvA (cut g)) : Int) * wgD (cut g) ∧ LoopS (Env.mk Tryd.prog (Sof [c19.to, c28.to, c33.to, c40g.to, c29.to, c50.to, c43l.to, c23.to]) (Pof (P := Tryd.prog) []) H.nil.base (300 : Nat)) (loopAt Tryd.f10 (0 : Nat)) (139 : Nat) [(0 : Nat), (1 : Nat), (5 : Nat), (7 : Nat), (11 : Nat), (12 : Nat), (79 : Nat), (80 : Nat)] [AV.sl (ints g) g.length (rr q), I k, AV.sl (ints (coV (cut g) k)) (coV (cut g) k).length (rn (coV (cut g) k)), AV.ptr 0 0, I 1, I 1, I k, I 0] (H.mk [[I (wgN (cut g)), I (wgD (cut g))]] [] []) [Out.mk Unit (AX.exit (0 : Nat)) [(0 : Nat), (1 : Nat), (5 : Nat), (11 : Nat), (12 : Nat)] (fun x => True) (fun x => [ls g (rr q), I k, ls (coV (cut g) k) (rn (coV (cut g) k)), I (ipw (wgN (cut g)) k.toNat), I (ipw (wgD (cut g)) k.toNat)]) (fun x => H.mk [[I (wgN (cut g)), I (wgD (cut g))]] [] []) fun y => [Ans.o (Orc.val 94 (I ((↑(coV (cut g) k).length : Int) * ipw (wgD (cut g)) k.toNat)) H.nil), Ans.o (Orc.b false), Ans.o (Orc.val 99 (AV.sl (ints (cut g)) (cut g).length (rcl (rr q))) (H.mk [[I (wgN (cut g)), I (wgD (cut g))]] [] [])), Ans.o (Orc.val 100 (AV.tup [I 0, I 2]) (H.mk [[I (wgN (cut g)), I (wgD (cut g))]] [] [])), Ans.o Orc.dflt, Ans.o Orc.dflt, Ans.o (Orc.b true), Ans.o (Orc.val 113 (AV.bool true) (H.mk [[I (wgN (cut g)), I (wgD (cut g))]] [] []))]] ∧ (∀ (y : Unit), True → ∀ (u : Nat → AV), aBin Tryd.prog BinOp.mul (3 : Nat) (I (↑(coV (cut g) k).length : Int)) (I (ipw (wgD (cut g)) k.toNat)) = some (I ((↑(coV (cut g) k).length : Int) * ipw (wgD (cut g)) k.toNat)) ∧ (↑(coV (cut g) k).length : Int) * ipw (wgD (cut g)) k.toNat ≤ ipw (wgN (cut g)) k.toNat ∧ aCall (Sof [c19.to, c28.to, c33.to, c40g.to, c29.to, c50.to, c43l.to, c23.to]) (AV.fn (Fn.func (19 : Nat)) [] []) [AV.sl (ints g) g.length (rr q)] (H.mk [[I (wgN (cut g)), I (wgD (cut g))]] [] []) = some (AV.sl (ints (cut g)) (cut g).length (rcl (rr q)), H.mk [[I (wgN (cut g)), I (wgD (cut g))]] [] []) ∧ aCall (Sof [c19.to, c28.to, c33.to, c40g.to, c29.to, c50.to, c43l.to, c23.to]) (AV.fn (Fn.func (43 : Nat)) [] []) [AV.sl (ints (cut g)) (cut g).length (rcl (rr q))] (H.mk [[I (wgN (cut g)), I (wgD (cut g))]] [] []) = some (AV.tup [I 0, I 2], H.mk [[I (wgN (cut g)), I (wgD (cut g))]] [] []) ∧ (5 : Int) < (↑g.length : Int) ∧ aCall (Sof [c19.to, c28.to, c33.to, c40g.to, c29.to, c50.to, c43l.to, c23.to]) (AV.fn (Fn.func (23 : Nat)) [] []) [] (H.mk [[I (wgN (cut g)), I (wgD (cut g))]] [] []) = some (AV.bool true, H.mk [[I (wgN (cut g)), I (wgD (cut g))]] [] []) ∧ (AV.bool true, H.mk [] [] []) = (AV.bool true, H.mk [] [] [])) ∧ True) (by kernel_rfl) ?_
  refine ⟨acall_hit (c := c19.to) (g, rr q) _ rfl p19, ?_⟩
  refine ⟨acall_hit (c := c28.to) (cut g, rcl (rr q), k) _ rfl p28, ?_⟩
  refine ⟨acall_hit (c := c19.to) (g, rr q) _ rfl p19, ?_⟩
  refine ⟨acall_hit (c := c33.to) (cut g, rcl (rr q)) _ rfl p28, ?_⟩
  refine ⟨acall_hit (c := c19.to) (g, rr q) _ rfl p19, ?_⟩
  refine ⟨acall_hit (c := c40g.to) (cut g, rcl (rr q)) _ rfl p40, ?_⟩
  refine ⟨by first | with_reducible assumption | omega | assumption, ?_⟩
  refine ⟨acall_b (acall_hit (c := c29.to) (g, rr q) _ rfl p29) b29, ?_⟩
  refine ⟨by first | with_reducible assumption | omega | assumption, ?_⟩
  refine ⟨by first | with_reducible assumption | omega | assumption, ?_⟩
  refine ⟨by first | with_reducible assumption | omega | assumption, ?_⟩
  refine ⟨acall_hit (c := c50.to) ((wgN (cut g)), (wgD (cut g))) _ rfl p50, ?_⟩
  refine ⟨told_mul (by with_reducible assumption), ?_⟩
  refine ⟨by first | with_reducible assumption | omega | assumption, ?_⟩
  refine ⟨lpa, ?_⟩
  refine And.intro ?_ ?_
  · skip
    intro y
    intro w1
    intro u
    refine ⟨told_mul (by with_reducible assumption), ?_⟩
    refine ⟨by first | with_reducible assumption | omega | assumption, ?_⟩
    refine ⟨acall_hit (c := c19.to) (g, rr q) _ rfl p19, ?_⟩
    refine ⟨acall_hit (c := c43l.to) (cut g, rcl (rr q)) _ rfl p43, ?_⟩
    refine ⟨by first | with_reducible assumption | omega | assumption, ?_⟩
    refine ⟨acall_hit (c := c23.to) () _ rfl trivial, ?_⟩
    first | with_reducible rfl | (refine bleaf_t ?_; omega) | (refine bleaf_f ?_; omega) | (refine ileaf ?_; omega) | rfl | (exfalso; omega)
  · skip
    trivial
theorem r10g (g : List Int) (q : RK) (k : Int) (h0 : rdE (cut g) k = 0) (h : Good10 g q k) (h5 : (cut g).length ≤ 5) : Body (E10 c43g) none1 Tryd.f10 [ls g (rr q), I k] .nil (.bool true, .nil) := by
  obtain ⟨p19, p28, p40, p29, b29, k1, k3, eE, p50, hN, hD, hcov, cvl, c1, c2, cl, cg⟩ := h
  have p43 : (lim (cut g).length ∧ rok (cut g) (rcl (rr q))) ∧ Gr (cut g) ∧ (cut g).length ≤ 5 := ⟨p28, p40.2, h5⟩
  have hl6 : (g.length : Int) ≤ 5 := by rw [cg] at h5; omega
  obtain ⟨_, f0⟩ := ft_fac p40.2
  have f1 := ftF_le (cut g) (cut g).length [0]
  have fg : (cut g).length = g.length := by rw [cg]
  have f2 : (1 : Int) ≤ ((ftF (cut g) (cut g).length [0] : Nat) : Int) := by omega
  have f3 : ((ftF (cut g) (cut g).length [0] : Nat) : Int) ≤ (g.length : Int) := by omega
  have lpb := lp10b c43g g (rr q) k (ls (coV (cut g) k) (rn (coV (cut g) k))) ((ftF (cut g) (cut g).length [0] : Nat) : Int) (wgN (cut g)) (wgD (cut g)) ⟨k1, k3⟩ (by omega)
  have lpa := lp10a c43g g (rr q) k (ls (coV (cut g) k) (rn (coV (cut g) k))) (wgN (cut g)) (wgD (cut g)) ⟨k1, k3⟩ hN hD
  have m0 : 0 ≤ ((cvA (cut g) : Nat) : Int) * (wgD (cut g)) := Int.mul_nonneg (by omega) hD.1
  have m1 : ((cvA (cut g) : Nat) : Int) * (wgD (cut g)) ≤ 6 * (wgD (cut g)) := Int.mul_le_mul_of_nonneg_right cvl hD.1
  have ev0 : IntKind.i64.wrap (((cvA (cut g) : Nat) : Int) * (wgD (cut g))) = ((cvA (cut g) : Nat) : Int) * (wgD (cut g)) := wr _ (by omega) (by omega)
  have b2 := ipw_b hD.1 hD.2 (show k.toNat ≤ 3 by omega)
  have b1 := ipw_b hN.1 hN.2 (show k.toNat ≤ 3 by omega)
  have m2 : 0 ≤ ((coV (cut g) k).length : Int) * ipw (wgD (cut g)) k.toNat := Int.mul_nonneg (by omega) b2.1
  have ev1 : IntKind.i64.wrap (((coV (cut g) k).length : Int) * ipw (wgD (cut g)) k.toNat) = ((coV (cut g) k).length : Int) * ipw (wgD (cut g)) k.toNat := wr _ (by omega) (by omega)
  refine body_s ([Ans.o (Orc.val 18 (AV.sl (ints (cut g)) (cut g).length (rcl (rr q))) (H.mk [] [] [])), Ans.o (Orc.val 20 (AV.tup [AV.sl (ints (coV (cut g) k)) (coV (cut g) k).length (rn (coV (cut g) k)), I (rdE (cut g) k)]) (H.mk [] [] [])), Ans.o (Orc.val 25 (AV.sl (ints (cut g)) (cut g).length (rcl (rr q))) (H.mk [] [] [])), Ans.o (Orc.val 26 (AV.tup [AV.agg [I (wgN (cut g)), I (wgD (cut g))], I (wgE (cut g))]) (H.mk [] [] [])), Ans.o (Orc.val 31 (AV.sl (ints (cut g)) (cut g).length (rcl (rr q))) (H.mk [[I (wgN (cut g)), I (wgD (cut g))]] [] [])), Ans.o (Orc.val 32 (AV.tup [I (↑(cvA (cut g)) : Int), I 0]) (H.mk [[I (wgN (cut g)), I (wgD (cut g))]] [] [])), Ans.o (Orc.b false), Ans.o (Orc.val 39 (AV.bool true) (H.mk [[I (wgN (cut g)), I (wgD (cut g))]] [] [])), Ans.o (Orc.b false), Ans.o (Orc.b false), Ans.o (Orc.b false), Ans.o Orc.dflt, Ans.o (Orc.val 67 (AV.bool true) (H.mk [[I (wgN (cut g)), I (wgD (cut g))]] [] [])), Ans.o (Orc.val 76 (I ((↑(cvA (cut g)) : Int) * wgD (cut g))) H.nil), Ans.o (Orc.b false), Ans.loop [(0 : Nat), (1 : Nat), (5 : Nat), (7 : Nat), (11 : Nat), (12 : Nat), (79 : Nat), (80 : Nat)] [Out.mk Unit (AX.exit (0 : Nat)) [(0 : Nat), (1 : Nat), (5 : Nat), (11 : Nat), (12 : Nat)] (fun x => True) (fun x => [ls g (rr q), I k, ls (coV (cut g) k) (rn (coV (cut g) k)), I (ipw (wgN (cut g)) k.toNat), I (ipw (wgD (cut g)) k.toNat)]) (fun x => H.mk [[I (wgN (cut g)), I (wgD (cut g))]] [] []) fun y => [Ans.o (Orc.val 94 (I ((↑(coV (cut g) k).length : Int) * ipw (wgD (cut g)) k.toNat)) H.nil), Ans.o (Orc.b false), Ans.o (Orc.val 99 (AV.sl (ints (cut g)) (cut g).length (rcl (rr q))) (H.mk [[I (wgN (cut g)), I (wgD (cut g))]] [] [])), Ans.o (Orc.val 100 (AV.tup [I (↑(ftF (cut g) (cut g).length [(0 : Int)]) : Int), I 0]) (H.mk [[I (wgN (cut g)), I (wgD (cut g))]] [] [])), Ans.o Orc.dflt, Ans.loop [(0 : Nat), (5 : Nat), (13 : Nat), (15 : Nat), (115 : Nat), (116 : Nat)] [Out.mk Unit (AX.exit (2 : Nat)) [(0 : Nat), (5 : Nat), (13 : Nat), (15 : Nat)] (fun x => True) (fun x => [ls g (rr q), ls (coV (cut g) k) (rn (coV (cut g) k)), I (↑(ftF (cut g) (cut g).length [(0 : Int)]) : Int), I (ipw (↑(ftF (cut g) (cut g).length [(0 : Int)]) : Int) k.toNat)]) (fun x => H.mk [[I (wgN (cut g)), I (wgD (cut g))]] [] []) fun y => [Ans.o (Orc.b true), Ans.o (Orc.b true), Ans.o (Orc.b true), Ans.o (Orc.val 137 (AV.bool true) (H.mk [[I (wgN (cut g)), I (wgD (cut g))]] [] []))]]]]]) (aCall (Sof [c19.to, c28.to, c33.to, c40g.to, c29.to, c50.to, c43g.to, c23.to]) (AV.fn (Fn.func (19 : Nat)) [] []) [AV.sl (ints g) g.length (rr q)] (H.mk [] [] []) = some (AV.sl (ints (cut g)) (cut g).length (rcl (rr q)), H.mk [] [] []) ∧ aCall (Sof [c19.to, c28.to, c33.to, c40g.to, c29.to, c50.to, c43g.to, c23.to]) (AV.fn (Fn.func (28 : Nat)) [] []) [AV.sl (ints (cut g)) (cut g).length (rcl (rr q)), I k] (H.mk [] [] []) = some (AV.tup [AV.sl (ints (coV (cut g) k)) (coV (cut g) k).length (rn (coV (cut g) k)), I (rdE (cut g) k)], H.mk [] [] []) ∧ aCall (Sof [c19.to, c28.to, c33.to, c40g.to, c29.to, c50.to, c43g.to, c23.to]) (AV.fn (Fn.func (19 : Nat)) [] []) [AV.sl (ints g) g.length (rr q)] (H.mk [] [] []) = some (AV.sl (ints (cut g)) (cut g).length (rcl (rr q)), H.mk [] [] []) ∧ aCall (Sof [c19.to, c28.to, c33.to, c40g.to, c29.to, c50.to, c43g.to, c23.to]) (AV.fn (Fn.func (33 : Nat)) [] []) [AV.sl (ints (cut g)) (cut g).length (rcl (rr q))] (H.mk [] [] []) = some (AV.tup [AV.agg [I (wgN (cut g)), I (wgD (cut g))], I (wgE (cut g))], H.mk [] [] []) ∧ aCall (Sof [c19.to, c28.to, c33.to, c40g.to, c29.to, c50.to, c43g.to, c23.to]) (AV.fn (Fn.func (19 : Nat)) [] []) [AV.sl (ints g) g.length (rr q)] (H.mk [[I (wgN (cut g)), I (wgD (cut g))]] [] []) = some (AV.sl (ints (cut g)) (cut g).length (rcl (rr q)), H.mk [[I (wgN (cut g)), I (wgD (cut g))]] [] []) ∧ aCall (Sof [c19.to, c28.to, c33.to, c40g.to, c29.to, c50.to, c43g.to, c23.to]) (AV.fn (Fn.func (40 : Nat)) [] []) [AV.sl (ints (cut g)) (cut g).length (rcl (rr q))] (H.mk [[I (wgN (cut g)), I (wgD (cut g))]] [] []) = some (AV.tup [I (↑(cvA (cut g)) : Int), I 0], H.mk [[I (wgN (cut g)), I (wgD (cut g))]] [] []) ∧ rdE (cut g) k = (0 : Int) ∧ aCall (Sof [c19.to, c28.to, c33.to, c40g.to, c29.to, c50.to, c43g.to, c23.to]) (AV.fn (Fn.func (29 : Nat)) [] []) [AV.sl (ints g) g.length (rr q)] (H.mk [[I (wgN (cut g)), I (wgD (cut g))]] [] []) = some (AV.bool true, H.mk [[I (wgN (cut g)), I (wgD (cut g))]] [] []) ∧ (1 : Int) ≤ k ∧ k ≤ (3 : Int) ∧ wgE (cut g) = (0 : Int) ∧ aCall (Sof [c19.to, c28.to, c33.to, c40g.to, c29.to, c50.to, c43g.to, c23.to]) (AV.fn (Fn.func (50 : Nat)) [] []) [AV.agg [I (wgN (cut g)), I (wgD (cut g))]] (H.mk [[I (wgN (cut g)), I (wgD (cut g))]] [] []) = some (AV.bool true, H.mk [[I (wgN (cut g)), I (wgD (cut g))]] [] []) ∧ aBin Tryd.prog BinOp.mul (3 : Nat) (I (↑(cvA (cut g)) : Int)) (I (wgD (cut g))) = some (I ((↑(cvA (cut g)) : Int) * wgD (cut g))) ∧ wgN (cut g) ≤ (↑(cvA (cut g)) : Int) * wgD (cut g) ∧ LoopS (Env.mk Tryd.prog (Sof [c19.to, c28.to, c33.to, c40g.to, c29.to, c50.to, c43g.to, c23.to]) (Pof (P := Tryd.prog) []) H.nil.base (300 : Nat)) (loopAt Tryd.f10 (0 : Nat)) (139 : Nat) [(0 : Nat), (1 : Nat), (5 : Nat), (7 : Nat), (11 : Nat), (12 : Nat), (79 : Nat), (80 : Nat)] [AV.sl (ints g) g.length (rr q), I k, AV.sl (ints (coV (cut g) k)) (coV (cut g) k).length (rn (coV (cut g) k)), AV.ptr 0 0, I 1, I 1, I k, I 0] (H.mk [[I (wgN (cut g)), I (wgD (cut g))]] [] []) [Out.mk Unit (AX.exit (0 : Nat)) [(0 : Nat), (1 : Nat), (5 : Nat), (11 : Nat), (12 : Nat)] (fun x => True) (fun x => [ls g (rr q), I k, ls (coV (cut g) k) (rn (coV (cut g) k)), I (ipw (wgN (cut g)) k.toNat), I (ipw (wgD (cut g)) k.toNat)]) (fun x => H.mk [[I (wgN (cut g)), I (wgD (cut g))]] [] []) fun y => [Ans.o (Orc.val 94 (I ((↑(coV (cut g) k).length : Int) * ipw (wgD (cut g)) k.toNat)) H.nil), Ans.o (Orc.b false), Ans.o (Orc.val 99 (AV.sl (ints (cut g)) (cut g).length (rcl (rr q))) (H.mk [[I (wgN (cut g)), I (wgD (cut g))]] [] [])), Ans.o (Orc.val 100 (AV.tup [I (↑(ftF (cut g) (cut g).length [(0 : Int)]) : Int), I 0]) (H.mk [[I (wgN (cut g)), I (wgD (cut g))]] [] [])), Ans.o Orc.dflt, Ans.loop [(0 : Nat), (5 : Nat), (13 : Nat), (15 : Nat), (115 : Nat), (116 : Nat)] [Out.mk Unit (AX.exit (2 : Nat)) [(0 : Nat), (5 : Nat), (13 : Nat), (15 : Nat)] (fun x => True) (fun x => [ls g (rr q), ls (coV (cut g) k) (rn (coV (cut g) k)), I (↑(ftF (cut g) (cut g).length [(0 : Int)]) : Int), I (ipw (↑(ftF (cut g) (cut g).length [(0 : Int)]) : Int) k.toNat)]) (fun x => H.mk [[I (wgN (cut g)), I (wgD (cut g))]] [] []) fun y => [Ans.o (Orc.b true), Ans.o (Orc.b true), Ans.o (Orc.b true), Ans.o (Orc.val 137 (AV.bool true) (H.mk [[I (wgN (cut g)), I (wgD (cut g))]] [] []))]]]] ∧ (∀ (y : Unit), True → ∀ (u : Nat → AV), aBin Tryd.prog BinOp.mul (3 : Nat) (I (↑(coV (cut g) k).length : Int)) (I (ipw (wgD (cut g)) k.toNat)) = some (I ((↑(coV (cut g) k).length : Int) * ipw (wgD (cut g)) k.toNat)) ∧ (↑(coV (cut g) k).length : Int) * ipw (wgD (cut g)) k.toNat ≤ ipw (wgN (cut g)) k.toNat ∧ aCall (Sof [c19.to, c28.to, c33.to, c40g.to, c29.to, c50.to, c43g.to, c23.to]) (AV.fn (Fn.func (19 : Nat)) [] []) [AV.sl (ints g) g.length (rr q)] (H.mk [[I (wgN (cut g)), I (wgD (cut g))]] [] []) = some (AV.sl (ints (cut g)) (cut g).length (rcl (rr q)), H.mk [[I (wgN (cut g)), I (wgD (cut g))]] [] []) ∧ aCall (Sof [c19.to, c28.to, c33.to, c40g.to, c29.to, c50.to, c43g.to, c23.to]) (AV.fn (Fn.func (43 : Nat)) [] []) [AV.sl (ints (cut g)) (cut g).length (rcl (rr q))] (H.mk [[I (wgN (cut g)), I (wgD (cut g))]] [] []) = some (AV.tup [I (↑(ftF (cut g) (cut g).length [(0 : Int)]) : Int), I 0], H.mk [[I (wgN (cut g)), I (wgD (cut g))]] [] []) ∧ LoopS (Env.mk Tryd.prog (Sof [c19.to, c28.to, c33.to, c40g.to, c29.to, c50.to, c43g.to, c23.to]) (Pof (P := Tryd.prog) []) H.nil.base (300 : Nat)) (loopAt Tryd.f10 (1 : Nat)) (139 : Nat) [(0 : Nat), (5 : Nat), (13 : Nat), (15 : Nat), (115 : Nat), (116 : Nat)] [AV.sl (ints g) g.length (rr q), AV.sl (ints (coV (cut g) k)) (coV (cut g) k).length (rn (coV (cut g) k)), I (↑(ftF (cut g) (cut g).length [(0 : Int)]) : Int), I 1, I k, I 0] (H.mk [[I (wgN (cut g)), I (wgD (cut g))]] [] []) [Out.mk Unit (AX.exit (2 : Nat)) [(0 : Nat), (5 : Nat), (13 : Nat), (15 : Nat)] (fun x => True) (fun x => [ls g (rr q), ls (coV (cut g) k) (rn (coV (cut g) k)), I (↑(ftF (cut g) (cut g).length [(0 : Int)]) : Int), I (ipw (↑(ftF (cut g) (cut g).length [(0 : Int)]) : Int) k.toNat)]) (fun x => H.mk [[I (wgN (cut g)), I (wgD (cut g))]] [] []) fun y => [Ans.o (Orc.b true), Ans.o (Orc.b true), Ans.o (Orc.b true), Ans.o (Orc.val 137 (AV.bool true) (H.mk [[I (wgN (cut g)), I (wgD (cut g))]] [] []))]] ∧ (∀ (y : Unit), True → ∀ (u : Nat → AV), (1 : Int) ≤ (↑(ftF (cut g) (cut g).length [(0 : Int)]) : Int) ∧ (↑(ftF (cut g) (cut g).length [(0 : Int)]) : Int) ≤ (↑g.length : Int) ∧ (↑(coV (cut g) k).length : Int) ≤ ipw (↑(ftF (cut g) (cut g).length [(0 : Int)]) : Int) k.toNat ∧ aCall (Sof [c19.to, c28.to, c33.to, c40g.to, c29.to, c50.to, c43g.to, c23.to]) (AV.fn (Fn.func (23 : Nat)) [] []) [] (H.mk [[I (wgN (cut g)), I (wgD (cut g))]] [] []) = some (AV.bool true, H.mk [[I (wgN (cut g)), I (wgD (cut g))]] [] []) ∧ (AV.bool true, H.mk [] [] []) = (AV.bool true, H.mk [] [] [])) ∧ True) ∧ True) (by kernel_rfl) ?_
  refine ⟨acall_hit (c := c19.to) (g, rr q) _ rfl p19, ?_⟩
  refine ⟨acall_hit (c := c28.to) (cut g, rcl (rr q), k) _ rfl p28, ?_⟩
  refine ⟨acall_hit (c := c19.to) (g, rr q) _ rfl p19, ?_⟩
  refine ⟨acall_hit (c := c33.to) (cut g, rcl (rr q)) _ rfl p28, ?_⟩
  refine ⟨acall_hit (c := c19.to) (g, rr q) _ rfl p19, ?_⟩
  refine ⟨acall_hit (c := c40g.to) (cut g, rcl (rr q)) _ rfl p40, ?_⟩
  refine ⟨by first | with_reducible assumption | omega | assumption, ?_⟩
  refine ⟨acall_b (acall_hit (c := c29.to) (g, rr q) _ rfl p29) b29, ?_⟩
  refine ⟨by first | with_reducible assumption | omega | assumption, ?_⟩
  refine ⟨by first | with_reducible assumption | omega | assumption, ?_⟩
  refine ⟨by first | with_reducible assumption | omega | assumption, ?_⟩
  refine ⟨acall_hit (c := c50.to) ((wgN (cut g)), (wgD (cut g))) _ rfl p50, ?_⟩
  refine ⟨told_mul (by with_reducible assumption), ?_⟩
  refine ⟨by first | with_reducible assumption | omega | assumption, ?_⟩
  refine ⟨lpa, ?_⟩
  refine And.intro ?_ ?_
  · skip
    intro y
    intro w1
    intro u
    refine ⟨told_mul (by with_reducible assumption), ?_⟩
    refine ⟨by first | with_reducible assumption | omega | assumption, ?_⟩
    refine ⟨acall_hit (c := c19.to) (g, rr q) _ rfl p19, ?_⟩
    refine ⟨acall_hit (c := c43g.to) (cut g, rcl (rr q)) _ rfl p43, ?_⟩
    refine ⟨lpb, ?_⟩
    refine And.intro ?_ ?_
    · skip
      intro y
      intro w4
      intro u
      refine ⟨by first | with_reducible assumption | omega | assumption, ?_⟩
      refine ⟨by first | with_reducible assumption | omega | assumption, ?_⟩
      refine ⟨by first | with_reducible assumption | omega | assumption, ?_⟩
      refine ⟨acall_hit (c := c23.to) () _ rfl trivial, ?_⟩
      first | with_reducible rfl | (refine bleaf_t ?_; omega) | (refine bleaf_f ?_; omega) | (refine ileaf ?_; omega) | rfl | (exfalso; omega)
    · skip
      trivial
  · skip
    trivial
theorem bounds_ok (g : List Int) (q : RK) (k : Int) (h1 : lim g.length) (h2 : q.mt = true → g = []) : CallOk Tryd.prog 10 [ls g (rr q), I k] .nil (.bool true) .nil := by
  have hg : pl g q := ⟨h1, h2⟩
  by_cases h : rdE (cut g) k = 0
  · have hG := good10 hg h
    by_cases h5 : (cut g).length ≤ 5
    · exact (r10g g q k h hG h5).run ok10 (.pure _ (.pure _ (.pure _ (.pure _ (.pure _ (.pure _ (.pure _ (.pure _ .nil)))))))) rfl
    · exact (r10l g q k h hG h5).run ok10 (.pure _ (.pure _ (.pure _ (.pure _ (.pure _ (.pure _ (.pure _ (.pure _ .nil)))))))) rfl
  · by_cases hn : Gr g
    · exact (r10e g q k hg hn h).run ok10 (.pure _ (.pure _ (.pure _ (.pure _ (.pure _ .nil))))) rfl
    · exact (r10b g q k hg hn).run ok10 (.pure _ (.pure _ (.pure _ (.pure _ (.pure _ .nil))))) rfl
end Go.Proofs.Sur

