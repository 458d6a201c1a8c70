/- Layer 7: the law of counts, its loops. -/
import Derived.Test.YtmgbglnljnlapaaOrI
import Derived.KernelRfl
set_option linter.unusedSimpArgs false
set_option linter.unusedVariables false
set_option linter.unnecessarySimpa false
set_option maxHeartbeats 4000000
set_option maxRecDepth 100000
namespace Go.Proofs.Ord
open Go Go.VM
open Go.Proofs.Sur (andn andn_bit andn_le i_wrap i_and i_or i_andn i_shl i_shr bit_01)

noncomputable def c20t : PCtr Try.prog := narrow c20 (fun x : List Int × Room => (lim x.1.length ∧ rok x.1 x.2 ∧ em x.1 x.2) ∧ x.1.length ≤ 9) (fun x : List Int × Room => ls x.1 (rcl x.2)) (fun x hx => ⟨hx.1, by show ls (cut x.1) (rcl x.2) = _; rw [show cut x.1 = x.1 from List.take_of_length_le hx.2]⟩)
noncomputable def c24t : PCtr Try.prog := narrow c24 (fun x : List Int × Room => pI x.1 x.2 ∧ OrdL x.1) (fun _ : List Int × Room => .bool true) (fun x hx => ⟨hx.1, by show AV.bool (ordB x.1) = _; rw [ord_t hx.2]⟩)
theorem cut_id {o : List Int} (h : o.length ≤ 9) : cut o = o := List.take_of_length_le h
/-- an order's slice, of a relation -/
theorem rl_get {n : Nat} (A : Rel) {i : Nat} (h : i < n) : ia (rl n A) i = ((A i : Nat) : Int) := by
  simp [ia, rl, List.getD_eq_getElem?_getD, h]
theorem rel_rl {n : Nat} {A : Rel} (h : Rg n A) : rel (rl n A) = A := by
  funext i
  rcases Nat.lt_or_ge i n with q | q
  · simp only [rel]; rw [rl_get A q]; rfl
  · rw [rel_out (by simpa using q), h.2 i q]
theorem rl_ord {n : Nat} {A : Rel} (h : Od n A) (h1 : 1 ≤ n) (h6 : n ≤ 6) : OrdL (rl n A) := by
  refine ⟨⟨by simpa using h1, by simpa using h6⟩, fun i hi => ?_, ?_, ?_⟩
  · have hi' : i < n := by simpa using hi
    have := h.rg.1 i
    rw [q1, rl_get A hi', rl_len]; omega
  · rw [rel_rl h.rg]; exact h.tr
  · rw [rel_rl h.rg]; exact h.irr
theorem rl_pI {n : Nat} {A : Rel} (h : Od n A) (h6 : n ≤ 6) {r : Room} (hr : rok (rl n A) r) : pI (rl n A) r := by
  refine ⟨?_, hr, fun i hi => ?_⟩
  · show (rl n A).length ≤ _; rw [rl_len]; omega
  · have hi' : i < n := by simpa using hi
    have := rg_lt h.rg h6 i
    rw [rl_get A hi']; simp only [i64]; omega
theorem ctO_rl {n : Nat} {A : Rel} (h : Rg n A) : ctO (rl n A) = ct A n (alls n) := by rw [ctO, rel_rl h, rl_len]
/-- is nothing of the first elements below x? -/
def fsB (A : Rel) (x : Nat) : Nat → Bool
  | 0 => true
  | k + 1 => fsB A x k && !(A k).testBit x
theorem fsB_iff {A : Rel} {x : Nat} : ∀ {k : Nat}, fsB A x k = true ↔ ∀ y, y < k → (A y).testBit x = false
  | 0 => ⟨fun _ y h => by omega, fun _ => rfl⟩
  | k + 1 => by
    rw [fsB, Bool.and_eq_true, fsB_iff, Bool.not_eq_true']
    constructor
    · rintro ⟨h1, h2⟩ y hy
      rcases Nat.lt_or_ge y k with q | q
      · exact h1 y q
      · have : y = k := by omega
        subst this; exact h2
    · intro h
      exact ⟨fun y hy => h y (by omega), h k (by omega)⟩
theorem fs_mn {n : Nat} {A : Rel} {x : Nat} (hx : x < n) : mn A n (alls n) x = fsB A x n := by
  rw [Bool.eq_iff_iff, fsB_iff, mn]
  simp only [Bool.and_eq_true, decide_eq_true_eq, alls_bit]
  exact ⟨fun h y hy => h.2 y hy hy, fun h => ⟨hx, fun y hy _ => h y hy⟩⟩
/-- the lines without the first elements -/
abbrev lsC (A : Rel) (n : Nat) (x : Nat) : Nat := if mn A n (alls n) x = true then ct (lsR A x) (n - 1) (alls (n - 1)) else 0
abbrev sm (A : Rel) (n k : Nat) : Nat := sumN (lsC A n) k
theorem sm_all {n : Nat} {A : Rel} (h : Od n A) (h1 : 1 ≤ n) (h6 : n ≤ 6) : sm A n n = ct A n (alls n) := (ct_less h h1 (by omega)).symm
theorem alls_lt (n : Nat) : alls n < 2 ^ n := by have := Nat.two_pow_pos n; simp only [alls]; omega
theorem sm_le {n : Nat} {A : Rel} (h : Od n A) (h1 : 1 ≤ n) (h6 : n ≤ 6) {k : Nat} (hk : k ≤ n) : sm A n k ≤ 46656 :=
  Nat.le_trans (sumN_mono _ hk) (by rw [← sm, sm_all h h1 h6]; exact ct_le h6 (alls_lt n))
abbrev pJ (o : List Int) (r : Room) : Prop := pI o r ∧ em o r
abbrev is1 : List Nat := [0, 1, 2, 7, 9, 10, 11, 45, 46, 49, 50, 51]
abbrev o10b (o : List Int) (r : Room) (i j n S x : Int) (x' : Nat) (ts : List Nat) : List Out :=
  [.mk Unit (.exit 2) [0, 1, 2, 7, 9, 10, 11, 45, 46] (fun _ => True) (fun _ => [ls o r, I i, I j, I n, I S, I x', .bool (fsB (rel o) x' o.length), I o.length, I x']) (fun _ => ⟨[], ts, []⟩) (fun _ => [])]
theorem simp10b : allSimpleM none1 (loopAt Try.f10 1) = true := by kernel_rfl
theorem lp10b (c19x : PCtr Try.prog) (o : List Int) (r : Room) (h : pJ o r ∧ OrdL o) (i j n S : Int) (x : Nat) (hx : x < o.length) (ts : List Nat) :
    LoopS (En6 [c20t.to, c30t.to, c24t.to, c26.to, c27.to, c19x.to]) (loopAt Try.f10 1) 198 is1 [ls o r, I i, I j, I n, I S, I x, .bool true, I o.length, I x, ls o r, I o.length, I 0] ⟨[], ts, []⟩ (o10b o r i j n S x x ts) := by
  have hR : Rests (En6 [c20t.to, c30t.to, c24t.to, c26.to, c27.to, c19x.to]) none1 := rests mixed (.pure _ (.pure _ (.pure _ (.pure _ (.pure _ (.pure _ .nil))))))
  have h6 := h.2.s.2
  have p6 : 2 ^ o.length ≤ 2 ^ 6 := Nat.pow_le_pow_right (by decide) h6
  refine loop_s hR simp10b none (by intro _ h; cases h) (fun k vs H => H = ⟨[], ts, []⟩ ∧ vs = [ls o r, I i, I j, I n, I S, I x, .bool (fsB (rel o) x k), I o.length, I x, ls o r, I o.length, I k]) o.length ⟨rfl, rfl⟩ (by intro _ h; cases h) ?_
  rintro k vs H hk ⟨rfl, rfl⟩
  by_cases hz : (k : Int) < o.length
  · have hz' : k < o.length := by omega
    have hr := rok_idx h.1.1.2.1 hz'
    have ev0 := wj1 (j := k) (by omega)
    have hb := h.2.r k hz'
    have hkk : fsB (rel o) x (k + 1) = (fsB (rel o) x k && !bi (ia o k) x) := rfl
    cases hf : fsB (rel o) x k
    · rw [hf] at hkk
      have hkk : fsB (rel o) x (k + 1) = false := hkk
      refine ⟨[Ans.o (Orc.b true), Ans.o (Orc.val 53 (AV.cptr (ints (List.drop k o))) H.nil), Ans.o (Orc.val 54 (I (o.getD k i0)) H.nil), Ans.o (Orc.val 63 (I (↑(k + (1 : Nat)) : Int)) H.nil)], fun u => of_eq ((↑k : Int) < (↑o.length : Int) ∧ aIndexAddr Try.prog (23 : Nat) (AV.sl (ints o) o.length r) (I (↑k : Int)) = some (AV.cptr (ints (List.drop k o))) ∧ aLoad Try.prog (3 : Nat) (ints (List.drop k o)) = some (I (o.getD k i0)) ∧ aBin Try.prog BinOp.add (3 : Nat) (I (↑k : Int)) (I 1) = some (I (↑(k + (1 : Nat)) : Int)) ∧ (198 : Nat) = (198 : Nat) ∧ k < o.length ∧ Keep (H.mk [] ts [] = H.mk [] ts [] ∧ [AV.sl (ints o) o.length r, I i, I j, I n, I S, I (↑x : Int), AV.bool false, I (↑o.length : Int), I (↑x : Int), AV.sl (ints o) o.length r, I (↑o.length : Int), I (↑(k + (1 : Nat)) : Int)] = [AV.sl (ints o) o.length r, I i, I j, I n, I S, I (↑x : Int), AV.bool (fsB (rel o) x (k + (1 : Nat))), I (↑o.length : Int), I (↑x : Int), AV.sl (ints o) o.length r, I (↑o.length : Int), I (↑(k + (1 : Nat)) : Int)])) (by kernel_rfl) ?_⟩
      refine ⟨by first | with_reducible assumption | omega | assumption, ?_⟩
      refine ⟨by first | exact ix_ints (by kernel_rfl) (by omega) (by assumption) | exact ix_ints (by kernel_rfl) (by omega) (rok_idx (by assumption) (by omega)), ?_⟩
      refine ⟨by first | exact ld_ints (by kernel_rfl) (by kernel_rfl) (by omega) | exact ldm_ints (by kernel_rfl) (by kernel_rfl) (by first | omega | (simp; omega)), ?_⟩
      refine ⟨told_add (by with_reducible assumption), ?_⟩
      refine ⟨by first | with_reducible assumption | omega | assumption, ?_⟩
      refine ⟨by first | with_reducible assumption | omega | assumption, ?_⟩
      exact ⟨rfl, by rw [hkk]⟩
    · rw [hf] at hkk
      cases hv : bi (ia o k) x
      · rw [hv] at hkk
        have hkk : fsB (rel o) x (k + 1) = true := hkk
        obtain ⟨ev1, ev2⟩ := i_bitv hb.1 (show ia o k < 64 by omega) (show x ≤ 64 by omega) false hv
        have ev2 : IntKind.i64.wrap ((BitVec.ofInt IntKind.i64.bits (((ia o k).toNat >>> x : Nat) : Int) &&& BitVec.ofInt IntKind.i64.bits 1).toNat : Int) = 0 := ev2
        refine ⟨[Ans.o (Orc.b true), Ans.o (Orc.val 53 (AV.cptr (ints (List.drop k o))) H.nil), Ans.o (Orc.val 54 (I (o.getD k i0)) H.nil), Ans.o (Orc.val 59 (I (↑((ia o k).toNat >>> x) : Int)) H.nil), Ans.o (Orc.val 60 (I (↑false.toNat : Int)) H.nil), Ans.o Orc.dflt, Ans.o (Orc.val 63 (I (↑(k + (1 : Nat)) : Int)) H.nil)], fun u => of_eq ((↑k : Int) < (↑o.length : Int) ∧ aIndexAddr Try.prog (23 : Nat) (AV.sl (ints o) o.length r) (I (↑k : Int)) = some (AV.cptr (ints (List.drop k o))) ∧ aLoad Try.prog (3 : Nat) (ints (List.drop k o)) = some (I (o.getD k i0)) ∧ aBin Try.prog BinOp.shr (3 : Nat) (I (o.getD k i0)) (I (↑x : Int)) = some (I (↑((ia o k).toNat >>> x) : Int)) ∧ aBin Try.prog BinOp.and (3 : Nat) (I (↑((ia o k).toNat >>> x) : Int)) (I 1) = some (I 0) ∧ aBin Try.prog BinOp.add (3 : Nat) (I (↑k : Int)) (I 1) = some (I (↑(k + (1 : Nat)) : Int)) ∧ (198 : Nat) = (198 : Nat) ∧ k < o.length ∧ Keep (H.mk [] ts [] = H.mk [] ts [] ∧ [AV.sl (ints o) o.length r, I i, I j, I n, I S, I (↑x : Int), AV.bool true, I (↑o.length : Int), I (↑x : Int), AV.sl (ints o) o.length r, I (↑o.length : Int), I (↑(k + (1 : Nat)) : Int)] = [AV.sl (ints o) o.length r, I i, I j, I n, I S, I (↑x : Int), AV.bool (fsB (rel o) x (k + (1 : Nat))), I (↑o.length : Int), I (↑x : Int), AV.sl (ints o) o.length r, I (↑o.length : Int), I (↑(k + (1 : Nat)) : Int)])) (by kernel_rfl) ?_⟩
        refine ⟨by first | with_reducible assumption | omega | assumption, ?_⟩
        refine ⟨by first | exact ix_ints (by kernel_rfl) (by omega) (by assumption) | exact ix_ints (by kernel_rfl) (by omega) (rok_idx (by assumption) (by omega)), ?_⟩
        refine ⟨by first | exact ld_ints (by kernel_rfl) (by kernel_rfl) (by omega) | exact ldm_ints (by kernel_rfl) (by kernel_rfl) (by first | omega | (simp; omega)), ?_⟩
        refine ⟨by first | exact told_shr (by first | exact Int.natCast_nonneg _ | omega) (by with_reducible assumption) | exact told_shr (by omega) rfl, ?_⟩
        refine ⟨told_and (by with_reducible assumption), ?_⟩
        refine ⟨told_add (by with_reducible assumption), ?_⟩
        refine ⟨by first | with_reducible assumption | omega | assumption, ?_⟩
        refine ⟨by first | with_reducible assumption | omega | assumption, ?_⟩
        exact ⟨rfl, by rw [hkk]⟩
      · rw [hv] at hkk
        have hkk : fsB (rel o) x (k + 1) = false := hkk
        obtain ⟨ev1, ev2⟩ := i_bitv hb.1 (show ia o k < 64 by omega) (show x ≤ 64 by omega) true hv
        have ev2 : IntKind.i64.wrap ((BitVec.ofInt IntKind.i64.bits (((ia o k).toNat >>> x : Nat) : Int) &&& BitVec.ofInt IntKind.i64.bits 1).toNat : Int) = 1 := ev2
        refine ⟨[Ans.o (Orc.b true), Ans.o (Orc.val 53 (AV.cptr (ints (List.drop k o))) H.nil), Ans.o (Orc.val 54 (I (o.getD k i0)) H.nil), Ans.o (Orc.val 59 (I (↑((ia o k).toNat >>> x) : Int)) H.nil), Ans.o (Orc.val 60 (I (↑true.toNat : Int)) H.nil), Ans.o Orc.dflt, Ans.o (Orc.val 63 (I (↑(k + (1 : Nat)) : Int)) H.nil)], fun u => of_eq ((↑k : Int) < (↑o.length : Int) ∧ aIndexAddr Try.prog (23 : Nat) (AV.sl (ints o) o.length r) (I (↑k : Int)) = some (AV.cptr (ints (List.drop k o))) ∧ aLoad Try.prog (3 : Nat) (ints (List.drop k o)) = some (I (o.getD k i0)) ∧ aBin Try.prog BinOp.shr (3 : Nat) (I (o.getD k i0)) (I (↑x : Int)) = some (I (↑((ia o k).toNat >>> x) : Int)) ∧ aBin Try.prog BinOp.and (3 : Nat) (I (↑((ia o k).toNat >>> x) : Int)) (I 1) = some (I 1) ∧ aBin Try.prog BinOp.add (3 : Nat) (I (↑k : Int)) (I 1) = some (I (↑(k + (1 : Nat)) : Int)) ∧ (198 : Nat) = (198 : Nat) ∧ k < o.length ∧ Keep (H.mk [] ts [] = H.mk [] ts [] ∧ [AV.sl (ints o) o.length r, I i, I j, I n, I S, I (↑x : Int), AV.bool false, I (↑o.length : Int), I (↑x : Int), AV.sl (ints o) o.length r, I (↑o.length : Int), I (↑(k + (1 : Nat)) : Int)] = [AV.sl (ints o) o.length r, I i, I j, I n, I S, I (↑x : Int), AV.bool (fsB (rel o) x (k + (1 : Nat))), I (↑o.length : Int), I (↑x : Int), AV.sl (ints o) o.length r, I (↑o.length : Int), I (↑(k + (1 : Nat)) : Int)])) (by kernel_rfl) ?_⟩
        refine ⟨by first | with_reducible assumption | omega | assumption, ?_⟩
        refine ⟨by first | exact ix_ints (by kernel_rfl) (by omega) (by assumption) | exact ix_ints (by kernel_rfl) (by omega) (rok_idx (by assumption) (by omega)), ?_⟩
        refine ⟨by first | exact ld_ints (by kernel_rfl) (by kernel_rfl) (by omega) | exact ldm_ints (by kernel_rfl) (by kernel_rfl) (by first | omega | (simp; omega)), ?_⟩
        refine ⟨by first | exact told_shr (by first | exact Int.natCast_nonneg _ | omega) (by with_reducible assumption) | exact told_shr (by omega) rfl, ?_⟩
        refine ⟨told_and (by with_reducible assumption), ?_⟩
        refine ⟨told_add (by with_reducible assumption), ?_⟩
        refine ⟨by first | with_reducible assumption | omega | assumption, ?_⟩
        refine ⟨by first | with_reducible assumption | omega | assumption, ?_⟩
        exact ⟨rfl, by rw [hkk]⟩
  · have hz : (o.length : Int) ≤ k := by omega
    have hk' : k = o.length := by omega
    subst hk'
    refine ⟨[Ans.o (Orc.b false)], fun u => of_eq ((↑o.length : Int) ≤ (↑o.length : Int) ∧ (198 : Nat) = (198 : Nat) ∧ hits [Out.mk Unit (AX.exit (2 : Nat)) [(0 : Nat), (1 : Nat), (2 : Nat), (7 : Nat), (9 : Nat), (10 : Nat), (11 : Nat), (45 : Nat), (46 : Nat)] (fun x => True) (fun x_1 => [ls o r, I i, I j, I n, I S, I (↑x : Int), AV.bool (fsB (rel o) x o.length), I (↑o.length : Int), I (↑x : Int)]) (fun x => H.mk [] ts []) fun x => []] (AX.exit (2 : Nat)) [AV.sl (ints o) o.length r, I i, I j, u (3 : Nat), u (4 : Nat), u (5 : Nat), u (6 : Nat), I n, u (8 : Nat), I S, I (↑x : Int), AV.bool (fsB (rel o) x o.length), u (12 : Nat), u (13 : Nat), u (14 : Nat), u (15 : Nat), u (16 : Nat), u (17 : Nat), u (18 : Nat), u (19 : Nat), u (20 : Nat), u (21 : Nat), u (22 : Nat), u (23 : Nat), u (24 : Nat), u (25 : Nat), u (26 : Nat), u (27 : Nat), u (28 : Nat), u (29 : Nat), u (30 : Nat), u (31 : Nat), u (32 : Nat), u (33 : Nat), u (34 : Nat), u (35 : Nat), u (36 : Nat), u (37 : Nat), u (38 : Nat), u (39 : Nat), u (40 : Nat), u (41 : Nat), u (42 : Nat), u (43 : Nat), u (44 : Nat), I (↑o.length : Int), I (↑x : Int), u (47 : Nat), u (48 : Nat), AV.sl (ints o) o.length r, I (↑o.length : Int), I (↑o.length : Int), AV.bool false, u (53 : Nat), u (54 : Nat), u (55 : Nat), u (56 : Nat), u (57 : Nat), u (58 : Nat), u (59 : Nat), u (60 : Nat), u (61 : Nat), u (62 : Nat), u (63 : Nat), u (64 : Nat), u (65 : Nat), u (66 : Nat), u (67 : Nat), u (68 : Nat), u (69 : Nat), u (70 : Nat), u (71 : Nat), u (72 : Nat), u (73 : Nat), u (74 : Nat), u (75 : Nat), u (76 : Nat), u (77 : Nat), u (78 : Nat), u (79 : Nat), u (80 : Nat), u (81 : Nat), u (82 : Nat), u (83 : Nat), u (84 : Nat), u (85 : Nat), u (86 : Nat), u (87 : Nat), u (88 : Nat), u (89 : Nat), u (90 : Nat), u (91 : Nat), u (92 : Nat), u (93 : Nat), u (94 : Nat), u (95 : Nat), u (96 : Nat), u (97 : Nat), u (98 : Nat), u (99 : Nat), u (100 : Nat), u (101 : Nat), u (102 : Nat), u (103 : Nat), u (104 : Nat), u (105 : Nat), u (106 : Nat), u (107 : Nat), u (108 : Nat), u (109 : Nat), u (110 : Nat), u (111 : Nat), u (112 : Nat), u (113 : Nat), u (114 : Nat), u (115 : Nat), u (116 : Nat), u (117 : Nat), u (118 : Nat), u (119 : Nat), u (120 : Nat), u (121 : Nat), u (122 : Nat), u (123 : Nat), u (124 : Nat), u (125 : Nat), u (126 : Nat), u (127 : Nat), u (128 : Nat), u (129 : Nat), u (130 : Nat), u (131 : Nat), u (132 : Nat), u (133 : Nat), u (134 : Nat), u (135 : Nat), u (136 : Nat), u (137 : Nat), u (138 : Nat), u (139 : Nat), u (140 : Nat), u (141 : Nat), u (142 : Nat), u (143 : Nat), u (144 : Nat), u (145 : Nat), u (146 : Nat), u (147 : Nat), u (148 : Nat), u (149 : Nat), u (150 : Nat), u (151 : Nat), u (152 : Nat), u (153 : Nat), u (154 : Nat), u (155 : Nat), u (156 : Nat), u (157 : Nat), u (158 : Nat), u (159 : Nat), u (160 : Nat), u (161 : Nat), u (162 : Nat), u (163 : Nat), u (164 : Nat), u (165 : Nat), u (166 : Nat), u (167 : Nat), u (168 : Nat), u (169 : Nat), u (170 : Nat), u (171 : Nat), u (172 : Nat), u (173 : Nat), u (174 : Nat), u (175 : Nat), u (176 : Nat), u (177 : Nat), u (178 : Nat), u (179 : Nat), u (180 : Nat), u (181 : Nat), u (182 : Nat), u (183 : Nat), u (184 : Nat), u (185 : Nat), u (186 : Nat), u (187 : Nat), u (188 : Nat), u (189 : Nat), u (190 : Nat), u (191 : Nat), u (192 : Nat), u (193 : Nat), u (194 : Nat), u (195 : Nat), u (196 : Nat), u (197 : Nat)] (H.mk [] ts [])) (by kernel_rfl) ?_⟩
    refine ⟨by first | with_reducible assumption | omega | assumption, ?_⟩
    refine ⟨by first | with_reducible assumption | omega | assumption, ?_⟩
    exact .inl ⟨(), trivial, rfl, rfl, rfl⟩
/-- the tokens, with one for a slice that grew -/
def tkp (ts : List Nat) : List Int → List Nat
  | [] => ts
  | x :: l => ts ++ [(x :: l).length]
theorem app_intsg {t : TypeId} (hT : appT Try.prog t = true) {l : List Int} {x : Int} {ts : List Nat} (hn : l.length ≤ 1000000000) :
    aAppend Try.prog t t (.sl (ints l) l.length (rm ts.length l)) (.sl [I x] 1 .full) ⟨[], tkp ts l, []⟩ = some (.sl (ints (l ++ [x])) (l ++ [x]).length (rm ts.length (l ++ [x])), ⟨[], tkp ts (l ++ [x]), []⟩) := by
  obtain ⟨e, i, z, he, hi, hz, h1, h2, h3⟩ := appT_of hT
  have hb : (l.length + 1) * i.bytes ≤ 2 ^ 47 := Nat.le_trans (Nat.mul_le_mul (Nat.succ_le_succ hn) h2) (by decide)
  have hm : l.length + 1 ≤ maxLen := Nat.le_trans (Nat.succ_le_succ hn) (by decide)
  cases l with
  | nil => simp [aAppend, he, hi, hz, h1, h3, slCells, AV.one, rm, tkp, ints] at hb hm ⊢; exact ⟨by omega, by decide⟩
  | cons y l =>
    simp [aAppend, he, hi, hz, h1, h3, slCells, AV.one, rm, tkp, ints] at hb hm ⊢
    exact ⟨hb, hm⟩
/-- how many of the first elements are not x -/
def cnt (x k : Nat) : Nat := if x < k then k - 1 else k
theorem rl_next (A : Rel) (n : Nat) : rl n A ++ [((A n : Nat) : Int)] = rl (n + 1) A := by
  simp [rl, List.range_succ]
theorem ls_next {A : Rel} {x k : Nat} (h : k ≠ x) : rl (cnt x k) (lsR A x) ++ [((sq x (A k) : Nat) : Int)] = rl (cnt x (k + 1)) (lsR A x) := by
  have h1 : cnt x (k + 1) = cnt x k + 1 := by simp only [cnt]; split <;> split <;> omega
  have h2 : up x (cnt x k) = k := by simp only [up, cnt]; split <;> split <;> omega
  rw [h1, ← rl_next]
  simp only [lsR, h2]
theorem ls_skip {A : Rel} {x : Nat} : rl (cnt x x) (lsR A x) = rl (cnt x (x + 1)) (lsR A x) := by
  have h1 : cnt x (x + 1) = cnt x x := by simp only [cnt]; split <;> split <;> omega
  rw [h1]
end Go.Proofs.Ord

