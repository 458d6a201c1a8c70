/- Layer 7: the law of closures, its loops. -/
import Derived.Test.YtmgbglnljnlapaaOrP
import Derived.KernelRfl
set_option linter.unusedSimpArgs false
set_option linter.unusedVariables false
set_option linter.unnecessarySimpa false
set_option maxHeartbeats 4000000
set_option maxRecDepth 100000
namespace Go.Proofs.Ord
open Go Go.VM
open Go.Proofs.Sur (andn andn_bit andn_le i_wrap i_and i_or i_andn i_shl i_shr bit_01)

theorem ix_intsI {t : TypeId} (hu : (elemT Try.prog t).bind (sizeT Try.prog) = some 1) {l : List Int} {n : Nat} {r : Room} {k : IntKind} {i : Int} (h0 : 0 ≤ i) (h : i < n) (hr : r ≠ .nil) :
    aIndexAddr Try.prog t (.sl (ints l) n r) (.int k i) = some (.cptr (ints (l.drop i.toNat))) := by
  obtain ⟨m, rfl⟩ : ∃ m : Nat, i = m := ⟨i.toNat, by omega⟩
  exact ix_ints hu (by omega) hr
theorem i_bitvI {x b : Int} (h0 : 0 ≤ x) (h : x < 64) (hb0 : 0 ≤ b) (hb : b ≤ 64) (v : Bool) (hv : bi x b.toNat = v) :
    x.fdiv (2 ^ min b.toNat IntKind.i64.bits) = ((x.toNat >>> b.toNat : Nat) : Int) ∧ IntKind.i64.wrap ((BitVec.ofInt IntKind.i64.bits ((x.toNat >>> b.toNat : Nat) : Int) &&& BitVec.ofInt IntKind.i64.bits 1).toNat : Int) = ((v.toNat : Nat) : Int) := by
  obtain ⟨n, rfl⟩ : ∃ n : Nat, b = n := ⟨b.toNat, by omega⟩
  exact i_bitv h0 h (by omega) v hv
/-- the pairs are those of an order -/
abbrev hasP (o : List Int) (l : List Pr) : Prop := ∀ k, k < l.length → prK o.length l k ∧ bi (ia o (l.getD k pair0).1.toNat) (l.getD k pair0).2.toNat = true
abbrev o16a (o : List Int) (ro : Room) (n i j : Int) : List Out :=
  [.mk Unit (.exit 0) [0, 2, 3, 9] (fun _ => True) (fun _ => [I n, I i, I j, ls o ro]) (fun _ => .nil) (fun _ => [])]
theorem simp16a : allSimpleM none1 (loopAt Try.f16 0) = true := by kernel_rfl
theorem lp16a (o : List Int) (ro : Room) (l : List Pr) (r : Room) (n i j : Int) (ho : OrdL o) (hro : rok o ro) (hbo : ro.bnd 0 = true) (h2 : l.length ≤ 30) (h3 : rok l r) (hbr : r.bnd 0 = true) (hP : hasP o l) :
    LoopS (En6 []) (loopAt Try.f16 0) 159 [0, 2, 3, 9, 53, 54, 55] [I n, I i, I j, ls o ro, pz l r, I l.length, I 0] .nil (o16a o ro n i j) := by
  have hR : Rests (En6 []) none1 := rests mixed .nil
  have h6 := ho.s.2
  have p6 : 2 ^ o.length ≤ 2 ^ 6 := Nat.pow_le_pow_right (by decide) h6
  refine loop_s hR simp16a (some 0) (by intro nb h; cases h; exact ⟨Nat.zero_le _, Nat.le_refl 0⟩) (fun k vs H => H = .nil ∧ vs = [I n, I i, I j, ls o ro, pz l r, I l.length, I (k : Nat)]) l.length ⟨rfl, rfl⟩ (by rintro nb h j vs h' ⟨rfl, _⟩; cases h; exact Nat.le_refl 0) ?_
  rintro k vs H hk ⟨rfl, rfl⟩
  by_cases hz : (k : Int) < l.length
  · have hz' : k < l.length := by omega
    have hr := rok_idx h3 hz'
    have ev0 := wj1 (j := k) (by omega)
    have hcl : AV.bnds 0 0 0 [I n, I i, I j, ls o ro, pz l r, I l.length, I (k + 1 : Nat)] = true := by simp [AV.bnds, AV.bnd, hbo, hbr]
    obtain ⟨c1, c2⟩ := hP k hz'
    have d0 := c1.1.1
    have d1 : (l.getD k pair0).1 < o.length := c1.1.2
    have d2 := c1.2.1
    have d3 : (l.getD k pair0).2 ≤ 64 := by have := c1.2.2; omega
    have d4 : (l.getD k pair0).1.toNat < o.length := by omega
    have hro' := rok_idx hro d4
    have hb := ho.r _ d4
    obtain ⟨ev1, ev2⟩ := i_bitvI hb.1 (show ia o (l.getD k pair0).1.toNat < 64 by omega) d2 d3 true c2
    have ev2 : IntKind.i64.wrap ((BitVec.ofInt IntKind.i64.bits (((ia o (l.getD k pair0).1.toNat).toNat >>> (l.getD k pair0).2.toNat : Nat) : Int) &&& BitVec.ofInt IntKind.i64.bits 1).toNat : Int) = 1 := ev2
    refine ⟨[Ans.o (Orc.b true), Ans.o (Orc.val 57 (AV.cptr (pairsA (List.drop k l))) H.nil), Ans.o (Orc.val 58 (AV.agg [I (l.getD k pair0).fst, I (l.getD k pair0).snd]) H.nil), Ans.o (Orc.val 62 (AV.cptr (ints (List.drop (l.getD k pair0).fst.toNat o))) H.nil), Ans.o (Orc.val 63 (I (o.getD (l.getD k pair0).fst.toNat i0)) H.nil), Ans.o (Orc.val 66 (I (↑((ia o (l.getD k pair0).fst.toNat).toNat >>> (l.getD k pair0).snd.toNat) : Int)) H.nil), Ans.o (Orc.val 67 (I (↑true.toNat : Int)) H.nil), Ans.o Orc.dflt, Ans.o (Orc.val 69 (I (↑(k + (1 : Nat)) : Int)) H.nil)], fun u => of_eq ((↑k : Int) < (↑l.length : Int) ∧ aIndexAddr Try.prog (22 : Nat) (AV.sl (pairsA l) l.length r) (I (↑k : Int)) = some (AV.cptr (pairsA (List.drop k l))) ∧ aLoad Try.prog (54 : Nat) (pairsA (List.drop k l)) = some (AV.agg [I (l.getD k pair0).fst, I (l.getD k pair0).snd]) ∧ aIndexAddr Try.prog (23 : Nat) (AV.sl (ints o) o.length ro) (I (l.getD k pair0).fst) = some (AV.cptr (ints (List.drop (l.getD k pair0).fst.toNat o))) ∧ aLoad Try.prog (3 : Nat) (ints (List.drop (l.getD k pair0).fst.toNat o)) = some (I (o.getD (l.getD k pair0).fst.toNat i0)) ∧ aBin Try.prog BinOp.shr (3 : Nat) (I (o.getD (l.getD k pair0).fst.toNat i0)) (I (l.getD k pair0).snd) = some (I (↑((ia o (l.getD k pair0).fst.toNat).toNat >>> (l.getD k pair0).snd.toNat) : Int)) ∧ aBin Try.prog BinOp.and (3 : Nat) (I (↑((ia o (l.getD k pair0).fst.toNat).toNat >>> (l.getD k pair0).snd.toNat) : Int)) (I 1) = some (I 1) ∧ aBin Try.prog BinOp.add (3 : Nat) (I (↑k : Int)) (I 1) = some (I (↑(k + (1 : Nat)) : Int)) ∧ (159 : Nat) = (159 : Nat) ∧ k < l.length ∧ Keep (AV.bnds (0 : Nat) (0 : Nat) (0 : Nat) [I n, I i, I j, AV.sl (ints o) o.length ro, AV.sl (pairsA l) l.length r, I (↑l.length : Int), I (↑(k + (1 : Nat)) : Int)] = true ∧ (H.mk [[I (l.getD k pair0).fst, I (l.getD k pair0).snd]] [] []).clean (0 : Nat) ∧ H.mk [] [] [] = H.mk [] [] [] ∧ [I n, I i, I j, AV.sl (ints o) o.length ro, AV.sl (pairsA l) l.length r, I (↑l.length : Int), I (↑(k + (1 : Nat)) : Int)] = [I n, I i, I j, AV.sl (ints o) o.length ro, AV.sl (pairsA l) l.length r, I (↑l.length : Int), I (↑(k + (1 : Nat)) : Int)])) (by kernel_rfl) ?_⟩
    refine ⟨by first | with_reducible assumption | omega | assumption, ?_⟩
    refine ⟨ix_pairs (by kernel_rfl) hz' hr, ?_⟩
    refine ⟨ld_pairs (by kernel_rfl) (by kernel_rfl) (by kernel_rfl) (by omega), ?_⟩
    refine ⟨ix_intsI (by kernel_rfl) d0 d1 hro', ?_⟩
    refine ⟨by first | exact ld_ints (by kernel_rfl) (by kernel_rfl) (by omega) | exact ldm_ints (by kernel_rfl) (by kernel_rfl) (by first | omega | (simp; omega)), ?_⟩
    refine ⟨by first | exact told_shr (by first | exact Int.natCast_nonneg _ | omega) (by with_reducible assumption) | exact told_shr (by omega) rfl, ?_⟩
    refine ⟨told_and (by with_reducible assumption), ?_⟩
    refine ⟨told_add (by with_reducible assumption), ?_⟩
    refine ⟨by first | with_reducible assumption | omega | assumption, ?_⟩
    refine ⟨by first | with_reducible assumption | omega | assumption, ?_⟩
    exact ⟨hcl, clean0 _, rfl, rfl⟩
  · have hz : (l.length : Int) ≤ k := by omega
    have hk' : k = l.length := by omega
    subst hk'
    refine ⟨[Ans.o (Orc.b false)], fun u => of_eq ((↑l.length : Int) ≤ (↑l.length : Int) ∧ (159 : Nat) = (159 : Nat) ∧ hits [Out.mk Unit (AX.exit (0 : Nat)) [(0 : Nat), (2 : Nat), (3 : Nat), (9 : Nat)] (fun x => True) (fun x => [I n, I i, I j, ls o ro]) (fun x => H.nil) fun x => []] (AX.exit (0 : Nat)) [I n, u (1 : Nat), I i, I j, u (4 : Nat), u (5 : Nat), u (6 : Nat), u (7 : Nat), u (8 : Nat), AV.sl (ints o) o.length ro, u (10 : Nat), u (11 : Nat), u (12 : Nat), u (13 : Nat), u (14 : Nat), u (15 : Nat), u (16 : Nat), u (17 : Nat), u (18 : Nat), u (19 : Nat), u (20 : Nat), u (21 : Nat), u (22 : Nat), u (23 : Nat), u (24 : Nat), u (25 : Nat), u (26 : Nat), u (27 : Nat), u (28 : Nat), u (29 : Nat), u (30 : Nat), u (31 : Nat), u (32 : Nat), u (33 : Nat), u (34 : Nat), u (35 : Nat), u (36 : Nat), u (37 : Nat), u (38 : Nat), u (39 : Nat), u (40 : Nat), u (41 : Nat), u (42 : Nat), u (43 : Nat), u (44 : Nat), u (45 : Nat), u (46 : Nat), u (47 : Nat), u (48 : Nat), u (49 : Nat), u (50 : Nat), u (51 : Nat), u (52 : Nat), AV.sl (pairsA l) l.length r, I (↑l.length : Int), I (↑l.length : Int), AV.bool false, u (57 : Nat), u (58 : Nat), u (59 : Nat), u (60 : Nat), u (61 : Nat), u (62 : Nat), u (63 : Nat), u (64 : Nat), u (65 : Nat), u (66 : Nat), u (67 : Nat), u (68 : Nat), u (69 : Nat), u (70 : Nat), u (71 : Nat), u (72 : Nat), u (73 : Nat), u (74 : Nat), u (75 : Nat), u (76 : Nat), u (77 : Nat), u (78 : Nat), u (79 : Nat), u (80 : Nat), u (81 : Nat), u (82 : Nat), u (83 : Nat), u (84 : Nat), u (85 : Nat), u (86 : Nat), u (87 : Nat), u (88 : Nat), u (89 : Nat), u (90 : Nat), u (91 : Nat), u (92 : Nat), u (93 : Nat), u (94 : Nat), u (95 : Nat), u (96 : Nat), u (97 : Nat), u (98 : Nat), u (99 : Nat), u (100 : Nat), u (101 : Nat), u (102 : Nat), u (103 : Nat), u (104 : Nat), u (105 : Nat), u (106 : Nat), u (107 : Nat), u (108 : Nat), u (109 : Nat), u (110 : Nat), u (111 : Nat), u (112 : Nat), u (113 : Nat), u (114 : Nat), u (115 : Nat), u (116 : Nat), u (117 : Nat), u (118 : Nat), u (119 : Nat), u (120 : Nat), u (121 : Nat), u (122 : Nat), u (123 : Nat), u (124 : Nat), u (125 : Nat), u (126 : Nat), u (127 : Nat), u (128 : Nat), u (129 : Nat), u (130 : Nat), u (131 : Nat), u (132 : Nat), u (133 : Nat), u (134 : Nat), u (135 : Nat), u (136 : Nat), u (137 : Nat), u (138 : Nat), u (139 : Nat), u (140 : Nat), u (141 : Nat), u (142 : Nat), u (143 : Nat), u (144 : Nat), u (145 : Nat), u (146 : Nat), u (147 : Nat), u (148 : Nat), u (149 : Nat), u (150 : Nat), u (151 : Nat), u (152 : Nat), u (153 : Nat), u (154 : Nat), u (155 : Nat), u (156 : Nat), u (157 : Nat), u (158 : Nat)] (H.mk [] [] [])) (by kernel_rfl) ?_⟩
    refine ⟨by first | with_reducible assumption | omega | assumption, ?_⟩
    refine ⟨by first | with_reducible assumption | omega | assumption, ?_⟩
    exact .inl ⟨(), trivial, rfl, rfl, rfl⟩
abbrev pg (L : List Pr) : AV := .sl (pairsA L) L.length (rmz 2 L)
abbrev hg (L : List Pr) : H := ⟨[], tkz L, []⟩
abbrev o16c (o : List Int) (ro : Room) (n i j : Int) (x : Nat) (L : List Pr) : List Out :=
  [.mk Unit (.exit 4) [0, 2, 3, 9, 13, 71, 72] (fun _ => True) (fun _ => [I n, I i, I j, ls o ro, pg L, I o.length, I x]) (fun _ => hg L) (fun _ => [])]
theorem simp16c : allSimpleM none1 (loopAt Try.f16 2) = true := by kernel_rfl
theorem lp16c (o : List Int) (ro : Room) (n i j : Int) (ho : OrdL o) (hro : rok o ro) (x : Nat) (hx : x < o.length) :
    LoopS (En6 []) (loopAt Try.f16 2) 159 [0, 2, 3, 9, 13, 14, 71, 72, 76, 77] [I n, I i, I j, ls o ro, pg (allP (rel o) o.length x), I x, I o.length, I x, I o.length, I 0] (hg (allP (rel o) o.length x)) (o16c o ro n i j x (allP (rel o) o.length (x + 1))) := by
  have hR : Rests (En6 []) none1 := rests mixed .nil
  have h6 := ho.s.2
  have p6 : 2 ^ o.length ≤ 2 ^ 6 := Nat.pow_le_pow_right (by decide) h6
  have hxr := rok_idx hro hx
  have hb := ho.r x hx
  refine loop_s hR simp16c none (by intro _ h; cases h) (fun y vs H => H = hg (allP (rel o) o.length x ++ rowP (rel o) x y) ∧ vs = [I n, I i, I j, ls o ro, pg (allP (rel o) o.length x ++ rowP (rel o) x y), I x, I o.length, I x, I o.length, I y]) o.length ⟨by rw [rowP, List.append_nil], by rw [rowP, List.append_nil]; rfl⟩ (by intro _ h; cases h) ?_
  rintro y vs H hy ⟨rfl, rfl⟩
  by_cases hz : (y : Int) < o.length
  · have hz' : y < o.length := by omega
    have ev0 := wj1 (j := y) (by omega)
    have hlen : (allP (rel o) o.length x ++ rowP (rel o) x y).length ≤ 1000000 := by
      have h1 : sumN (fun x => sumN (fun y => if (rel o x).testBit y = true then 1 else 0) o.length) x ≤ sumN (fun _ => o.length) x := by
        refine sumN_le fun a _ => ?_
        have := sumN_le (f := fun y => if (rel o a).testBit y = true then 1 else 0) (g := fun _ => 1) (n := o.length) (fun b _ => by split <;> omega)
        rw [sumN_const, Nat.mul_one] at this; exact this
      have h2 := sumN_le (f := fun z => if (rel o x).testBit z = true then 1 else 0) (g := fun _ => 1) (n := y) (fun b _ => by split <;> omega)
      rw [sumN_const] at h1 h2
      rw [List.length_append, allP_len, rowP_len]
      have h3 : x * o.length ≤ 6 * 6 := Nat.mul_le_mul (by omega) h6
      omega
    have hrow : rowP (rel o) x (y + 1) = if bi (ia o x) y = true then rowP (rel o) x y ++ [((x : Int), (y : Int))] else rowP (rel o) x y := rfl
    cases hv : bi (ia o x) y
    · rw [hv] at hrow
      have hrow : rowP (rel o) x (y + 1) = rowP (rel o) x y := hrow
      obtain ⟨ev1, ev2⟩ := i_bitv hb.1 (show ia o x < 64 by omega) (show y ≤ 64 by omega) false hv
      have ev2 : IntKind.i64.wrap ((BitVec.ofInt IntKind.i64.bits (((ia o x).toNat >>> y : Nat) : Int) &&& BitVec.ofInt IntKind.i64.bits 1).toNat : Int) = 0 := ev2
      refine ⟨[Ans.o (Orc.b true), Ans.o (Orc.val 82 (AV.cptr (ints (List.drop x o))) H.nil), Ans.o (Orc.val 83 (I (o.getD x i0)) H.nil), Ans.o (Orc.val 85 (I (↑((ia o x).toNat >>> y) : Int)) H.nil), Ans.o (Orc.val 86 (I (↑false.toNat : Int)) H.nil), Ans.o Orc.dflt, Ans.o (Orc.val 94 (I (↑(y + (1 : Nat)) : Int)) H.nil)], fun u => of_eq ((↑y : Int) < (↑o.length : Int) ∧ aIndexAddr Try.prog (23 : Nat) (AV.sl (ints o) o.length ro) (I (↑x : Int)) = some (AV.cptr (ints (List.drop x o))) ∧ aLoad Try.prog (3 : Nat) (ints (List.drop x o)) = some (I (o.getD x i0)) ∧ aBin Try.prog BinOp.shr (3 : Nat) (I (o.getD x i0)) (I (↑y : Int)) = some (I (↑((ia o x).toNat >>> y) : Int)) ∧ aBin Try.prog BinOp.and (3 : Nat) (I (↑((ia o x).toNat >>> y) : Int)) (I 1) = some (I 0) ∧ aBin Try.prog BinOp.add (3 : Nat) (I (↑y : Int)) (I 1) = some (I (↑(y + (1 : Nat)) : Int)) ∧ (159 : Nat) = (159 : Nat) ∧ y < o.length ∧ Keep (H.mk [] (tkz (allP (rel o) o.length x ++ rowP (rel o) x y)) [] = H.mk [] (tkz (allP (rel o) o.length x ++ rowP (rel o) x (y + (1 : Nat)))) [] ∧ [I n, I i, I j, AV.sl (ints o) o.length ro, AV.sl (pairsA (allP (rel o) o.length x ++ rowP (rel o) x y)) (allP (rel o) o.length x ++ rowP (rel o) x y).length (rmz (2 : Nat) (allP (rel o) o.length x ++ rowP (rel o) x y)), I (↑x : Int), I (↑o.length : Int), I (↑x : Int), I (↑o.length : Int), I (↑(y + (1 : Nat)) : Int)] = [I n, I i, I j, AV.sl (ints o) o.length ro, AV.sl (pairsA (allP (rel o) o.length x ++ rowP (rel o) x (y + (1 : Nat)))) (allP (rel o) o.length x ++ rowP (rel o) x (y + (1 : Nat))).length (rmz (2 : Nat) (allP (rel o) o.length x ++ rowP (rel o) x (y + (1 : Nat)))), I (↑x : Int), I (↑o.length : Int), I (↑x : Int), I (↑o.length : Int), I (↑(y + (1 : Nat)) : Int)])) (by kernel_rfl) ?_⟩
      refine ⟨by first | with_reducible assumption | omega | assumption, ?_⟩
      refine ⟨by first | exact ix_ints (by kernel_rfl) (by omega) (by assumption) | exact ix_ints (by kernel_rfl) (by omega) (rok_idx (by assumption) (by omega)), ?_⟩
      refine ⟨by first | exact ld_ints (by kernel_rfl) (by kernel_rfl) (by omega) | exact ldm_ints (by kernel_rfl) (by kernel_rfl) (by first | omega | (simp; omega)), ?_⟩
      refine ⟨by first | exact told_shr (by first | exact Int.natCast_nonneg _ | omega) (by with_reducible assumption) | exact told_shr (by omega) rfl, ?_⟩
      refine ⟨told_and (by with_reducible assumption), ?_⟩
      refine ⟨told_add (by with_reducible assumption), ?_⟩
      refine ⟨by first | with_reducible assumption | omega | assumption, ?_⟩
      refine ⟨by first | with_reducible assumption | omega | assumption, ?_⟩
      exact ⟨by rw [hrow], by rw [hrow]⟩
    · rw [hv] at hrow
      have hrow : rowP (rel o) x (y + 1) = rowP (rel o) x y ++ [((x : Int), (y : Int))] := hrow
      obtain ⟨ev1, ev2⟩ := i_bitv hb.1 (show ia o x < 64 by omega) (show y ≤ 64 by omega) true hv
      have ev2 : IntKind.i64.wrap ((BitVec.ofInt IntKind.i64.bits (((ia o x).toNat >>> y : Nat) : Int) &&& BitVec.ofInt IntKind.i64.bits 1).toNat : Int) = 1 := ev2
      have hap := app_pr (P := Try.prog) (t := 22) (by kernel_rfl) (l := allP (rel o) o.length x ++ rowP (rel o) x y) (x := (x : Int)) (y := (y : Int)) (bs := []) hlen
      rw [List.append_assoc, ← hrow] at hap
      refine ⟨[Ans.o (Orc.b true), Ans.o (Orc.val 82 (AV.cptr (ints (List.drop x o))) H.nil), Ans.o (Orc.val 83 (I (o.getD x i0)) H.nil), Ans.o (Orc.val 85 (I (↑((ia o x).toNat >>> y) : Int)) H.nil), Ans.o (Orc.val 86 (I (↑true.toNat : Int)) H.nil), Ans.o Orc.dflt, Ans.o (Orc.val 93 (AV.sl (pairsA (allP (rel o) o.length x ++ rowP (rel o) x (y + (1 : Nat)))) (allP (rel o) o.length x ++ rowP (rel o) x (y + (1 : Nat))).length (rmz (2 : Nat) (allP (rel o) o.length x ++ rowP (rel o) x (y + (1 : Nat))))) (H.mk [] (tkz (allP (rel o) o.length x ++ rowP (rel o) x (y + (1 : Nat)))) [])), Ans.o (Orc.val 94 (I (↑(y + (1 : Nat)) : Int)) H.nil)], fun u => of_eq ((↑y : Int) < (↑o.length : Int) ∧ aIndexAddr Try.prog (23 : Nat) (AV.sl (ints o) o.length ro) (I (↑x : Int)) = some (AV.cptr (ints (List.drop x o))) ∧ aLoad Try.prog (3 : Nat) (ints (List.drop x o)) = some (I (o.getD x i0)) ∧ aBin Try.prog BinOp.shr (3 : Nat) (I (o.getD x i0)) (I (↑y : Int)) = some (I (↑((ia o x).toNat >>> y) : Int)) ∧ aBin Try.prog BinOp.and (3 : Nat) (I (↑((ia o x).toNat >>> y) : Int)) (I 1) = some (I 1) ∧ aAppend Try.prog (22 : Nat) (22 : Nat) (AV.sl (pairsA (allP (rel o) o.length x ++ rowP (rel o) x y)) (allP (rel o) o.length x ++ rowP (rel o) x y).length (rmz (2 : Nat) (allP (rel o) o.length x ++ rowP (rel o) x y))) (AV.sl [I (↑x : Int), I (↑y : Int)] (1 : Nat) Room.full) (H.mk [] (tkz (allP (rel o) o.length x ++ rowP (rel o) x y)) []) = some (AV.sl (pairsA (allP (rel o) o.length x ++ rowP (rel o) x (y + (1 : Nat)))) (allP (rel o) o.length x ++ rowP (rel o) x (y + (1 : Nat))).length (rmz (2 : Nat) (allP (rel o) o.length x ++ rowP (rel o) x (y + (1 : Nat)))), H.mk [] (tkz (allP (rel o) o.length x ++ rowP (rel o) x (y + (1 : Nat)))) []) ∧ aBin Try.prog BinOp.add (3 : Nat) (I (↑y : Int)) (I 1) = some (I (↑(y + (1 : Nat)) : Int)) ∧ (159 : Nat) = (159 : Nat) ∧ y < o.length ∧ Keep (H.mk [] (tkz (allP (rel o) o.length x ++ rowP (rel o) x (y + (1 : Nat)))) [] = H.mk [] (tkz (allP (rel o) o.length x ++ rowP (rel o) x (y + (1 : Nat)))) [] ∧ [I n, I i, I j, AV.sl (ints o) o.length ro, AV.sl (pairsA (allP (rel o) o.length x ++ rowP (rel o) x (y + (1 : Nat)))) (allP (rel o) o.length x ++ rowP (rel o) x (y + (1 : Nat))).length (rmz (2 : Nat) (allP (rel o) o.length x ++ rowP (rel o) x (y + (1 : Nat)))), I (↑x : Int), I (↑o.length : Int), I (↑x : Int), I (↑o.length : Int), I (↑(y + (1 : Nat)) : Int)] = [I n, I i, I j, AV.sl (ints o) o.length ro, AV.sl (pairsA (allP (rel o) o.length x ++ rowP (rel o) x (y + (1 : Nat)))) (allP (rel o) o.length x ++ rowP (rel o) x (y + (1 : Nat))).length (rmz (2 : Nat) (allP (rel o) o.length x ++ rowP (rel o) x (y + (1 : Nat)))), I (↑x : Int), I (↑o.length : Int), I (↑x : Int), I (↑o.length : Int), I (↑(y + (1 : Nat)) : Int)])) (by kernel_rfl) ?_⟩
      refine ⟨by first | with_reducible assumption | omega | assumption, ?_⟩
      refine ⟨by first | exact ix_ints (by kernel_rfl) (by omega) (by assumption) | exact ix_ints (by kernel_rfl) (by omega) (rok_idx (by assumption) (by omega)), ?_⟩
      refine ⟨by first | exact ld_ints (by kernel_rfl) (by kernel_rfl) (by omega) | exact ldm_ints (by kernel_rfl) (by kernel_rfl) (by first | omega | (simp; omega)), ?_⟩
      refine ⟨by first | exact told_shr (by first | exact Int.natCast_nonneg _ | omega) (by with_reducible assumption) | exact told_shr (by omega) rfl, ?_⟩
      refine ⟨told_and (by with_reducible assumption), ?_⟩
      refine ⟨hap, ?_⟩
      refine ⟨told_add (by with_reducible assumption), ?_⟩
      refine ⟨by first | with_reducible assumption | omega | assumption, ?_⟩
      refine ⟨by first | with_reducible assumption | omega | assumption, ?_⟩
      exact ⟨rfl, rfl⟩
  · have hz : (o.length : Int) ≤ y := by omega
    have hy' : y = o.length := by omega
    subst hy'
    refine ⟨[Ans.o (Orc.b false)], fun u => of_eq ((↑o.length : Int) ≤ (↑o.length : Int) ∧ (159 : Nat) = (159 : Nat) ∧ hits [Out.mk Unit (AX.exit (4 : Nat)) [(0 : Nat), (2 : Nat), (3 : Nat), (9 : Nat), (13 : Nat), (71 : Nat), (72 : Nat)] (fun x => True) (fun x_1 => [I n, I i, I j, ls o ro, pg (allP (rel o) o.length (x + (1 : Nat))), I (↑o.length : Int), I (↑x : Int)]) (fun x_1 => hg (allP (rel o) o.length (x + (1 : Nat)))) fun x => []] (AX.exit (4 : Nat)) [I n, u (1 : Nat), I i, I j, u (4 : Nat), u (5 : Nat), u (6 : Nat), u (7 : Nat), u (8 : Nat), AV.sl (ints o) o.length ro, u (10 : Nat), u (11 : Nat), u (12 : Nat), AV.sl (pairsA (allP (rel o) o.length x ++ rowP (rel o) x o.length)) (allP (rel o) o.length x ++ rowP (rel o) x o.length).length (rmz (2 : Nat) (allP (rel o) o.length x ++ rowP (rel o) x o.length)), I (↑x : Int), u (15 : Nat), u (16 : Nat), u (17 : Nat), u (18 : Nat), u (19 : Nat), u (20 : Nat), u (21 : Nat), u (22 : Nat), u (23 : Nat), u (24 : Nat), u (25 : Nat), u (26 : Nat), u (27 : Nat), u (28 : Nat), u (29 : Nat), u (30 : Nat), u (31 : Nat), u (32 : Nat), u (33 : Nat), u (34 : Nat), u (35 : Nat), u (36 : Nat), u (37 : Nat), u (38 : Nat), u (39 : Nat), u (40 : Nat), u (41 : Nat), u (42 : Nat), u (43 : Nat), u (44 : Nat), u (45 : Nat), u (46 : Nat), u (47 : Nat), u (48 : Nat), u (49 : Nat), u (50 : Nat), u (51 : Nat), u (52 : Nat), u (53 : Nat), u (54 : Nat), u (55 : Nat), u (56 : Nat), u (57 : Nat), u (58 : Nat), u (59 : Nat), u (60 : Nat), u (61 : Nat), u (62 : Nat), u (63 : Nat), u (64 : Nat), u (65 : Nat), u (66 : Nat), u (67 : Nat), u (68 : Nat), u (69 : Nat), u (70 : Nat), I (↑o.length : Int), I (↑x : Int), u (73 : Nat), u (74 : Nat), u (75 : Nat), I (↑o.length : Int), I (↑o.length : Int), AV.bool false, u (79 : Nat), u (80 : Nat), u (81 : Nat), u (82 : Nat), u (83 : Nat), u (84 : Nat), u (85 : Nat), u (86 : Nat), u (87 : Nat), u (88 : Nat), u (89 : Nat), u (90 : Nat), u (91 : Nat), u (92 : Nat), u (93 : Nat), u (94 : Nat), u (95 : Nat), u (96 : Nat), u (97 : Nat), u (98 : Nat), u (99 : Nat), u (100 : Nat), u (101 : Nat), u (102 : Nat), u (103 : Nat), u (104 : Nat), u (105 : Nat), u (106 : Nat), u (107 : Nat), u (108 : Nat), u (109 : Nat), u (110 : Nat), u (111 : Nat), u (112 : Nat), u (113 : Nat), u (114 : Nat), u (115 : Nat), u (116 : Nat), u (117 : Nat), u (118 : Nat), u (119 : Nat), u (120 : Nat), u (121 : Nat), u (122 : Nat), u (123 : Nat), u (124 : Nat), u (125 : Nat), u (126 : Nat), u (127 : Nat), u (128 : Nat), u (129 : Nat), u (130 : Nat), u (131 : Nat), u (132 : Nat), u (133 : Nat), u (134 : Nat), u (135 : Nat), u (136 : Nat), u (137 : Nat), u (138 : Nat), u (139 : Nat), u (140 : Nat), u (141 : Nat), u (142 : Nat), u (143 : Nat), u (144 : Nat), u (145 : Nat), u (146 : Nat), u (147 : Nat), u (148 : Nat), u (149 : Nat), u (150 : Nat), u (151 : Nat), u (152 : Nat), u (153 : Nat), u (154 : Nat), u (155 : Nat), u (156 : Nat), u (157 : Nat), u (158 : Nat)] (H.mk [] (tkz (allP (rel o) o.length x ++ rowP (rel o) x o.length)) [])) (by kernel_rfl) ?_⟩
    refine ⟨by first | with_reducible assumption | omega | assumption, ?_⟩
    refine ⟨by first | with_reducible assumption | omega | assumption, ?_⟩
    exact .inl ⟨(), trivial, rfl, rfl, rfl⟩
abbrev o16b (o : List Int) (ro : Room) (n i j : Int) (L : List Pr) : List Out :=
  [.mk Unit (.exit 2) [0, 2, 3, 9, 13] (fun _ => True) (fun _ => [I n, I i, I j, ls o ro, pg L]) (fun _ => hg L) (fun _ => [])]
theorem simp16b : allSimpleM none1 (loopAt Try.f16 1) = true := by kernel_rfl
theorem lp16b (o : List Int) (ro : Room) (n i j : Int) (ho : OrdL o) (hro : rok o ro) :
    LoopS (En6 []) (loopAt Try.f16 1) 159 [0, 2, 3, 9, 13, 71, 72] [I n, I i, I j, ls o ro, .sl [] 0 .nil, I o.length, I 0] .nil (o16b o ro n i j (allP (rel o) o.length o.length)) := by
  have hR : Rests (En6 []) none1 := rests mixed .nil
  have h6 := ho.s.2
  refine loop_s hR simp16b none (by intro _ h; cases h) (fun x vs H => H = hg (allP (rel o) o.length x) ∧ vs = [I n, I i, I j, ls o ro, pg (allP (rel o) o.length x), I o.length, I x]) o.length ⟨rfl, rfl⟩ (by intro _ h; cases h) ?_
  rintro x vs H hx ⟨rfl, rfl⟩
  by_cases hz : (x : Int) < o.length
  · have hz' : x < o.length := by omega
    have ev0 := wj1 (j := x) (by omega)
    have hl := lp16c o ro n i j ho hro x hz'
    refine ⟨[Ans.o (Orc.b true), Ans.loop [(0 : Nat), (2 : Nat), (3 : Nat), (9 : Nat), (13 : Nat), (14 : Nat), (71 : Nat), (72 : Nat), (76 : Nat), (77 : Nat)] [Out.mk Unit (AX.exit (4 : Nat)) [(0 : Nat), (2 : Nat), (3 : Nat), (9 : Nat), (13 : Nat), (71 : Nat), (72 : Nat)] (fun x => True) (fun x_1 => [I n, I i, I j, ls o ro, pg (allP (rel o) o.length (x + (1 : Nat))), I (↑o.length : Int), I (↑x : Int)]) (fun x_1 => hg (allP (rel o) o.length (x + (1 : Nat)))) fun y => [Ans.o (Orc.val 95 (I (↑(x + (1 : Nat)) : Int)) H.nil)]]], fun u => of_eq ((↑x : Int) < (↑o.length : Int) ∧ LoopS (Env.mk Try.prog (Sof (P := Try.prog) []) (Pof (P := Try.prog) []) H.nil.base (300 : Nat)) (loopAt Try.f16 (2 : Nat)) (159 : Nat) [(0 : Nat), (2 : Nat), (3 : Nat), (9 : Nat), (13 : Nat), (14 : Nat), (71 : Nat), (72 : Nat), (76 : Nat), (77 : Nat)] [I n, I i, I j, AV.sl (ints o) o.length ro, AV.sl (pairsA (allP (rel o) o.length x)) (allP (rel o) o.length x).length (rmz (2 : Nat) (allP (rel o) o.length x)), I (↑x : Int), I (↑o.length : Int), I (↑x : Int), I (↑o.length : Int), I 0] (H.mk [] (tkz (allP (rel o) o.length x)) []) [Out.mk Unit (AX.exit (4 : Nat)) [(0 : Nat), (2 : Nat), (3 : Nat), (9 : Nat), (13 : Nat), (71 : Nat), (72 : Nat)] (fun x => True) (fun x_1 => [I n, I i, I j, ls o ro, pg (allP (rel o) o.length (x + (1 : Nat))), I (↑o.length : Int), I (↑x : Int)]) (fun x_1 => hg (allP (rel o) o.length (x + (1 : Nat)))) fun y => [Ans.o (Orc.val 95 (I (↑(x + (1 : Nat)) : Int)) H.nil)]] ∧ (∀ (y : Unit), True → ∀ (u : Nat → AV), aBin Try.prog BinOp.add (3 : Nat) (I (↑x : Int)) (I 1) = some (I (↑(x + (1 : Nat)) : Int)) ∧ (159 : Nat) = (159 : Nat) ∧ x < o.length ∧ Keep (H.mk [] (tkz (allP (rel o) o.length (x + (1 : Nat)))) [] = H.mk [] (tkz (allP (rel o) o.length (x + (1 : Nat)))) [] ∧ [I n, I i, I j, AV.sl (ints o) o.length ro, AV.sl (pairsA (allP (rel o) o.length (x + (1 : Nat)))) (allP (rel o) o.length (x + (1 : Nat))).length (rmz (2 : Nat) (allP (rel o) o.length (x + (1 : Nat)))), I (↑o.length : Int), I (↑(x + (1 : Nat)) : Int)] = [I n, I i, I j, AV.sl (ints o) o.length ro, AV.sl (pairsA (allP (rel o) o.length (x + (1 : Nat)))) (allP (rel o) o.length (x + (1 : Nat))).length (rmz (2 : Nat) (allP (rel o) o.length (x + (1 : Nat)))), I (↑o.length : Int), I (↑(x + (1 : Nat)) : Int)])) ∧ True) (by kernel_rfl) ?_⟩
    refine ⟨by first | with_reducible assumption | omega | assumption, ?_⟩
    refine ⟨hl, ?_⟩
    refine And.intro ?_ ?_
    · skip
      intro y
      intro w1
      intro u
      refine ⟨told_add (by with_reducible assumption), ?_⟩
      refine ⟨by first | with_reducible assumption | omega | assumption, ?_⟩
      refine ⟨by first | with_reducible assumption | omega | assumption, ?_⟩
      exact ⟨rfl, rfl⟩
    · skip
      trivial
  · have hz : (o.length : Int) ≤ x := by omega
    have hx' : x = o.length := by omega
    subst hx'
    refine ⟨[Ans.o (Orc.b false)], fun u => of_eq ((↑o.length : Int) ≤ (↑o.length : Int) ∧ (159 : Nat) = (159 : Nat) ∧ hits [Out.mk Unit (AX.exit (2 : Nat)) [(0 : Nat), (2 : Nat), (3 : Nat), (9 : Nat), (13 : Nat)] (fun x => True) (fun x => [I n, I i, I j, ls o ro, pg (allP (rel o) o.length o.length)]) (fun x => hg (allP (rel o) o.length o.length)) fun x => []] (AX.exit (2 : Nat)) [I n, u (1 : Nat), I i, I j, u (4 : Nat), u (5 : Nat), u (6 : Nat), u (7 : Nat), u (8 : Nat), AV.sl (ints o) o.length ro, u (10 : Nat), u (11 : Nat), u (12 : Nat), AV.sl (pairsA (allP (rel o) o.length o.length)) (allP (rel o) o.length o.length).length (rmz (2 : Nat) (allP (rel o) o.length o.length)), u (14 : Nat), u (15 : Nat), u (16 : Nat), u (17 : Nat), u (18 : Nat), u (19 : Nat), u (20 : Nat), u (21 : Nat), u (22 : Nat), u (23 : Nat), u (24 : Nat), u (25 : Nat), u (26 : Nat), u (27 : Nat), u (28 : Nat), u (29 : Nat), u (30 : Nat), u (31 : Nat), u (32 : Nat), u (33 : Nat), u (34 : Nat), u (35 : Nat), u (36 : Nat), u (37 : Nat), u (38 : Nat), u (39 : Nat), u (40 : Nat), u (41 : Nat), u (42 : Nat), u (43 : Nat), u (44 : Nat), u (45 : Nat), u (46 : Nat), u (47 : Nat), u (48 : Nat), u (49 : Nat), u (50 : Nat), u (51 : Nat), u (52 : Nat), u (53 : Nat), u (54 : Nat), u (55 : Nat), u (56 : Nat), u (57 : Nat), u (58 : Nat), u (59 : Nat), u (60 : Nat), u (61 : Nat), u (62 : Nat), u (63 : Nat), u (64 : Nat), u (65 : Nat), u (66 : Nat), u (67 : Nat), u (68 : Nat), u (69 : Nat), u (70 : Nat), I (↑o.length : Int), I (↑o.length : Int), AV.bool false, u (74 : Nat), u (75 : Nat), u (76 : Nat), u (77 : Nat), u (78 : Nat), u (79 : Nat), u (80 : Nat), u (81 : Nat), u (82 : Nat), u (83 : Nat), u (84 : Nat), u (85 : Nat), u (86 : Nat), u (87 : Nat), u (88 : Nat), u (89 : Nat), u (90 : Nat), u (91 : Nat), u (92 : Nat), u (93 : Nat), u (94 : Nat), u (95 : Nat), u (96 : Nat), u (97 : Nat), u (98 : Nat), u (99 : Nat), u (100 : Nat), u (101 : Nat), u (102 : Nat), u (103 : Nat), u (104 : Nat), u (105 : Nat), u (106 : Nat), u (107 : Nat), u (108 : Nat), u (109 : Nat), u (110 : Nat), u (111 : Nat), u (112 : Nat), u (113 : Nat), u (114 : Nat), u (115 : Nat), u (116 : Nat), u (117 : Nat), u (118 : Nat), u (119 : Nat), u (120 : Nat), u (121 : Nat), u (122 : Nat), u (123 : Nat), u (124 : Nat), u (125 : Nat), u (126 : Nat), u (127 : Nat), u (128 : Nat), u (129 : Nat), u (130 : Nat), u (131 : Nat), u (132 : Nat), u (133 : Nat), u (134 : Nat), u (135 : Nat), u (136 : Nat), u (137 : Nat), u (138 : Nat), u (139 : Nat), u (140 : Nat), u (141 : Nat), u (142 : Nat), u (143 : Nat), u (144 : Nat), u (145 : Nat), u (146 : Nat), u (147 : Nat), u (148 : Nat), u (149 : Nat), u (150 : Nat), u (151 : Nat), u (152 : Nat), u (153 : Nat), u (154 : Nat), u (155 : Nat), u (156 : Nat), u (157 : Nat), u (158 : Nat)] (H.mk [] (tkz (allP (rel o) o.length o.length)) [])) (by kernel_rfl) ?_⟩
    refine ⟨by first | with_reducible assumption | omega | assumption, ?_⟩
    refine ⟨by first | with_reducible assumption | omega | assumption, ?_⟩
    exact .inl ⟨(), trivial, rfl, rfl, rfl⟩
end Go.Proofs.Ord

