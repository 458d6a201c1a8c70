/- Joined: SzQ, SzR. -/
import Derived.Test.YtlomlnkafakloaaDoorSzM
import Derived.Test.YtlomlnkafakloaaDoorSzP
import Derived.Test.YtlomlnkafakloaaDoorSzK
import Derived.Test.YtlomlnkafakloaaDoorSuJ0
import Derived.KernelRfl
set_option linter.unusedSimpArgs false
set_option linter.unusedVariables false
set_option linter.unnecessarySimpa false
section
set_option maxHeartbeats 4000000
set_option maxRecDepth 100000
namespace Go.Proofs.Sur
open Go Go.VM

theorem clonep_no (l : List Pr) (n : Nat) (hn : l.length = n) (hb : n ≤ 1000000000) (H : H) : CallOk Tryd.prog 35 [.sl (pairsA l) n .no] H (.sl (pairsA l) n .no) H := by
  subst hn
  cases l with
  | nil => exact pure_call ((r35z.run ok35 .nil rfl).drop rfl) rfl rfl H
  | cons x l =>
    have := ((r35 x l _ rfl hb).run ok35 .nil rfl).drop (by show AV.plains (pairsA (x :: l)) = true; exact plains_pairs _)
    simp only [AV.wkd, wkds_pairs, Room.wk] at this
    exact pure_call this (by simp [AV.bnds, AV.bnd, Room.bnd, -pairsA_cons]) (by simp [AV.bnd, Room.bnd, -pairsA_cons]) H
noncomputable def c35 : PCtr Tryd.prog where
  f := 35
  X := List Pr × Nat
  args x := [.sl (pairsA x.1) x.2 .no]
  pre x := x.1.length = x.2 ∧ x.2 ≤ 1000000000
  v x := .sl (pairsA x.1) x.2 .no
  det := by
    rintro ⟨l, n⟩ ⟨l', n'⟩ e _ _
    simp at e
    simp [e]
  ok := by
    rintro ⟨l, n⟩ ⟨h1, h2⟩
    exact ⟨ok35.call, fun H => clonep_no l n h1 h2 H⟩
noncomputable def c19k (g : List Int) (hg : Gr g) : PCtr Tryd.prog where
  f := 19
  X := Unit
  args _ := [ls g .no]
  pre _ := True
  v _ := ls g .no
  det _ _ _ _ _ := rfl
  ok _ _ := by
    have h6 := hg.1.2
    have hc := c19.ok (g, .no) ⟨by show g.length ≤ _; omega, fun _ => no_ne, fun h => by cases h⟩
    have hcut : cut g = g := List.take_of_length_le (by omega)
    have e : c19.v (g, .no) = ls g .no := by
      show ls (cut g) (rcl .no) = _
      rw [hcut]; rfl
    rw [e] at hc
    exact hc
abbrev mo (n : Nat) : AV := .msl 1 0 n n 2
theorem ixz {P : Program} {t : TypeId} (hu : (elemT P t).bind (sizeT P) = some 2) {b n c z : Nat} {k : IntKind} {i : Nat} (h : i < n) : aIndexAddr P t (.msl b 0 n c z) (.int k i) = some (.ptr b (0 + i * 2)) := by
  rw [Nat.zero_add]; exact ixm_pairs hu h
theorem ixzI {P : Program} {t : TypeId} (hu : (elemT P t).bind (sizeT P) = some 2) {b n c z : Nat} {k : IntKind} {x : Int} (h0 : 0 ≤ x) (h : x.toNat < n) : aIndexAddr P t (.msl b 0 n c z) (.int k x) = some (.ptr b (0 + x.toNat * 2)) := by
  have := ixz (P := P) (t := t) hu (b := b) (n := n) (c := c) (z := z) (k := k) (i := x.toNat) h
  rw [show ((x.toNat : Nat) : Int) = x from by omega] at this
  exact this
noncomputable def c34o (g : List Int) (O : List Pr) (b : Bool) (hg : Gr g) (hO : O.length = g.length) (hb : liB g O = true) (he : liE g O = 0) : Ctr Tryd.prog where
  f := 34
  X := Unit ⊕ (List Pr × Nat × Room)
  args x := match x with
    | .inl _ => [ls g .no, mo g.length]
    | .inr y => [ls g .no, .sl (pairsA y.1) y.2.1 y.2.2]
  pre x h := match x with
    | .inl _ => h.blk[1]? = some (pairsA O)
    | .inr y => y.1.length = y.2.1 ∧ (lim y.1.length ∧ rok y.1 y.2.2) ∧ liB g y.1 = b
  res x h := match x with
    | .inl _ => (.tup [.bool true, I 0], h)
    | .inr y => (.tup [.bool b, I (liE g y.1)], h)
  det := by
    rintro (_ | ⟨l, n, r⟩) (_ | ⟨l', n', r'⟩) h e _ _
    · rfl
    · simp at e
    · simp at e
    · simp at e
      simp [e]
  ok := by
    have h6 := hg.1.2
    have pg : lim g.length ∧ rok g .no := ⟨by show g.length ≤ _; omega, fun _ => no_ne⟩
    rintro (_ | ⟨l, n, r⟩) h hp
    · have hc := c34.ok (g, .no, O, .no) ⟨pg, ⟨by show O.length ≤ _; omega, fun _ => no_ne⟩⟩
      refine ⟨hc.1, ?_⟩
      have hc := hc.2 .nil
      have e : c34.v (g, .no, O, .no) = .tup [.bool true, I 0] := by
        show AV.tup [.bool (liB g O), I (liE g O)] = _
        rw [hb, he]
      rw [e] at hc
      have hv : View h (mo g.length) (pz O .no) := by
        have := View.msl (h := h) 1 0 g.length g.length 2 (pairsA O) hp (by simp [hO])
        have e : ((pairsA O).drop 0).take (g.length * 2) = pairsA O := by rw [List.drop_zero, List.take_of_length_le (by simp [hO])]
        rw [e] at this
        have e2 : pz O .no = .sl (pairsA O) g.length .no := by rw [← hO]
        rw [e2]
        exact this
      exact hc.view rfl (.cons (.same _ (by simp [AV.bnd, Room.bnd])) (.cons hv .nil))
    · obtain ⟨h1, ⟨h2, h3⟩, h4⟩ := hp
      have h1 : l.length = n := h1
      subst h1
      have hc := c34.ok (g, .no, l, r) ⟨pg, h2, h3⟩
      have e : c34.v (g, .no, l, r) = .tup [.bool b, I (liE g l)] := by
        show AV.tup [.bool (liB g l), I (liE g l)] = _
        rw [← h4]
      rw [e] at hc
      exact ⟨hc.1, hc.2 h⟩
theorem c34o_reads (g : List Int) (O : List Pr) (b : Bool) (hg : Gr g) (hO : O.length = g.length) (hb : liB g O = true) (he : liE g O = 0) : (c34o g O b hg hO hb he).Reads := ⟨fun x _ _ => by cases x <;> rfl, fun x h zs hp => by
  cases x with
  | inl _ =>
    refine ⟨?_, rfl⟩
    have hlt := (List.getElem?_eq_some_iff.1 hp).1
    show (h.blk ++ zs)[1]? = _
    rw [List.getElem?_append_left hlt]; exact hp
  | inr y => exact ⟨hp, rfl⟩⟩
abbrev hx (N D : Int) (o : List Pr) : H := ⟨[[I N, I D], pairsA o], [], []⟩
noncomputable abbrev cA (g : List Int) : AV := ls (coV g 1) (rn (coV g 1))
noncomputable abbrev o16a (g : List Int) (W : AV) (N D : Int) : List Out := [.mk Unit (.exit 0) [0, 1, 5, 7, 9] (fun _ => True) (fun _ => [ls g .no, W, .ptr 0 0, cA g, mo g.length]) (fun _ => hx N D (ow0 g.length)) (fun _ => [])]
section
variable {cs : List (Ctr Tryd.prog)} {M : FuncId → Bool}
theorem lp16a (hR : Rests (En6 cs) M) (hM : allSimpleM M (loopAt Tryd.f16 0) = true) (g : List Int) (W : AV) (N D : Int) (hg : Gr g) :
    LoopS (En6 cs) (loopAt Tryd.f16 0) 166 [0, 1, 5, 7, 9, 56, 57] [ls g .no, W, .ptr 0 0, cA g, mo g.length, I g.length, I 0] (hx N D (List.replicate g.length pair0)) (o16a g W N D) := by
  have h6 := hg.1.2
  rw [← fil_0 (fun _ => ((0, 1) : Pr))]
  refine loop_s hR hM none (by intro _ h; cases h) (fun i vs h => h = hx N D (fil (fun _ => ((0, 1) : Pr)) pair0 g.length i) ∧ vs = [ls g .no, W, .ptr 0 0, cA g, mo g.length, I g.length, I (i : Nat)]) g.length ⟨rfl, rfl⟩ (by intro _ h; cases h) ?_
  rintro i vs h hi ⟨rfl, rfl⟩
  by_cases hz : (i : Int) < g.length
  · have hz' : i < g.length := by omega
    have ev0 : IntKind.i64.wrap ((i : Int) + 1) = ((i + 1 : Nat) : Int) := by
      have : (i : Int) + 1 = ((i + 1 : Nat) : Int) := by omega
      rw [this]; exact i_wrap (by omega)
    have hl : i < (fil (fun _ => ((0, 1) : Pr)) pair0 g.length i).length := by rw [fil_len]; exact hz'
    have hs := fil_set (fun _ => ((0, 1) : Pr)) pair0 hz'
    have tst : aStore Tryd.prog H.nil.base 28 (.ptr 1 (0 + i * 2)) (.agg [I 0, I 1]) (hx N D (fil (fun _ => ((0, 1) : Pr)) pair0 g.length i)) = some (hx N D (fil (fun _ => ((0, 1) : Pr)) pair0 g.length (i + 1))) := by
      rw [Nat.zero_add, ← hs]; exact st_pair (by kernel_rfl) rfl hl
    generalize hm : fil (fun _ => ((0, 1) : Pr)) pair0 g.length (i + 1) = o' at *
    generalize fil (fun _ => ((0, 1) : Pr)) pair0 g.length i = o at *
    refine ⟨[Ans.o (Orc.b true), Ans.o (Orc.val 63 (AV.ptr 1 ((0 : Nat) + i * (2 : Nat))) H.nil), Ans.o (Orc.val 9999 (AV.tup []) (hx N D o')), Ans.o (Orc.val 64 (I (↑(i + (1 : Nat)) : Int)) H.nil)], fun u => of_eq ((↑i : Int) < (↑g.length : Int) ∧ aIndexAddr Tryd.prog 42 (AV.msl 1 0 g.length g.length (2 : Nat)) (I (↑i : Int)) = some (AV.ptr 1 ((0 : Nat) + i * (2 : Nat))) ∧ aStore Tryd.prog H.nil.base 28 (AV.ptr 1 ((0 : Nat) + i * (2 : Nat))) (AV.agg [I 0, I 1]) (hx N D o) = some (H.mk [[I N, I D], pairsA o'] [] []) ∧ aBin Tryd.prog BinOp.add (3 : Nat) (I (↑i : Int)) (I 1) = some (I (↑(i + (1 : Nat)) : Int)) ∧ (166 : Nat) = (166 : Nat) ∧ i < g.length ∧ Keep (H.mk [[I N, I D], pairsA o'] [] [] = H.mk [[I N, I D], pairsA (fil (fun x => ((0 : Int), (1 : Int))) pair0 g.length (i + (1 : Nat)))] [] [] ∧ [ls g Room.no, W, AV.ptr 0 0, ls (coV g 1) (rn (coV g 1)), AV.msl 1 0 g.length g.length (2 : Nat), I (↑g.length : Int), I (↑(i + (1 : Nat)) : Int)] = [ls g Room.no, W, AV.ptr 0 0, ls (coV g 1) (rn (coV g 1)), AV.msl 1 0 g.length g.length (2 : Nat), I (↑g.length : Int), I (↑(i + (1 : Nat)) : Int)])) (by kernel_rfl) ?_⟩
    refine ⟨by first | with_reducible assumption | omega | assumption, ?_⟩
    refine ⟨ixz (by kernel_rfl) hz', ?_⟩
    refine ⟨tst, ?_⟩
    refine ⟨told_add (by with_reducible assumption), ?_⟩
    refine ⟨by first | with_reducible assumption | omega | assumption, ?_⟩
    refine ⟨by first | with_reducible assumption | omega | assumption, ?_⟩
    exact ⟨by rw [hm], rfl⟩
  · have hz : (g.length : Int) ≤ i := by omega
    have e : i = g.length := by omega
    subst e
    have hn : fil (fun _ => ((0, 1) : Pr)) pair0 g.length g.length = ow0 g.length := fil_n _ _ _
    refine ⟨[Ans.o (Orc.b false)], fun u => of_eq ((↑g.length : Int) ≤ (↑g.length : Int) ∧ (166 : Nat) = (166 : Nat) ∧ hits [Out.mk Unit (AX.exit 0) [0, 1, 5, 7, 9] (fun x => True) (fun x => [ls g Room.no, W, AV.ptr 0 0, cA g, mo g.length]) (fun x => hx N D (ow0 g.length)) fun x => []] (AX.exit 0) [ls g Room.no, W, u (2 : Nat), u (3 : Nat), u (4 : Nat), AV.ptr 0 0, u (6 : Nat), ls (coV g 1) (rn (coV g 1)), u (8 : Nat), AV.msl 1 0 g.length g.length (2 : Nat), u (10 : Nat), u (11 : Nat), u (12 : Nat), u (13 : Nat), u (14 : Nat), u (15 : Nat), u (16 : Nat), u (17 : Nat), u (18 : Nat), u (19 : Nat), u (20 : Nat), u (21 : Nat), u (22 : Nat), u (23 : Nat), u (24 : Nat), u (25 : Nat), u (26 : Nat), u (27 : Nat), u (28 : Nat), u (29 : Nat), u (30 : Nat), u (31 : Nat), u (32 : Nat), u (33 : Nat), u (34 : Nat), u (35 : Nat), u (36 : Nat), u (37 : Nat), u (38 : Nat), u (39 : Nat), u (40 : Nat), u (41 : Nat), u (42 : Nat), u (43 : Nat), u (44 : Nat), u (45 : Nat), u (46 : Nat), u (47 : Nat), u (48 : Nat), u (49 : Nat), u (50 : Nat), u (51 : Nat), u (52 : Nat), u (53 : Nat), u (54 : Nat), u (55 : Nat), I (↑g.length : Int), I (↑g.length : Int), AV.bool false, u (59 : Nat), u (60 : Nat), u (61 : Nat), u (62 : Nat), u (63 : Nat), u (64 : Nat), u (65 : Nat), u (66 : Nat), u (67 : Nat), u (68 : Nat), u (69 : Nat), u (70 : Nat), u (71 : Nat), u (72 : Nat), u (73 : Nat), u (74 : Nat), u (75 : Nat), u (76 : Nat), u (77 : Nat), u (78 : Nat), u (79 : Nat), u (80 : Nat), u (81 : Nat), u (82 : Nat), u (83 : Nat), u (84 : Nat), u (85 : Nat), u (86 : Nat), u (87 : Nat), u (88 : Nat), u (89 : Nat), u (90 : Nat), u (91 : Nat), u (92 : Nat), u (93 : Nat), u (94 : Nat), u (95 : Nat), u (96 : Nat), u (97 : Nat), u (98 : Nat), u (99 : Nat), u (100 : Nat), u (101 : Nat), u (102 : Nat), u (103 : Nat), u (104 : Nat), u (105 : Nat), u (106 : Nat), u (107 : Nat), u (108 : Nat), u (109 : Nat), u (110 : Nat), u (111 : Nat), u (112 : Nat), u (113 : Nat), u (114 : Nat), u (115 : Nat), u (116 : Nat), u (117 : Nat), u (118 : Nat), u (119 : Nat), u (120 : Nat), u (121 : Nat), u (122 : Nat), u (123 : Nat), u (124 : Nat), u (125 : Nat), u (126 : Nat), u (127 : Nat), u (128 : Nat), u (129 : Nat), u (130 : Nat), u (131 : Nat), u (132 : Nat), u (133 : Nat), u (134 : Nat), u (135 : Nat), u (136 : Nat), u (137 : Nat), u (138 : Nat), u (139 : Nat), u (140 : Nat), u (141 : Nat), u (142 : Nat), u (143 : Nat), u (144 : Nat), u (145 : Nat), u (146 : Nat), u (147 : Nat), u (148 : Nat), u (149 : Nat), u (150 : Nat), u (151 : Nat), u (152 : Nat), u (153 : Nat), u (154 : Nat), u (155 : Nat), u (156 : Nat), u (157 : Nat), u (158 : Nat), u (159 : Nat), u (160 : Nat), u (161 : Nat), u (162 : Nat), u (163 : Nat), u (164 : Nat), u (165 : Nat)] (H.mk [[I N, I D], pairsA (fil (fun x => ((0 : Int), (1 : Int))) pair0 g.length g.length)] [] [])) (by kernel_rfl) ?_⟩
    refine ⟨by first | with_reducible assumption | omega | assumption, ?_⟩
    refine ⟨by first | with_reducible assumption | omega | assumption, ?_⟩
    exact .inl ⟨(), trivial, rfl, rfl, by rw [hn]⟩
noncomputable abbrev o16b (g : List Int) (W : AV) (N D : Int) : List Out := [.mk Unit (.exit 2) [0, 1, 5, 9] (fun _ => True) (fun _ => [ls g .no, W, .ptr 0 0, mo g.length]) (fun _ => hx N D (ow g.length (coV g 1) (coV g 1).length)) (fun _ => [])]
theorem lp16b (hR : Rests (En6 cs) M) (hM : allSimpleM M (loopAt Tryd.f16 1) = true) (g : List Int) (W : AV) (N D : Int) (hg : Gr g) (hc : ∀ i, i < (coV g 1).length → 0 ≤ at_ (coV g 1) i ∧ at_ (coV g 1) i < g.length) (h64 : (coV g 1).length ≤ 64) :
    LoopS (En6 cs) (loopAt Tryd.f16 1) 166 [0, 1, 5, 9, 65, 66, 67] [ls g .no, W, .ptr 0 0, mo g.length, cA g, I (coV g 1).length, I 0] (hx N D (ow0 g.length)) (o16b g W N D) := by
  have h6 := hg.1.2
  have hrC := rn_rok (coV g 1)
  simp only [o16b, cA]
  generalize hC : coV g 1 = C at *
  refine loop_s hR hM none (by intro _ h; cases h) (fun i vs h => h = hx N D (ow g.length C i) ∧ vs = [ls g .no, W, .ptr 0 0, mo g.length, ls C (rn C), I C.length, I (i : Nat)]) C.length ⟨rfl, rfl⟩ (by intro _ h; cases h) ?_
  rintro i vs h hi ⟨rfl, rfl⟩
  by_cases hz : (i : Int) < C.length
  · have hz' : i < C.length := by omega
    have hr := rok_idx hrC hz'
    obtain ⟨x0, x1⟩ := hc i hz'
    have x1' : (at_ C i).toNat < g.length := by omega
    have ev0 : IntKind.i64.wrap ((i : Int) + 1) = ((i + 1 : Nat) : Int) := by
      have : (i : Int) + 1 = ((i + 1 : Nat) : Int) := by omega
      rw [this]; exact i_wrap (by omega)
    have hl : (at_ C i).toNat < (ow g.length C i).length := by rw [ow_len]; exact x1'
    have tst : aStore Tryd.prog H.nil.base 3 (.ptr 1 (0 + (at_ C i).toNat * 2)) (I 1) (hx N D (ow g.length C i)) = some (hx N D (ow g.length C (i + 1))) := by
      rw [Nat.zero_add, ow]; exact stf_pair (by kernel_rfl) rfl hl
    generalize hm : ow g.length C (i + 1) = o' at *
    generalize ow g.length C i = o at *
    refine ⟨[Ans.o (Orc.b true), Ans.o (Orc.val 69 (AV.cptr (ints (List.drop i C))) H.nil), Ans.o (Orc.val 70 (I (C.getD i i0)) H.nil), Ans.o (Orc.b false), Ans.o (Orc.b false), Ans.o (Orc.val 81 (AV.ptr 1 ((0 : Nat) + (C.getD i i0).toNat * (2 : Nat))) H.nil), Ans.o (Orc.val 9999 (AV.tup []) (hx N D o')), Ans.o (Orc.val 83 (I (↑(i + (1 : Nat)) : Int)) H.nil)], fun u => of_eq ((↑i : Int) < (↑C.length : Int) ∧ aIndexAddr Tryd.prog 22 (ls C (rn C)) (I (↑i : Int)) = some (AV.cptr (ints (List.drop i C))) ∧ aLoad Tryd.prog 3 (ints (List.drop i C)) = some (I (C.getD i i0)) ∧ (0 : Int) ≤ C.getD i i0 ∧ C.getD i i0 < (↑g.length : Int) ∧ aIndexAddr Tryd.prog 42 (AV.msl 1 0 g.length g.length (2 : Nat)) (I (C.getD i i0)) = some (AV.ptr 1 ((0 : Nat) + (C.getD i i0).toNat * (2 : Nat))) ∧ aStore Tryd.prog H.nil.base 3 (AV.ptr 1 ((0 : Nat) + (C.getD i i0).toNat * (2 : Nat) + #[Field.mk "Num" (3 : Nat) (0 : Nat) false "" "" (0 : Nat), Field.mk "Den" (3 : Nat) (1 : Nat) false "" "" (8 : Nat)][0].offset)) (I 1) (hx N D o) = some (H.mk [[I N, I D], pairsA o'] [] []) ∧ aBin Tryd.prog BinOp.add (3 : Nat) (I (↑i : Int)) (I 1) = some (I (↑(i + (1 : Nat)) : Int)) ∧ (166 : Nat) = (166 : Nat) ∧ i < C.length ∧ Keep (H.mk [[I N, I D], pairsA o'] [] [] = H.mk [[I N, I D], pairsA (ow g.length C (i + (1 : Nat)))] [] [] ∧ [ls g Room.no, W, AV.ptr 0 0, AV.msl 1 0 g.length g.length (2 : Nat), ls C (rn C), I (↑C.length : Int), I (↑(i + (1 : Nat)) : Int)] = [ls g Room.no, W, AV.ptr 0 0, AV.msl 1 0 g.length g.length (2 : Nat), ls C (rn C), I (↑C.length : Int), I (↑(i + (1 : Nat)) : Int)])) (by kernel_rfl) ?_⟩
    refine ⟨by first | with_reducible assumption | omega | assumption, ?_⟩
    refine ⟨by first | exact ix_ints (by kernel_rfl) (by omega) (by assumption) | exact ix_ints (by kernel_rfl) (by omega) (rok_idx (by assumption) (by omega)), ?_⟩
    refine ⟨by first | exact ld_ints (by kernel_rfl) (by kernel_rfl) (by omega) | exact ldm_ints (by kernel_rfl) (by kernel_rfl) (by first | omega | (simp; omega)), ?_⟩
    refine ⟨by first | with_reducible assumption | omega | assumption, ?_⟩
    refine ⟨by first | with_reducible assumption | omega | assumption, ?_⟩
    refine ⟨ixzI (by kernel_rfl) x0 x1', ?_⟩
    refine ⟨tst, ?_⟩
    refine ⟨told_add (by with_reducible assumption), ?_⟩
    refine ⟨by first | with_reducible assumption | omega | assumption, ?_⟩
    refine ⟨by first | with_reducible assumption | omega | assumption, ?_⟩
    exact ⟨by rw [hm], rfl⟩
  · have hz : (C.length : Int) ≤ i := by omega
    have e : i = C.length := by omega
    subst e
    generalize hm : ow g.length C C.length = o at *
    refine ⟨[Ans.o (Orc.b false)], fun u => of_eq ((↑C.length : Int) ≤ (↑C.length : Int) ∧ (166 : Nat) = (166 : Nat) ∧ hits [Out.mk Unit (AX.exit 2) [0, 1, 5, 9] (fun x => True) (fun x => [ls g Room.no, W, AV.ptr 0 0, mo g.length]) (fun x => hx N D o) fun x => []] (AX.exit 2) [ls g Room.no, W, u (2 : Nat), u (3 : Nat), u (4 : Nat), AV.ptr 0 0, u (6 : Nat), u (7 : Nat), u (8 : Nat), AV.msl 1 0 g.length g.length (2 : Nat), u (10 : Nat), u (11 : Nat), u (12 : Nat), u (13 : Nat), u (14 : Nat), u (15 : Nat), u (16 : Nat), u (17 : Nat), u (18 : Nat), u (19 : Nat), u (20 : Nat), u (21 : Nat), u (22 : Nat), u (23 : Nat), u (24 : Nat), u (25 : Nat), u (26 : Nat), u (27 : Nat), u (28 : Nat), u (29 : Nat), u (30 : Nat), u (31 : Nat), u (32 : Nat), u (33 : Nat), u (34 : Nat), u (35 : Nat), u (36 : Nat), u (37 : Nat), u (38 : Nat), u (39 : Nat), u (40 : Nat), u (41 : Nat), u (42 : Nat), u (43 : Nat), u (44 : Nat), u (45 : Nat), u (46 : Nat), u (47 : Nat), u (48 : Nat), u (49 : Nat), u (50 : Nat), u (51 : Nat), u (52 : Nat), u (53 : Nat), u (54 : Nat), u (55 : Nat), u (56 : Nat), u (57 : Nat), u (58 : Nat), u (59 : Nat), u (60 : Nat), u (61 : Nat), u (62 : Nat), u (63 : Nat), u (64 : Nat), ls C (rn C), I (↑C.length : Int), I (↑C.length : Int), AV.bool false, u (69 : Nat), u (70 : Nat), u (71 : Nat), u (72 : Nat), u (73 : Nat), u (74 : Nat), u (75 : Nat), u (76 : Nat), u (77 : Nat), u (78 : Nat), u (79 : Nat), u (80 : Nat), u (81 : Nat), u (82 : Nat), u (83 : Nat), u (84 : Nat), u (85 : Nat), u (86 : Nat), u (87 : Nat), u (88 : Nat), u (89 : Nat), u (90 : Nat), u (91 : Nat), u (92 : Nat), u (93 : Nat), u (94 : Nat), u (95 : Nat), u (96 : Nat), u (97 : Nat), u (98 : Nat), u (99 : Nat), u (100 : Nat), u (101 : Nat), u (102 : Nat), u (103 : Nat), u (104 : Nat), u (105 : Nat), u (106 : Nat), u (107 : Nat), u (108 : Nat), u (109 : Nat), u (110 : Nat), u (111 : Nat), u (112 : Nat), u (113 : Nat), u (114 : Nat), u (115 : Nat), u (116 : Nat), u (117 : Nat), u (118 : Nat), u (119 : Nat), u (120 : Nat), u (121 : Nat), u (122 : Nat), u (123 : Nat), u (124 : Nat), u (125 : Nat), u (126 : Nat), u (127 : Nat), u (128 : Nat), u (129 : Nat), u (130 : Nat), u (131 : Nat), u (132 : Nat), u (133 : Nat), u (134 : Nat), u (135 : Nat), u (136 : Nat), u (137 : Nat), u (138 : Nat), u (139 : Nat), u (140 : Nat), u (141 : Nat), u (142 : Nat), u (143 : Nat), u (144 : Nat), u (145 : Nat), u (146 : Nat), u (147 : Nat), u (148 : Nat), u (149 : Nat), u (150 : Nat), u (151 : Nat), u (152 : Nat), u (153 : Nat), u (154 : Nat), u (155 : Nat), u (156 : Nat), u (157 : Nat), u (158 : Nat), u (159 : Nat), u (160 : Nat), u (161 : Nat), u (162 : Nat), u (163 : Nat), u (164 : Nat), u (165 : Nat)] (hx N D o)) (by kernel_rfl) ?_⟩
    refine ⟨by first | with_reducible assumption | omega | assumption, ?_⟩
    refine ⟨by first | with_reducible assumption | omega | assumption, ?_⟩
    exact .inl ⟨(), trivial, rfl, rfl, rfl⟩
abbrev o16c (w : List Pr) (N D : Int) (O : List Pr) : List Out := [.mk Unit (.exit 4) [5, 17, 18] (fun _ => True) (fun _ => [.ptr 0 0, I (suA w w.length).1, I (suA w w.length).2]) (fun _ => hx N D O) (fun _ => [])]
theorem clean2 (N D : Int) (O : List Pr) (bs : List (List AV)) : H.clean ⟨[I N, I D] :: pairsA O :: bs, [], []⟩ 2 := by
  intro cs hcs
  simp at hcs
  rcases hcs with rfl | rfl
  · simp [AV.bnds, AV.bnd]
  · exact pairsA_bnds _ _ _ O
theorem lp16c (hR : Rests (En6 cs) M) (hM : allSimpleM M (loopAt Tryd.f16 2) = true) (w : List Pr) (N D : Int) (O : List Pr) (hw : wOKs w) (h6 : w.length ≤ 6) :
    LoopS (En6 cs) (loopAt Tryd.f16 2) 166 [5, 17, 18, 134, 135, 136] [.ptr 0 0, I 0, I 1, pz w .no, I w.length, I 0] (hx N D O) (o16c w N D O) := by
  refine loop_s hR hM (some 2) (by intro nb h; cases h; exact ⟨Nat.zero_le _, Nat.le_refl 2⟩) (fun j vs h => h = hx N D O ∧ vs = [.ptr 0 0, I (suA w j).1, I (suA w j).2, pz w .no, I w.length, I (j : Nat)] ∧ j ≤ w.length) w.length ⟨rfl, rfl, Nat.zero_le _⟩ (by rintro nb h j vs h' ⟨rfl, _⟩; cases h; exact Nat.le_refl 2) ?_
  rintro j vs h hj ⟨rfl, rfl, hle⟩
  by_cases hz : (j : Int) < w.length
  · have hz' : j < w.length := by omega
    have hr : Room.no ≠ Room.nil := no_ne
    have ev0 : IntKind.i64.wrap ((j : Int) + 1) = ((j + 1 : Nat) : Int) := by
      have : (j : Int) + 1 = ((j + 1 : Nat) : Int) := by omega
      rw [this]; exact i_wrap (by omega)
    obtain ⟨a1, a2, b1, b2⟩ := su_b hw j (by omega)
    obtain ⟨a3, a4, b3, b4⟩ := su_b hw (j + 1) hz'
    obtain ⟨⟨d1, d2⟩, ⟨n1, n2⟩, _⟩ := hw j hz'
    have hpw : ((60 ^ (j + 1) : Nat) : Int) ≤ 46656000000 := by
      have : 60 ^ (j + 1) ≤ 60 ^ 6 := Nat.pow_le_pow_right (by decide) (by omega)
      omega
    have hpw2 : ((j + 1 : Nat) : Int) * ((60 ^ (j + 1) : Nat) : Int) ≤ 6 * 46656000000 := Int.mul_le_mul (by omega) hpw (Int.natCast_nonneg _) (by decide)
    have c1 := Int.mul_nonneg a1 (show 0 ≤ (w.getD j pair0).2 by omega)
    have c2 := Int.mul_nonneg n1 (show 0 ≤ (suA w j).2 by omega)
    have e1 : (suA w (j + 1)).1 = (suA w j).1 * (w.getD j pair0).2 + (w.getD j pair0).1 * (suA w j).2 := rfl
    have e2 : (suA w (j + 1)).2 = (suA w j).2 * (w.getD j pair0).2 := rfl
    have ev1 : IntKind.i64.wrap ((suA w j).1 * (w.getD j pair0).2) = (suA w j).1 * (w.getD j pair0).2 := wr _ (by omega) (by omega)
    have ev2 : IntKind.i64.wrap ((w.getD j pair0).1 * (suA w j).2) = (w.getD j pair0).1 * (suA w j).2 := wr _ (by omega) (by omega)
    have ev3 : IntKind.i64.wrap ((suA w j).1 * (w.getD j pair0).2 + (w.getD j pair0).1 * (suA w j).2) = (suA w (j + 1)).1 := wr _ (by omega) (by omega)
    have ev4 : IntKind.i64.wrap ((suA w j).2 * (w.getD j pair0).2) = (suA w (j + 1)).2 := wr _ (by omega) (by omega)
    have hcl : ∀ x y : Int, AV.bnds 2 0 0 [.ptr 0 0, I x, I y, pz w .no, I w.length, I (j + 1 : Nat)] = true := fun x y => by simp [AV.bnds, AV.bnd, Room.bnd]
    refine ⟨[Ans.o (Orc.b true), Ans.o (Orc.val 138 (AV.cptr (pairsA (List.drop j w))) H.nil), Ans.o (Orc.val 139 (AV.agg [I (w.getD j pair0).fst, I (w.getD j pair0).snd]) H.nil), Ans.o (Orc.val 143 (I ((suA w j).fst * (w.getD j pair0).snd)) H.nil), Ans.o (Orc.val 147 (I ((w.getD j pair0).fst * (suA w j).snd)) H.nil), Ans.o (Orc.val 148 (I (suA w (j + (1 : Nat))).fst) H.nil), Ans.o (Orc.val 152 (I (suA w (j + (1 : Nat))).snd) H.nil), Ans.o (Orc.val 153 (I (↑(j + (1 : Nat)) : Int)) H.nil)], fun u => of_eq ((↑j : Int) < (↑w.length : Int) ∧ aIndexAddr Tryd.prog 42 (pz w Room.no) (I (↑j : Int)) = some (AV.cptr (pairsA (List.drop j w))) ∧ aLoad Tryd.prog 28 (pairsA (List.drop j w)) = some (AV.agg [I (w.getD j pair0).fst, I (w.getD j pair0).snd]) ∧ aBin Tryd.prog BinOp.mul (3 : Nat) (I (suA w j).fst) (I (w.getD j pair0).snd) = some (I ((suA w j).fst * (w.getD j pair0).snd)) ∧ aBin Tryd.prog BinOp.mul (3 : Nat) (I (w.getD j pair0).fst) (I (suA w j).snd) = some (I ((w.getD j pair0).fst * (suA w j).snd)) ∧ aBin Tryd.prog BinOp.add (3 : Nat) (I ((suA w j).fst * (w.getD j pair0).snd)) (I ((w.getD j pair0).fst * (suA w j).snd)) = some (I (suA w (j + (1 : Nat))).fst) ∧ aBin Tryd.prog BinOp.mul (3 : Nat) (I (suA w j).snd) (I (w.getD j pair0).snd) = some (I (suA w (j + (1 : Nat))).snd) ∧ aBin Tryd.prog BinOp.add (3 : Nat) (I (↑j : Int)) (I 1) = some (I (↑(j + (1 : Nat)) : Int)) ∧ (166 : Nat) = (166 : Nat) ∧ j < w.length ∧ Keep (AV.bnds (2 : Nat) (0 : Nat) (0 : Nat) [AV.ptr 0 0, I (suA w (j + (1 : Nat))).fst, I (suA w (j + (1 : Nat))).snd, pz w Room.no, I (↑w.length : Int), I (↑(j + (1 : Nat)) : Int)] = true ∧ (H.mk [[I N, I D], pairsA O, [I (w.getD j pair0).fst, I (w.getD j pair0).snd]] [] []).clean (2 : Nat) ∧ hx N D O = hx N D O ∧ [AV.ptr 0 0, I (suA w (j + (1 : Nat))).fst, I (suA w (j + (1 : Nat))).snd, pz w Room.no, I (↑w.length : Int), I (↑(j + (1 : Nat)) : Int)] = [AV.ptr 0 0, I (suA w (j + (1 : Nat))).fst, I (suA w (j + (1 : Nat))).snd, pz w Room.no, I (↑w.length : Int), I (↑(j + (1 : Nat)) : Int)] ∧ j + (1 : Nat) ≤ w.length)) (by kernel_rfl) ?_⟩
    refine ⟨by first | with_reducible assumption | omega | assumption, ?_⟩
    refine ⟨by first | exact ix_pairs (by kernel_rfl) (by omega) (by assumption) | exact ix_pairs (by kernel_rfl) (by omega) (rok_idx (by assumption) (by omega)), ?_⟩
    refine ⟨ld_pairs (by kernel_rfl) (by kernel_rfl) (by kernel_rfl) (by omega), ?_⟩
    refine ⟨told_mul (by with_reducible assumption), ?_⟩
    refine ⟨told_mul (by with_reducible assumption), ?_⟩
    refine ⟨told_add (by with_reducible assumption), ?_⟩
    refine ⟨told_mul (by with_reducible assumption), ?_⟩
    refine ⟨told_add (by with_reducible assumption), ?_⟩
    refine ⟨by first | with_reducible assumption | omega | assumption, ?_⟩
    refine ⟨by first | with_reducible assumption | omega | assumption, ?_⟩
    exact ⟨hcl _ _, clean2 _ _ _ _, rfl, rfl, hz'⟩
  · have hz : (w.length : Int) ≤ j := by omega
    have e : j = w.length := by omega
    subst e
    refine ⟨[Ans.o (Orc.b false)], fun u => of_eq ((↑w.length : Int) ≤ (↑w.length : Int) ∧ (166 : Nat) = (166 : Nat) ∧ hits [Out.mk Unit (AX.exit 4) [5, 17, 18] (fun x => True) (fun x => [AV.ptr 0 0, I (suA w w.length).fst, I (suA w w.length).snd]) (fun x => hx N D O) fun x => []] (AX.exit 4) [u (0 : Nat), u (1 : Nat), u (2 : Nat), u (3 : Nat), u (4 : Nat), AV.ptr 0 0, u (6 : Nat), u (7 : Nat), u (8 : Nat), u (9 : Nat), u (10 : Nat), u (11 : Nat), u (12 : Nat), u (13 : Nat), u (14 : Nat), u (15 : Nat), u (16 : Nat), I (suA w w.length).fst, I (suA w w.length).snd, u (19 : Nat), u (20 : Nat), u (21 : Nat), u (22 : Nat), u (23 : Nat), u (24 : Nat), u (25 : Nat), u (26 : Nat), u (27 : Nat), u (28 : Nat), u (29 : Nat), u (30 : Nat), u (31 : Nat), u (32 : Nat), u (33 : Nat), u (34 : Nat), u (35 : Nat), u (36 : Nat), u (37 : Nat), u (38 : Nat), u (39 : Nat), u (40 : Nat), u (41 : Nat), u (42 : Nat), u (43 : Nat), u (44 : Nat), u (45 : Nat), u (46 : Nat), u (47 : Nat), u (48 : Nat), u (49 : Nat), u (50 : Nat), u (51 : Nat), u (52 : Nat), u (53 : Nat), u (54 : Nat), u (55 : Nat), u (56 : Nat), u (57 : Nat), u (58 : Nat), u (59 : Nat), u (60 : Nat), u (61 : Nat), u (62 : Nat), u (63 : Nat), u (64 : Nat), u (65 : Nat), u (66 : Nat), u (67 : Nat), u (68 : Nat), u (69 : Nat), u (70 : Nat), u (71 : Nat), u (72 : Nat), u (73 : Nat), u (74 : Nat), u (75 : Nat), u (76 : Nat), u (77 : Nat), u (78 : Nat), u (79 : Nat), u (80 : Nat), u (81 : Nat), u (82 : Nat), u (83 : Nat), u (84 : Nat), u (85 : Nat), u (86 : Nat), u (87 : Nat), u (88 : Nat), u (89 : Nat), u (90 : Nat), u (91 : Nat), u (92 : Nat), u (93 : Nat), u (94 : Nat), u (95 : Nat), u (96 : Nat), u (97 : Nat), u (98 : Nat), u (99 : Nat), u (100 : Nat), u (101 : Nat), u (102 : Nat), u (103 : Nat), u (104 : Nat), u (105 : Nat), u (106 : Nat), u (107 : Nat), u (108 : Nat), u (109 : Nat), u (110 : Nat), u (111 : Nat), u (112 : Nat), u (113 : Nat), u (114 : Nat), u (115 : Nat), u (116 : Nat), u (117 : Nat), u (118 : Nat), u (119 : Nat), u (120 : Nat), u (121 : Nat), u (122 : Nat), u (123 : Nat), u (124 : Nat), u (125 : Nat), u (126 : Nat), u (127 : Nat), u (128 : Nat), u (129 : Nat), u (130 : Nat), u (131 : Nat), u (132 : Nat), u (133 : Nat), pz w Room.no, I (↑w.length : Int), I (↑w.length : Int), AV.bool false, u (138 : Nat), u (139 : Nat), u (140 : Nat), u (141 : Nat), u (142 : Nat), u (143 : Nat), u (144 : Nat), u (145 : Nat), u (146 : Nat), u (147 : Nat), u (148 : Nat), u (149 : Nat), u (150 : Nat), u (151 : Nat), u (152 : Nat), u (153 : Nat), u (154 : Nat), u (155 : Nat), u (156 : Nat), u (157 : Nat), u (158 : Nat), u (159 : Nat), u (160 : Nat), u (161 : Nat), u (162 : Nat), u (163 : Nat), u (164 : Nat), u (165 : Nat)] (hx N D O)) (by kernel_rfl) ?_⟩
    refine ⟨by first | with_reducible assumption | omega | assumption, ?_⟩
    refine ⟨by first | with_reducible assumption | omega | assumption, ?_⟩
    exact .inl ⟨(), trivial, rfl, rfl, rfl⟩
end
end Go.Proofs.Sur
end
section
set_option maxHeartbeats 4000000
set_option maxRecDepth 100000
namespace Go.Proofs.Sur
open Go Go.VM

abbrev ub (x : Int) (M : Int) : Prop := 0 ≤ x ∧ x ≤ M
theorem wg_ub {g : List Int} (hg : Gr g) : ub (wgN g) 4320 ∧ ub (wgD g) 720 ∧ (1 ≤ wgD g ∧ wgD g ≤ 720 ∧ wgD g ≤ wgN g ∧ wgN g ≤ 6 * wgD g) ∧ wgE g = 0 := by
  obtain ⟨w0, _, _, _, w1, w2, w3, w4⟩ := wg_ok hg
  have h6 := hg.1.2
  have w5 : wgN g ≤ 6 * wgD g := by
    have := Int.mul_le_mul_of_nonneg_right (show (g.length : Int) ≤ 6 by omega) (show 0 ≤ wgD g by omega)
    omega
  exact ⟨⟨by omega, by omega⟩, ⟨by omega, by omega⟩, ⟨w1, w2, w3, w5⟩, w0⟩
theorem rd_oneb {g : List Int} (hg : Gr g) : rdE g 1 = 0 := (rd_some ⟨grB_t hg, by omega, by omega⟩ rfl).1
noncomputable abbrev o16o (g : List Int) (W : AV) (N D : Int) (O : List Pr) : List Out := [.mk Unit (.exit 2) [0, 1, 5, 9] (fun _ => True) (fun _ => [ls g .no, W, .ptr 0 0, mo g.length]) (fun _ => hx N D O) (fun _ => [])]
theorem ok16 : FokM Tryd.prog none1 16 Tryd.f16 := ⟨mixed, by kernel_rfl, by kernel_rfl, by kernel_rfl, by kernel_rfl⟩
theorem r16b (g : List Int) (q : RK) (w : List Pr) (p : RK) (hp : pl g q) (hn : ¬ Gr g) : Body (En6 [c19.to, c33.to, c23.to]) none1 Tryd.f16 [ls g (rr q), pz w (rr p)] .nil (.bool true, .nil) := by
  have p19 := pl_19 hp
  have p33 := pl_c hp
  have e0 : wgE (cut g) = 2 := if_neg (fun h => hn (cut_gr5.1 h))
  have e1 : wgE (cut g) ≠ 0 := by omega
  refine body_s ([Ans.o (Orc.val 23 (ls (cut g) (rcl (rr q))) (H.mk [] [] [])), Ans.o (Orc.val 24 (AV.tup [AV.agg [I (wgN (cut g)), I (wgD (cut g))], I (wgE (cut g))]) (H.mk [] [] [])), Ans.o (Orc.b true), Ans.o (Orc.b true), Ans.o (Orc.val 37 (AV.bool true) (H.mk [[I (wgN (cut g)), I (wgD (cut g))]] [] []))]) (aCall (Sof [c19.to, c33.to, c23.to]) (AV.fn (Fn.func 19) [] []) [ls g (rr q)] (H.mk [] [] []) = some (ls (cut g) (rcl (rr q)), H.mk [] [] []) ∧ aCall (Sof [c19.to, c33.to, c23.to]) (AV.fn (Fn.func 33) [] []) [ls (cut g) (rcl (rr q))] (H.mk [] [] []) = some (AV.tup [AV.agg [I (wgN (cut g)), I (wgD (cut g))], I (wgE (cut g))], H.mk [] [] []) ∧ wgE (cut g) ≠ (0 : Int) ∧ wgE (cut g) = (2 : Int) ∧ aCall (Sof [c19.to, c33.to, c23.to]) (AV.fn (Fn.func 23) [] []) [] (H.mk [[I (wgN (cut g)), I (wgD (cut g))]] [] []) = some (AV.bool true, H.mk [[I (wgN (cut g)), I (wgD (cut g))]] [] []) ∧ (AV.bool true, H.mk [] [] []) = (AV.bool true, H.mk [] [] [])) (by kernel_rfl) ?_
  refine ⟨acall_hit (c := c19.to) (g, rr q) _ rfl p19, ?_⟩
  refine ⟨acall_hit (c := c33.to) (cut g, rcl (rr q)) _ rfl p33, ?_⟩
  refine ⟨by first | with_reducible assumption | omega | assumption, ?_⟩
  refine ⟨by first | with_reducible assumption | omega | assumption, ?_⟩
  refine ⟨acall_hit (c := c23.to) () _ rfl trivial, ?_⟩
  first | with_reducible rfl | (refine bleaf_t ?_; omega) | (refine bleaf_f ?_; omega) | (refine ileaf ?_; omega) | rfl | (exfalso; omega)
theorem simp16a : allSimpleM none1 (loopAt Tryd.f16 0) = true := by kernel_rfl
theorem simp16b : allSimpleM none1 (loopAt Tryd.f16 1) = true := by kernel_rfl
theorem simp16c : allSimpleM none1 (loopAt Tryd.f16 2) = true := by kernel_rfl
abbrev hy (N D : Int) : H := ⟨[[I N, I D]], [], []⟩
noncomputable abbrev L16 (g : List Int) (O : List Pr) (b : Bool) (hg : Gr g) (hO : O.length = g.length) (hb : liB g O = true) (he : liE g O = 0) : List (Ctr Tryd.prog) := [(c19k g hg).to, c33.to, c29.to, c28.to, c50.to, c34o g O b hg hO hb he, c35.to, c37.to, c23.to]
theorem rests16 {g : List Int} {O : List Pr} (b : Bool) (hg : Gr g) (hO : O.length = g.length) (hb : liB g O = true) (he : liE g O = 0) : Rests (En6 (L16 g O b hg hO hb he)) none1 :=
  rests mixed (.pure _ (.pure _ (.pure _ (.pure _ (.pure _ (.rd _ (c34o_reads g O b hg hO hb he) (.pure _ (.pure _ (.pure _ .nil)))))))))
theorem take9 (w : List Pr) : w.take (pick2 false (w.length : Int) 9).toNat = w.take 9 ∧ (pick2 false (w.length : Int) 9).toNat = (w.take 9).length ∧ 0 ≤ pick2 false (w.length : Int) 9 ∧ pick2 false (w.length : Int) 9 ≤ 9 ∧ pick2 false (w.length : Int) 9 ≤ w.length := by
  simp only [pick2, Bool.false_eq_true, if_false, List.length_take]
  by_cases h : (9 : Int) < w.length
  · rw [if_pos h]; refine ⟨rfl, by simp; omega, by omega, by omega, by omega⟩
  · rw [if_neg h]
    have : w.length ≤ 9 := by omega
    refine ⟨?_, by simp; omega, by omega, by omega, by omega⟩
    rw [List.take_of_length_le this, List.take_of_length_le (by simp)]
abbrev K9 (w : List Pr) : Nat := (pick2 false (w.length : Int) 9).toNat
structure Good16 (g : List Int) (w : List Pr) (O : List Pr) (W : AV) : Prop where
  pg : lim g.length ∧ rok g .no
  b29 : grB g = true
  p50 : 1 ≤ wgD g ∧ wgD g ≤ 720 ∧ wgD g ≤ wgN g ∧ wgN g ≤ 6 * wgD g
  e1 : wgE g = 0
  d1 : rdE g 1 = 0
  tmk : aMake Tryd.prog 42 (g.length : Int) (g.length : Int) ⟨[[I (wgN g), I (wgD g)]], [], []⟩ = some (mo g.length, hx (wgN g) (wgD g) (List.replicate g.length pair0))
  lpa : ∀ {cs : List (Ctr Tryd.prog)}, Rests (En6 cs) none1 → LoopS (En6 cs) (loopAt Tryd.f16 0) 166 [0, 1, 5, 7, 9, 56, 57] [ls g .no, W, .ptr 0 0, cA g, mo g.length, I g.length, I 0] (hx (wgN g) (wgD g) (List.replicate g.length pair0)) (o16a g (W) (wgN g) (wgD g))
  lpb : ∀ {cs : List (Ctr Tryd.prog)}, Rests (En6 cs) none1 → LoopS (En6 cs) (loopAt Tryd.f16 1) 166 [0, 1, 5, 9, 65, 66, 67] [ls g .no, W, .ptr 0 0, mo g.length, cA g, I (coV g 1).length, I 0] (hx (wgN g) (wgD g) (ow0 g.length)) (o16o g (W) (wgN g) (wgD g) O)
  k : (w.take (K9 w)).length = K9 w ∧ K9 w ≤ 1000000000 ∧ lim (w.take (K9 w)).length
  s0 : 0 ≤ pick2 false (w.length : Int) 9
  s1 : pick2 false (w.length : Int) 9 ≤ w.length
theorem good16 {g : List Int} (hg : Gr g) (w : List Pr) (W : AV) {O : List Pr} (hOd : ow g.length (coV g 1) (coV g 1).length = O) : Good16 g w O W := by
  have h6 := hg.1.2
  obtain ⟨u1, u2, p50, e1⟩ := wg_ub hg
  have d1 := rd_oneb hg
  obtain ⟨k1, k2, k3, k4, k5⟩ := take9 w
  have cdr : isCd (nrV g) (coV g 1) := by
    have e := co_eqB d1
    rw [e]
    have hrw : rdW g 1 = nrV g := (rd_some ⟨grB_t hg, by omega, by omega⟩ rfl).2
    rw [hrw]
    exact (frV_ok (nrV_gs hg)).2
  have hc : ∀ i, i < (coV g 1).length → 0 ≤ at_ (coV g 1) i ∧ at_ (coV g 1) i < g.length := fun i hi => by
    have e : at_ (coV g 1) i = (coV g 1)[i] := by simp [at_, List.getD_eq_getElem?_getD, List.getElem?_eq_getElem hi]
    have := cdr.1 _ (e ▸ List.getElem_mem hi)
    rw [nrV_len] at this; exact this
  refine ⟨⟨by show g.length ≤ _; omega, fun _ => no_ne⟩, grB_t hg, p50, e1, d1, mk_pairs (by kernel_rfl) (by omega), fun hR => lp16a hR simp16a g _ _ _ hg, fun hR => ?_, ⟨?_, ?_, ?_⟩, k3, k5⟩
  · have := lp16b hR simp16b g (W) (wgN g) (wgD g) hg hc (co_smB d1)
    simp only [o16b] at this
    rw [hOd] at this
    exact this
  · show (w.take (pick2 false (w.length : Int) 9).toNat).length = (pick2 false (w.length : Int) 9).toNat
    rw [k1, k2]
  · show (pick2 false (w.length : Int) 9).toNat ≤ _
    omega
  · show (w.take (pick2 false (w.length : Int) 9).toNat).length ≤ _
    rw [k1]
    have : (w.take 9).length ≤ 9 := by simp; omega
    omega
theorem r16n (g : List Int) (w : List Pr) (O : List Pr) (h : Good16 g w O (pz w .no)) (hg : Gr g) (hO : O.length = g.length) (hb : liB g O = true) (he : liE g O = 0) (hE : liE g (w.take (K9 w)) = 2) (hB : liB g (w.take (K9 w)) = false) :
    Body (En6 (L16 g O false hg hO hb he)) none1 Tryd.f16 [ls g .no, pz w .no] .nil (.bool true, .nil) := by
  obtain ⟨pg, b29, p50, e1, d1, tmk, lpa, lpb, k, s0, s1⟩ := h
  have lpa := lpa (rests16 false hg hO hb he)
  have lpb := lpb (rests16 false hg hO hb he)
  have hE : liE g (w.take (pick2 false (w.length : Int) 9).toNat) = 2 := hE
  have hE2 : liE g (w.take (pick2 false (w.length : Int) 9).toNat) ≠ 0 := by omega
  refine body_s ([Ans.o (Orc.val 23 (ls g Room.no) (H.mk [] [] [])), Ans.o (Orc.val 24 (AV.tup [AV.agg [I (wgN g), I (wgD g)], I (wgE g)]) (H.mk [] [] [])), Ans.o (Orc.b false), Ans.o (Orc.val 31 (AV.bool true) (hy (wgN g) (wgD g))), Ans.o (Orc.val 41 (ls g Room.no) (hy (wgN g) (wgD g))), Ans.o (Orc.val 42 (AV.tup [ls (coV g 1) (rn (coV g 1)), I (rdE g 1)]) (hy (wgN g) (wgD g))), Ans.o (Orc.b false), Ans.o (Orc.val 49 (AV.bool true) (hy (wgN g) (wgD g))), Ans.o (Orc.val 54 (mo g.length) (hx (wgN g) (wgD g) (List.replicate g.length pair0))), Ans.loop [0, 1, 5, 7, 9, 56, 57] [Out.mk Unit (AX.exit 0) [0, 1, 5, 7, 9] (fun x => True) (fun x => [ls g Room.no, pz w Room.no, AV.ptr 0 0, cA g, mo g.length]) (fun x => hx (wgN g) (wgD g) (ow0 g.length)) fun y => [Ans.loop [0, 1, 5, 9, 65, 66, 67] [Out.mk Unit (AX.exit 2) [0, 1, 5, 9] (fun x => True) (fun x => [ls g Room.no, pz w Room.no, AV.ptr 0 0, mo g.length]) (fun x => hx (wgN g) (wgD g) O) fun y => [Ans.o (Orc.val 86 (ls g Room.no) (hx (wgN g) (wgD g) O)), Ans.o (Orc.val 88 (AV.tup [AV.bool true, I 0]) (hx (wgN g) (wgD g) O)), Ans.o Orc.dflt, Ans.o (Orc.val 99 (ls g Room.no) (hx (wgN g) (wgD g) O)), Ans.o (Orc.val 104 (AV.sl (pairsA (List.take (K9 w) w)) (K9 w) Room.no) H.nil), Ans.o (Orc.val 105 (AV.sl (pairsA (List.take (K9 w) w)) (K9 w) Room.no) (hx (wgN g) (wgD g) O)), Ans.o (Orc.val 106 (AV.tup [AV.bool false, I (liE g (List.take (K9 w) w))]) (hx (wgN g) (wgD g) O)), Ans.o (Orc.b true), Ans.o (Orc.b false), Ans.o (Orc.b true), Ans.o (Orc.val 132 (AV.bool true) (hx (wgN g) (wgD g) O))]]]]]) (aCall (Sof (L16 g O false hg hO hb he)) (AV.fn (Fn.func 19) [] []) [ls g Room.no] (H.mk [] [] []) = some (ls g Room.no, H.mk [] [] []) ∧ aCall (Sof (L16 g O false hg hO hb he)) (AV.fn (Fn.func 33) [] []) [ls g Room.no] (H.mk [] [] []) = some (AV.tup [AV.agg [I (wgN g), I (wgD g)], I (wgE g)], H.mk [] [] []) ∧ wgE g = (0 : Int) ∧ aCall (Sof (L16 g O false hg hO hb he)) (AV.fn (Fn.func 29) [] []) [ls g Room.no] (hy (wgN g) (wgD g)) = some (AV.bool true, hy (wgN g) (wgD g)) ∧ aCall (Sof (L16 g O false hg hO hb he)) (AV.fn (Fn.func 19) [] []) [ls g Room.no] (hy (wgN g) (wgD g)) = some (ls g Room.no, hy (wgN g) (wgD g)) ∧ aCall (Sof (L16 g O false hg hO hb he)) (AV.fn (Fn.func 28) [] []) [ls g Room.no, I 1] (hy (wgN g) (wgD g)) = some (AV.tup [ls (coV g 1) (rn (coV g 1)), I (rdE g 1)], hy (wgN g) (wgD g)) ∧ rdE g 1 = (0 : Int) ∧ aCall (Sof (L16 g O false hg hO hb he)) (AV.fn (Fn.func 50) [] []) [AV.agg [I (wgN g), I (wgD g)]] (hy (wgN g) (wgD g)) = some (AV.bool true, hy (wgN g) (wgD g)) ∧ aMake Tryd.prog 42 (↑g.length : Int) (↑g.length : Int) (hy (wgN g) (wgD g)) = some (AV.msl 1 0 g.length g.length (2 : Nat), hx (wgN g) (wgD g) (List.replicate g.length pair0)) ∧ LoopS (En6 (L16 g O false hg hO hb he)) (loopAt Tryd.f16 0) 166 [0, 1, 5, 7, 9, 56, 57] [ls g Room.no, pz w Room.no, AV.ptr 0 0, ls (coV g 1) (rn (coV g 1)), AV.msl 1 0 g.length g.length (2 : Nat), I (↑g.length : Int), I 0] (hx (wgN g) (wgD g) (List.replicate g.length pair0)) [Out.mk Unit (AX.exit 0) [0, 1, 5, 7, 9] (fun x => True) (fun x => [ls g Room.no, pz w Room.no, AV.ptr 0 0, cA g, mo g.length]) (fun x => hx (wgN g) (wgD g) (ow0 g.length)) fun y => [Ans.loop [0, 1, 5, 9, 65, 66, 67] [Out.mk Unit (AX.exit 2) [0, 1, 5, 9] (fun x => True) (fun x => [ls g Room.no, pz w Room.no, AV.ptr 0 0, mo g.length]) (fun x => hx (wgN g) (wgD g) O) fun y => [Ans.o (Orc.val 86 (ls g Room.no) (hx (wgN g) (wgD g) O)), Ans.o (Orc.val 88 (AV.tup [AV.bool true, I 0]) (hx (wgN g) (wgD g) O)), Ans.o Orc.dflt, Ans.o (Orc.val 99 (ls g Room.no) (hx (wgN g) (wgD g) O)), Ans.o (Orc.val 104 (AV.sl (pairsA (List.take (K9 w) w)) (K9 w) Room.no) H.nil), Ans.o (Orc.val 105 (AV.sl (pairsA (List.take (K9 w) w)) (K9 w) Room.no) (hx (wgN g) (wgD g) O)), Ans.o (Orc.val 106 (AV.tup [AV.bool false, I (liE g (List.take (K9 w) w))]) (hx (wgN g) (wgD g) O)), Ans.o (Orc.b true), Ans.o (Orc.b false), Ans.o (Orc.b true), Ans.o (Orc.val 132 (AV.bool true) (hx (wgN g) (wgD g) O))]]]] ∧ (∀ (y : Unit), True → ∀ (u : Nat → AV), LoopS (En6 (L16 g O false hg hO hb he)) (loopAt Tryd.f16 1) 166 [0, 1, 5, 9, 65, 66, 67] [ls g Room.no, pz w Room.no, AV.ptr 0 0, AV.msl 1 0 g.length g.length (2 : Nat), ls (coV g 1) (rn (coV g 1)), I (↑(coV g 1).length : Int), I 0] (hx (wgN g) (wgD g) (ow0 g.length)) [Out.mk Unit (AX.exit 2) [0, 1, 5, 9] (fun x => True) (fun x => [ls g Room.no, pz w Room.no, AV.ptr 0 0, mo g.length]) (fun x => hx (wgN g) (wgD g) O) fun y => [Ans.o (Orc.val 86 (ls g Room.no) (hx (wgN g) (wgD g) O)), Ans.o (Orc.val 88 (AV.tup [AV.bool true, I 0]) (hx (wgN g) (wgD g) O)), Ans.o Orc.dflt, Ans.o (Orc.val 99 (ls g Room.no) (hx (wgN g) (wgD g) O)), Ans.o (Orc.val 104 (AV.sl (pairsA (List.take (K9 w) w)) (K9 w) Room.no) H.nil), Ans.o (Orc.val 105 (AV.sl (pairsA (List.take (K9 w) w)) (K9 w) Room.no) (hx (wgN g) (wgD g) O)), Ans.o (Orc.val 106 (AV.tup [AV.bool false, I (liE g (List.take (K9 w) w))]) (hx (wgN g) (wgD g) O)), Ans.o (Orc.b true), Ans.o (Orc.b false), Ans.o (Orc.b true), Ans.o (Orc.val 132 (AV.bool true) (hx (wgN g) (wgD g) O))]] ∧ (∀ (y : Unit), True → ∀ (u : Nat → AV), aCall (Sof (L16 g O false hg hO hb he)) (AV.fn (Fn.func 19) [] []) [ls g Room.no] (hx (wgN g) (wgD g) O) = some (ls g Room.no, hx (wgN g) (wgD g) O) ∧ aCall (Sof (L16 g O false hg hO hb he)) (AV.fn (Fn.func 34) [] []) [ls g Room.no, AV.msl 1 0 g.length g.length (2 : Nat)] (hx (wgN g) (wgD g) O) = some (AV.tup [AV.bool true, I 0], hx (wgN g) (wgD g) O) ∧ aCall (Sof (L16 g O false hg hO hb he)) (AV.fn (Fn.func 19) [] []) [ls g Room.no] (hx (wgN g) (wgD g) O) = some (ls g Room.no, hx (wgN g) (wgD g) O) ∧ aSlice Tryd.prog 42 (pz w Room.no) none (some (I (pick2 false (↑w.length : Int) (9 : Int)))) none (hx (wgN g) (wgD g) O) = some (AV.sl (pairsA (List.take (K9 w) w)) (K9 w) Room.no) ∧ aCall (Sof (L16 g O false hg hO hb he)) (AV.fn (Fn.func 35) [] []) [AV.sl (pairsA (List.take (K9 w) w)) (K9 w) Room.no] (hx (wgN g) (wgD g) O) = some (AV.sl (pairsA (List.take (K9 w) w)) (K9 w) Room.no, hx (wgN g) (wgD g) O) ∧ aCall (Sof (L16 g O false hg hO hb he)) (AV.fn (Fn.func 34) [] []) [ls g Room.no, AV.sl (pairsA (List.take (K9 w) w)) (K9 w) Room.no] (hx (wgN g) (wgD g) O) = some (AV.tup [AV.bool false, I (liE g (List.take (K9 w) w))], hx (wgN g) (wgD g) O) ∧ liE g (List.take (K9 w) w) ≠ (0 : Int) ∧ liE g (List.take (K9 w) w) ≠ (0 : Int) ∧ liE g (List.take (K9 w) w) = (2 : Int) ∧ aCall (Sof (L16 g O false hg hO hb he)) (AV.fn (Fn.func 23) [] []) [] (hx (wgN g) (wgD g) O) = some (AV.bool true, hx (wgN g) (wgD g) O) ∧ (AV.bool true, H.mk [] [] []) = (AV.bool true, H.mk [] [] [])) ∧ True) ∧ True) (by kernel_rfl) ?_
  refine ⟨acall_hit (c := (c19k g hg).to) () _ rfl trivial, ?_⟩
  refine ⟨acall_hit (c := c33.to) (g, .no) _ rfl pg, ?_⟩
  refine ⟨by first | with_reducible assumption | omega | assumption, ?_⟩
  refine ⟨acall_b (acall_hit (c := c29.to) (g, .no) _ rfl pg) b29, ?_⟩
  refine ⟨acall_hit (c := (c19k g hg).to) () _ rfl trivial, ?_⟩
  refine ⟨acall_hit (c := c28.to) (g, .no, 1) _ rfl pg, ?_⟩
  refine ⟨by first | with_reducible assumption | omega | assumption, ?_⟩
  refine ⟨acall_hit (c := c50.to) (wgN g, wgD g) _ rfl p50, ?_⟩
  refine ⟨tmk, ?_⟩
  refine ⟨lpa, ?_⟩
  refine And.intro ?_ ?_
  · skip
    intro y
    intro w1
    intro u
    refine ⟨lpb, ?_⟩
    refine And.intro ?_ ?_
    · skip
      intro y
      intro w4
      intro u
      refine ⟨acall_hit (c := (c19k g hg).to) () _ rfl trivial, ?_⟩
      refine ⟨by first | exact acall_hit (c := c34o g O false hg hO hb he) (.inl ()) _ rfl rfl | exact acall_hit (c := c34o g O false hg hO hb he) (.inr (w.take (K9 w), K9 w, .no)) _ rfl ⟨k.1, ⟨k.2.2, fun _ => no_ne⟩, hB⟩, ?_⟩
      refine ⟨acall_hit (c := (c19k g hg).to) () _ rfl trivial, ?_⟩
      refine ⟨sl_pairs (by kernel_rfl) s0 s1, ?_⟩
      refine ⟨acall_hit (c := c35.to) (w.take (K9 w), K9 w) _ rfl ⟨k.1, k.2.1⟩, ?_⟩
      refine ⟨by first | exact acall_hit (c := c34o g O false hg hO hb he) (.inl ()) _ rfl rfl | exact acall_hit (c := c34o g O false hg hO hb he) (.inr (w.take (K9 w), K9 w, .no)) _ rfl ⟨k.1, ⟨k.2.2, fun _ => no_ne⟩, hB⟩, ?_⟩
      refine ⟨by first | with_reducible assumption | omega | assumption, ?_⟩
      refine ⟨by first | with_reducible assumption | omega | assumption, ?_⟩
      refine ⟨by first | with_reducible assumption | omega | assumption, ?_⟩
      refine ⟨acall_hit (c := c23.to) () _ rfl trivial, ?_⟩
      first | with_reducible rfl | (refine bleaf_t ?_; omega) | (refine bleaf_f ?_; omega) | (refine ileaf ?_; omega) | rfl | (exfalso; omega)
    · skip
      trivial
  · skip
    trivial
theorem r16f (g : List Int) (w : List Pr) (O : List Pr) (h : Good16 g w O (pz w .no)) (hg : Gr g) (hO : O.length = g.length) (hb : liB g O = true) (he : liE g O = 0) (hE : liE g (w.take (K9 w)) = 0) (hB : liB g (w.take (K9 w)) = false) :
    Body (En6 (L16 g O false hg hO hb he)) none1 Tryd.f16 [ls g .no, pz w .no] .nil (.bool true, .nil) := by
  obtain ⟨pg, b29, p50, e1, d1, tmk, lpa, lpb, k, s0, s1⟩ := h
  have lpa := lpa (rests16 false hg hO hb he)
  have lpb := lpb (rests16 false hg hO hb he)
  have hE : liE g (w.take (pick2 false (w.length : Int) 9).toNat) = 0 := hE
  refine body_s ([Ans.o (Orc.val 23 (ls g Room.no) (H.mk [] [] [])), Ans.o (Orc.val 24 (AV.tup [AV.agg [I (wgN g), I (wgD g)], I (wgE g)]) (H.mk [] [] [])), Ans.o (Orc.b false), Ans.o (Orc.val 31 (AV.bool true) (hy (wgN g) (wgD g))), Ans.o (Orc.val 41 (ls g Room.no) (hy (wgN g) (wgD g))), Ans.o (Orc.val 42 (AV.tup [ls (coV g 1) (rn (coV g 1)), I (rdE g 1)]) (hy (wgN g) (wgD g))), Ans.o (Orc.b false), Ans.o (Orc.val 49 (AV.bool true) (hy (wgN g) (wgD g))), Ans.o (Orc.val 54 (mo g.length) (hx (wgN g) (wgD g) (List.replicate g.length pair0))), Ans.loop [0, 1, 5, 7, 9, 56, 57] [Out.mk Unit (AX.exit 0) [0, 1, 5, 7, 9] (fun x => True) (fun x => [ls g Room.no, pz w Room.no, AV.ptr 0 0, cA g, mo g.length]) (fun x => hx (wgN g) (wgD g) (ow0 g.length)) fun y => [Ans.loop [0, 1, 5, 9, 65, 66, 67] [Out.mk Unit (AX.exit 2) [0, 1, 5, 9] (fun x => True) (fun x => [ls g Room.no, pz w Room.no, AV.ptr 0 0, mo g.length]) (fun x => hx (wgN g) (wgD g) O) fun y => [Ans.o (Orc.val 86 (ls g Room.no) (hx (wgN g) (wgD g) O)), Ans.o (Orc.val 88 (AV.tup [AV.bool true, I 0]) (hx (wgN g) (wgD g) O)), Ans.o Orc.dflt, Ans.o (Orc.val 99 (ls g Room.no) (hx (wgN g) (wgD g) O)), Ans.o (Orc.val 104 (AV.sl (pairsA (List.take (K9 w) w)) (K9 w) Room.no) H.nil), Ans.o (Orc.val 105 (AV.sl (pairsA (List.take (K9 w) w)) (K9 w) Room.no) (hx (wgN g) (wgD g) O)), Ans.o (Orc.val 106 (AV.tup [AV.bool false, I (liE g (List.take (K9 w) w))]) (hx (wgN g) (wgD g) O)), Ans.o (Orc.b false), Ans.o (Orc.b true), Ans.o (Orc.val 132 (AV.bool true) (hx (wgN g) (wgD g) O))]]]]]) (aCall (Sof (L16 g O false hg hO hb he)) (AV.fn (Fn.func 19) [] []) [ls g Room.no] (H.mk [] [] []) = some (ls g Room.no, H.mk [] [] []) ∧ aCall (Sof (L16 g O false hg hO hb he)) (AV.fn (Fn.func 33) [] []) [ls g Room.no] (H.mk [] [] []) = some (AV.tup [AV.agg [I (wgN g), I (wgD g)], I (wgE g)], H.mk [] [] []) ∧ wgE g = (0 : Int) ∧ aCall (Sof (L16 g O false hg hO hb he)) (AV.fn (Fn.func 29) [] []) [ls g Room.no] (hy (wgN g) (wgD g)) = some (AV.bool true, hy (wgN g) (wgD g)) ∧ aCall (Sof (L16 g O false hg hO hb he)) (AV.fn (Fn.func 19) [] []) [ls g Room.no] (hy (wgN g) (wgD g)) = some (ls g Room.no, hy (wgN g) (wgD g)) ∧ aCall (Sof (L16 g O false hg hO hb he)) (AV.fn (Fn.func 28) [] []) [ls g Room.no, I 1] (hy (wgN g) (wgD g)) = some (AV.tup [ls (coV g 1) (rn (coV g 1)), I (rdE g 1)], hy (wgN g) (wgD g)) ∧ rdE g 1 = (0 : Int) ∧ aCall (Sof (L16 g O false hg hO hb he)) (AV.fn (Fn.func 50) [] []) [AV.agg [I (wgN g), I (wgD g)]] (hy (wgN g) (wgD g)) = some (AV.bool true, hy (wgN g) (wgD g)) ∧ aMake Tryd.prog 42 (↑g.length : Int) (↑g.length : Int) (hy (wgN g) (wgD g)) = some (AV.msl 1 0 g.length g.length (2 : Nat), hx (wgN g) (wgD g) (List.replicate g.length pair0)) ∧ LoopS (En6 (L16 g O false hg hO hb he)) (loopAt Tryd.f16 0) 166 [0, 1, 5, 7, 9, 56, 57] [ls g Room.no, pz w Room.no, AV.ptr 0 0, ls (coV g 1) (rn (coV g 1)), AV.msl 1 0 g.length g.length (2 : Nat), I (↑g.length : Int), I 0] (hx (wgN g) (wgD g) (List.replicate g.length pair0)) [Out.mk Unit (AX.exit 0) [0, 1, 5, 7, 9] (fun x => True) (fun x => [ls g Room.no, pz w Room.no, AV.ptr 0 0, cA g, mo g.length]) (fun x => hx (wgN g) (wgD g) (ow0 g.length)) fun y => [Ans.loop [0, 1, 5, 9, 65, 66, 67] [Out.mk Unit (AX.exit 2) [0, 1, 5, 9] (fun x => True) (fun x => [ls g Room.no, pz w Room.no, AV.ptr 0 0, mo g.length]) (fun x => hx (wgN g) (wgD g) O) fun y => [Ans.o (Orc.val 86 (ls g Room.no) (hx (wgN g) (wgD g) O)), Ans.o (Orc.val 88 (AV.tup [AV.bool true, I 0]) (hx (wgN g) (wgD g) O)), Ans.o Orc.dflt, Ans.o (Orc.val 99 (ls g Room.no) (hx (wgN g) (wgD g) O)), Ans.o (Orc.val 104 (AV.sl (pairsA (List.take (K9 w) w)) (K9 w) Room.no) H.nil), Ans.o (Orc.val 105 (AV.sl (pairsA (List.take (K9 w) w)) (K9 w) Room.no) (hx (wgN g) (wgD g) O)), Ans.o (Orc.val 106 (AV.tup [AV.bool false, I (liE g (List.take (K9 w) w))]) (hx (wgN g) (wgD g) O)), Ans.o (Orc.b false), Ans.o (Orc.b true), Ans.o (Orc.val 132 (AV.bool true) (hx (wgN g) (wgD g) O))]]]] ∧ (∀ (y : Unit), True → ∀ (u : Nat → AV), LoopS (En6 (L16 g O false hg hO hb he)) (loopAt Tryd.f16 1) 166 [0, 1, 5, 9, 65, 66, 67] [ls g Room.no, pz w Room.no, AV.ptr 0 0, AV.msl 1 0 g.length g.length (2 : Nat), ls (coV g 1) (rn (coV g 1)), I (↑(coV g 1).length : Int), I 0] (hx (wgN g) (wgD g) (ow0 g.length)) [Out.mk Unit (AX.exit 2) [0, 1, 5, 9] (fun x => True) (fun x => [ls g Room.no, pz w Room.no, AV.ptr 0 0, mo g.length]) (fun x => hx (wgN g) (wgD g) O) fun y => [Ans.o (Orc.val 86 (ls g Room.no) (hx (wgN g) (wgD g) O)), Ans.o (Orc.val 88 (AV.tup [AV.bool true, I 0]) (hx (wgN g) (wgD g) O)), Ans.o Orc.dflt, Ans.o (Orc.val 99 (ls g Room.no) (hx (wgN g) (wgD g) O)), Ans.o (Orc.val 104 (AV.sl (pairsA (List.take (K9 w) w)) (K9 w) Room.no) H.nil), Ans.o (Orc.val 105 (AV.sl (pairsA (List.take (K9 w) w)) (K9 w) Room.no) (hx (wgN g) (wgD g) O)), Ans.o (Orc.val 106 (AV.tup [AV.bool false, I (liE g (List.take (K9 w) w))]) (hx (wgN g) (wgD g) O)), Ans.o (Orc.b false), Ans.o (Orc.b true), Ans.o (Orc.val 132 (AV.bool true) (hx (wgN g) (wgD g) O))]] ∧ (∀ (y : Unit), True → ∀ (u : Nat → AV), aCall (Sof (L16 g O false hg hO hb he)) (AV.fn (Fn.func 19) [] []) [ls g Room.no] (hx (wgN g) (wgD g) O) = some (ls g Room.no, hx (wgN g) (wgD g) O) ∧ aCall (Sof (L16 g O false hg hO hb he)) (AV.fn (Fn.func 34) [] []) [ls g Room.no, AV.msl 1 0 g.length g.length (2 : Nat)] (hx (wgN g) (wgD g) O) = some (AV.tup [AV.bool true, I 0], hx (wgN g) (wgD g) O) ∧ aCall (Sof (L16 g O false hg hO hb he)) (AV.fn (Fn.func 19) [] []) [ls g Room.no] (hx (wgN g) (wgD g) O) = some (ls g Room.no, hx (wgN g) (wgD g) O) ∧ aSlice Tryd.prog 42 (pz w Room.no) none (some (I (pick2 false (↑w.length : Int) (9 : Int)))) none (hx (wgN g) (wgD g) O) = some (AV.sl (pairsA (List.take (K9 w) w)) (K9 w) Room.no) ∧ aCall (Sof (L16 g O false hg hO hb he)) (AV.fn (Fn.func 35) [] []) [AV.sl (pairsA (List.take (K9 w) w)) (K9 w) Room.no] (hx (wgN g) (wgD g) O) = some (AV.sl (pairsA (List.take (K9 w) w)) (K9 w) Room.no, hx (wgN g) (wgD g) O) ∧ aCall (Sof (L16 g O false hg hO hb he)) (AV.fn (Fn.func 34) [] []) [ls g Room.no, AV.sl (pairsA (List.take (K9 w) w)) (K9 w) Room.no] (hx (wgN g) (wgD g) O) = some (AV.tup [AV.bool false, I (liE g (List.take (K9 w) w))], hx (wgN g) (wgD g) O) ∧ liE g (List.take (K9 w) w) = (0 : Int) ∧ liE g (List.take (K9 w) w) = (0 : Int) ∧ aCall (Sof (L16 g O false hg hO hb he)) (AV.fn (Fn.func 23) [] []) [] (hx (wgN g) (wgD g) O) = some (AV.bool true, hx (wgN g) (wgD g) O) ∧ (AV.bool true, H.mk [] [] []) = (AV.bool true, H.mk [] [] [])) ∧ True) ∧ True) (by kernel_rfl) ?_
  refine ⟨acall_hit (c := (c19k g hg).to) () _ rfl trivial, ?_⟩
  refine ⟨acall_hit (c := c33.to) (g, .no) _ rfl pg, ?_⟩
  refine ⟨by first | with_reducible assumption | omega | assumption, ?_⟩
  refine ⟨acall_b (acall_hit (c := c29.to) (g, .no) _ rfl pg) b29, ?_⟩
  refine ⟨acall_hit (c := (c19k g hg).to) () _ rfl trivial, ?_⟩
  refine ⟨acall_hit (c := c28.to) (g, .no, 1) _ rfl pg, ?_⟩
  refine ⟨by first | with_reducible assumption | omega | assumption, ?_⟩
  refine ⟨acall_hit (c := c50.to) (wgN g, wgD g) _ rfl p50, ?_⟩
  refine ⟨tmk, ?_⟩
  refine ⟨lpa, ?_⟩
  refine And.intro ?_ ?_
  · skip
    intro y
    intro w1
    intro u
    refine ⟨lpb, ?_⟩
    refine And.intro ?_ ?_
    · skip
      intro y
      intro w4
      intro u
      refine ⟨acall_hit (c := (c19k g hg).to) () _ rfl trivial, ?_⟩
      refine ⟨by first | exact acall_hit (c := c34o g O false hg hO hb he) (.inl ()) _ rfl rfl | exact acall_hit (c := c34o g O false hg hO hb he) (.inr (w.take (K9 w), K9 w, .no)) _ rfl ⟨k.1, ⟨k.2.2, fun _ => no_ne⟩, hB⟩, ?_⟩
      refine ⟨acall_hit (c := (c19k g hg).to) () _ rfl trivial, ?_⟩
      refine ⟨sl_pairs (by kernel_rfl) s0 s1, ?_⟩
      refine ⟨acall_hit (c := c35.to) (w.take (K9 w), K9 w) _ rfl ⟨k.1, k.2.1⟩, ?_⟩
      refine ⟨by first | exact acall_hit (c := c34o g O false hg hO hb he) (.inl ()) _ rfl rfl | exact acall_hit (c := c34o g O false hg hO hb he) (.inr (w.take (K9 w), K9 w, .no)) _ rfl ⟨k.1, ⟨k.2.2, fun _ => no_ne⟩, hB⟩, ?_⟩
      refine ⟨by first | with_reducible assumption | omega | assumption, ?_⟩
      refine ⟨by first | with_reducible assumption | omega | assumption, ?_⟩
      refine ⟨acall_hit (c := c23.to) () _ rfl trivial, ?_⟩
      first | with_reducible rfl | (refine bleaf_t ?_; omega) | (refine bleaf_f ?_; omega) | (refine ileaf ?_; omega) | rfl | (exfalso; omega)
    · skip
      trivial
  · skip
    trivial

theorem r16t (g : List Int) (w : List Pr) (O : List Pr) (h : Good16 g w O (pz w .no)) (hg : Gr g) (hO : O.length = g.length) (hb : liB g O = true) (he : liE g O = 0) (hl : w.length = g.length) (hw : wOKs w) (hP : liP g w) (hE : liE g (w.take (K9 w)) = 0) (hB : liB g (w.take (K9 w)) = true) :
    Body (En6 (L16 g O true hg hO hb he)) none1 Tryd.f16 [ls g .no, pz w .no] .nil (.bool true, .nil) := by
  obtain ⟨pg, b29, p50, e1, d1, tmk, lpa, lpb, k, s0, s1⟩ := h
  have lpa := lpa (rests16 true hg hO hb he)
  have lpb := lpb (rests16 true hg hO hb he)
  have h6 : w.length ≤ 6 := by rw [hl]; exact hg.1.2
  have lpc := lp16c (rests16 true hg hO hb he) simp16c w (wgN g) (wgD g) O hw h6
  have hE : liE g (w.take (pick2 false (w.length : Int) 9).toNat) = 0 := hE
  have b37 := rwB_t (g := g) ⟨hw, hl⟩
  have p37 : lim w.length ∧ rok w .no := ⟨by show w.length ≤ _; omega, fun _ => no_ne⟩
  have fin := su_le ⟨hg, hl, hw⟩ hP
  obtain ⟨a1, a2, b1, b2⟩ := su_b hw w.length (Nat.le_refl _)
  have hpw : ((60 ^ w.length : Nat) : Int) ≤ 46656000000 := by
    have : 60 ^ w.length ≤ 60 ^ 6 := Nat.pow_le_pow_right (by decide) h6
    omega
  have hpw2 : (w.length : Int) * ((60 ^ w.length : Nat) : Int) ≤ 6 * 46656000000 := Int.mul_le_mul (by omega) hpw (Int.natCast_nonneg _) (by decide)
  have m1 := Int.mul_nonneg a1 (show 0 ≤ wgD g by omega)
  have m2 := Int.mul_le_mul (show wgN g ≤ 4320 by omega) (show (suA w w.length).2 ≤ 46656000000 by omega) (by omega) (by decide)
  have ev0 : IntKind.i64.wrap ((suA w w.length).1 * wgD g) = (suA w w.length).1 * wgD g := wr _ (by omega) (by omega)
  have ev1 : IntKind.i64.wrap (wgN g * (suA w w.length).2) = wgN g * (suA w w.length).2 := wr _ (by omega) (by omega)
  refine body_s ([Ans.o (Orc.val 23 (ls g Room.no) (H.mk [] [] [])), Ans.o (Orc.val 24 (AV.tup [AV.agg [I (wgN g), I (wgD g)], I (wgE g)]) (H.mk [] [] [])), Ans.o (Orc.b false), Ans.o (Orc.val 31 (AV.bool true) (hy (wgN g) (wgD g))), Ans.o (Orc.val 41 (ls g Room.no) (hy (wgN g) (wgD g))), Ans.o (Orc.val 42 (AV.tup [ls (coV g 1) (rn (coV g 1)), I (rdE g 1)]) (hy (wgN g) (wgD g))), Ans.o (Orc.b false), Ans.o (Orc.val 49 (AV.bool true) (hy (wgN g) (wgD g))), Ans.o (Orc.val 54 (mo g.length) (hx (wgN g) (wgD g) (List.replicate g.length pair0))), Ans.loop [0, 1, 5, 7, 9, 56, 57] [Out.mk Unit (AX.exit 0) [0, 1, 5, 7, 9] (fun x => True) (fun x => [ls g Room.no, pz w Room.no, AV.ptr 0 0, cA g, mo g.length]) (fun x => hx (wgN g) (wgD g) (ow0 g.length)) fun y => [Ans.loop [0, 1, 5, 9, 65, 66, 67] [Out.mk Unit (AX.exit 2) [0, 1, 5, 9] (fun x => True) (fun x => [ls g Room.no, pz w Room.no, AV.ptr 0 0, mo g.length]) (fun x => hx (wgN g) (wgD g) O) fun y => [Ans.o (Orc.val 86 (ls g Room.no) (hx (wgN g) (wgD g) O)), Ans.o (Orc.val 88 (AV.tup [AV.bool true, I 0]) (hx (wgN g) (wgD g) O)), Ans.o Orc.dflt, Ans.o (Orc.val 99 (ls g Room.no) (hx (wgN g) (wgD g) O)), Ans.o (Orc.val 104 (AV.sl (pairsA (List.take (K9 w) w)) (K9 w) Room.no) H.nil), Ans.o (Orc.val 105 (AV.sl (pairsA (List.take (K9 w) w)) (K9 w) Room.no) (hx (wgN g) (wgD g) O)), Ans.o (Orc.val 106 (AV.tup [AV.bool true, I (liE g (List.take (K9 w) w))]) (hx (wgN g) (wgD g) O)), Ans.o (Orc.b false), Ans.o (Orc.val 118 (AV.bool true) (hx (wgN g) (wgD g) O)), Ans.loop [5, 17, 18, 134, 135, 136] [Out.mk Unit (AX.exit 4) [5, 17, 18] (fun x => True) (fun x => [AV.ptr 0 0, I (suA w w.length).fst, I (suA w w.length).snd]) (fun x => hx (wgN g) (wgD g) O) fun y => [Ans.o (Orc.val 157 (I ((suA w w.length).fst * wgD g)) H.nil), Ans.o (Orc.val 161 (I (wgN g * (suA w w.length).snd)) H.nil), Ans.o (Orc.b true), Ans.o (Orc.val 164 (AV.bool true) (hx (wgN g) (wgD g) O))]]]]]]]) (aCall (Sof (L16 g O true hg hO hb he)) (AV.fn (Fn.func 19) [] []) [ls g Room.no] (H.mk [] [] []) = some (ls g Room.no, H.mk [] [] []) ∧ aCall (Sof (L16 g O true hg hO hb he)) (AV.fn (Fn.func 33) [] []) [ls g Room.no] (H.mk [] [] []) = some (AV.tup [AV.agg [I (wgN g), I (wgD g)], I (wgE g)], H.mk [] [] []) ∧ wgE g = (0 : Int) ∧ aCall (Sof (L16 g O true hg hO hb he)) (AV.fn (Fn.func 29) [] []) [ls g Room.no] (hy (wgN g) (wgD g)) = some (AV.bool true, hy (wgN g) (wgD g)) ∧ aCall (Sof (L16 g O true hg hO hb he)) (AV.fn (Fn.func 19) [] []) [ls g Room.no] (hy (wgN g) (wgD g)) = some (ls g Room.no, hy (wgN g) (wgD g)) ∧ aCall (Sof (L16 g O true hg hO hb he)) (AV.fn (Fn.func 28) [] []) [ls g Room.no, I 1] (hy (wgN g) (wgD g)) = some (AV.tup [ls (coV g 1) (rn (coV g 1)), I (rdE g 1)], hy (wgN g) (wgD g)) ∧ rdE g 1 = (0 : Int) ∧ aCall (Sof (L16 g O true hg hO hb he)) (AV.fn (Fn.func 50) [] []) [AV.agg [I (wgN g), I (wgD g)]] (hy (wgN g) (wgD g)) = some (AV.bool true, hy (wgN g) (wgD g)) ∧ aMake Tryd.prog 42 (↑g.length : Int) (↑g.length : Int) (hy (wgN g) (wgD g)) = some (AV.msl 1 0 g.length g.length (2 : Nat), hx (wgN g) (wgD g) (List.replicate g.length pair0)) ∧ LoopS (En6 (L16 g O true hg hO hb he)) (loopAt Tryd.f16 0) 166 [0, 1, 5, 7, 9, 56, 57] [ls g Room.no, pz w Room.no, AV.ptr 0 0, ls (coV g 1) (rn (coV g 1)), AV.msl 1 0 g.length g.length (2 : Nat), I (↑g.length : Int), I 0] (hx (wgN g) (wgD g) (List.replicate g.length pair0)) [Out.mk Unit (AX.exit 0) [0, 1, 5, 7, 9] (fun x => True) (fun x => [ls g Room.no, pz w Room.no, AV.ptr 0 0, cA g, mo g.length]) (fun x => hx (wgN g) (wgD g) (ow0 g.length)) fun y => [Ans.loop [0, 1, 5, 9, 65, 66, 67] [Out.mk Unit (AX.exit 2) [0, 1, 5, 9] (fun x => True) (fun x => [ls g Room.no, pz w Room.no, AV.ptr 0 0, mo g.length]) (fun x => hx (wgN g) (wgD g) O) fun y => [Ans.o (Orc.val 86 (ls g Room.no) (hx (wgN g) (wgD g) O)), Ans.o (Orc.val 88 (AV.tup [AV.bool true, I 0]) (hx (wgN g) (wgD g) O)), Ans.o Orc.dflt, Ans.o (Orc.val 99 (ls g Room.no) (hx (wgN g) (wgD g) O)), Ans.o (Orc.val 104 (AV.sl (pairsA (List.take (K9 w) w)) (K9 w) Room.no) H.nil), Ans.o (Orc.val 105 (AV.sl (pairsA (List.take (K9 w) w)) (K9 w) Room.no) (hx (wgN g) (wgD g) O)), Ans.o (Orc.val 106 (AV.tup [AV.bool true, I (liE g (List.take (K9 w) w))]) (hx (wgN g) (wgD g) O)), Ans.o (Orc.b false), Ans.o (Orc.val 118 (AV.bool true) (hx (wgN g) (wgD g) O)), Ans.loop [5, 17, 18, 134, 135, 136] [Out.mk Unit (AX.exit 4) [5, 17, 18] (fun x => True) (fun x => [AV.ptr 0 0, I (suA w w.length).fst, I (suA w w.length).snd]) (fun x => hx (wgN g) (wgD g) O) fun y => [Ans.o (Orc.val 157 (I ((suA w w.length).fst * wgD g)) H.nil), Ans.o (Orc.val 161 (I (wgN g * (suA w w.length).snd)) H.nil), Ans.o (Orc.b true), Ans.o (Orc.val 164 (AV.bool true) (hx (wgN g) (wgD g) O))]]]]]] ∧ (∀ (y : Unit), True → ∀ (u : Nat → AV), LoopS (En6 (L16 g O true hg hO hb he)) (loopAt Tryd.f16 1) 166 [0, 1, 5, 9, 65, 66, 67] [ls g Room.no, pz w Room.no, AV.ptr 0 0, AV.msl 1 0 g.length g.length (2 : Nat), ls (coV g 1) (rn (coV g 1)), I (↑(coV g 1).length : Int), I 0] (hx (wgN g) (wgD g) (ow0 g.length)) [Out.mk Unit (AX.exit 2) [0, 1, 5, 9] (fun x => True) (fun x => [ls g Room.no, pz w Room.no, AV.ptr 0 0, mo g.length]) (fun x => hx (wgN g) (wgD g) O) fun y => [Ans.o (Orc.val 86 (ls g Room.no) (hx (wgN g) (wgD g) O)), Ans.o (Orc.val 88 (AV.tup [AV.bool true, I 0]) (hx (wgN g) (wgD g) O)), Ans.o Orc.dflt, Ans.o (Orc.val 99 (ls g Room.no) (hx (wgN g) (wgD g) O)), Ans.o (Orc.val 104 (AV.sl (pairsA (List.take (K9 w) w)) (K9 w) Room.no) H.nil), Ans.o (Orc.val 105 (AV.sl (pairsA (List.take (K9 w) w)) (K9 w) Room.no) (hx (wgN g) (wgD g) O)), Ans.o (Orc.val 106 (AV.tup [AV.bool true, I (liE g (List.take (K9 w) w))]) (hx (wgN g) (wgD g) O)), Ans.o (Orc.b false), Ans.o (Orc.val 118 (AV.bool true) (hx (wgN g) (wgD g) O)), Ans.loop [5, 17, 18, 134, 135, 136] [Out.mk Unit (AX.exit 4) [5, 17, 18] (fun x => True) (fun x => [AV.ptr 0 0, I (suA w w.length).fst, I (suA w w.length).snd]) (fun x => hx (wgN g) (wgD g) O) fun y => [Ans.o (Orc.val 157 (I ((suA w w.length).fst * wgD g)) H.nil), Ans.o (Orc.val 161 (I (wgN g * (suA w w.length).snd)) H.nil), Ans.o (Orc.b true), Ans.o (Orc.val 164 (AV.bool true) (hx (wgN g) (wgD g) O))]]]] ∧ (∀ (y : Unit), True → ∀ (u : Nat → AV), aCall (Sof (L16 g O true hg hO hb he)) (AV.fn (Fn.func 19) [] []) [ls g Room.no] (hx (wgN g) (wgD g) O) = some (ls g Room.no, hx (wgN g) (wgD g) O) ∧ aCall (Sof (L16 g O true hg hO hb he)) (AV.fn (Fn.func 34) [] []) [ls g Room.no, AV.msl 1 0 g.length g.length (2 : Nat)] (hx (wgN g) (wgD g) O) = some (AV.tup [AV.bool true, I 0], hx (wgN g) (wgD g) O) ∧ aCall (Sof (L16 g O true hg hO hb he)) (AV.fn (Fn.func 19) [] []) [ls g Room.no] (hx (wgN g) (wgD g) O) = some (ls g Room.no, hx (wgN g) (wgD g) O) ∧ aSlice Tryd.prog 42 (pz w Room.no) none (some (I (pick2 false (↑w.length : Int) (9 : Int)))) none (hx (wgN g) (wgD g) O) = some (AV.sl (pairsA (List.take (K9 w) w)) (K9 w) Room.no) ∧ aCall (Sof (L16 g O true hg hO hb he)) (AV.fn (Fn.func 35) [] []) [AV.sl (pairsA (List.take (K9 w) w)) (K9 w) Room.no] (hx (wgN g) (wgD g) O) = some (AV.sl (pairsA (List.take (K9 w) w)) (K9 w) Room.no, hx (wgN g) (wgD g) O) ∧ aCall (Sof (L16 g O true hg hO hb he)) (AV.fn (Fn.func 34) [] []) [ls g Room.no, AV.sl (pairsA (List.take (K9 w) w)) (K9 w) Room.no] (hx (wgN g) (wgD g) O) = some (AV.tup [AV.bool true, I (liE g (List.take (K9 w) w))], hx (wgN g) (wgD g) O) ∧ liE g (List.take (K9 w) w) = (0 : Int) ∧ aCall (Sof (L16 g O true hg hO hb he)) (AV.fn (Fn.func 37) [] []) [ls g Room.no, pz w Room.no] (hx (wgN g) (wgD g) O) = some (AV.bool true, hx (wgN g) (wgD g) O) ∧ LoopS (En6 (L16 g O true hg hO hb he)) (loopAt Tryd.f16 2) 166 [5, 17, 18, 134, 135, 136] [AV.ptr 0 0, I 0, I 1, pz w Room.no, I (↑w.length : Int), I 0] (hx (wgN g) (wgD g) O) [Out.mk Unit (AX.exit 4) [5, 17, 18] (fun x => True) (fun x => [AV.ptr 0 0, I (suA w w.length).fst, I (suA w w.length).snd]) (fun x => hx (wgN g) (wgD g) O) fun y => [Ans.o (Orc.val 157 (I ((suA w w.length).fst * wgD g)) H.nil), Ans.o (Orc.val 161 (I (wgN g * (suA w w.length).snd)) H.nil), Ans.o (Orc.b true), Ans.o (Orc.val 164 (AV.bool true) (hx (wgN g) (wgD g) O))]] ∧ (∀ (y : Unit), True → ∀ (u : Nat → AV), aBin Tryd.prog BinOp.mul (3 : Nat) (I (suA w w.length).fst) (I (wgD g)) = some (I ((suA w w.length).fst * wgD g)) ∧ aBin Tryd.prog BinOp.mul (3 : Nat) (I (wgN g)) (I (suA w w.length).snd) = some (I (wgN g * (suA w w.length).snd)) ∧ (suA w w.length).fst * wgD g ≤ wgN g * (suA w w.length).snd ∧ aCall (Sof (L16 g O true hg hO hb he)) (AV.fn (Fn.func 23) [] []) [] (hx (wgN g) (wgD g) O) = some (AV.bool true, hx (wgN g) (wgD g) O) ∧ (AV.bool true, H.mk [] [] []) = (AV.bool true, H.mk [] [] [])) ∧ True) ∧ True) ∧ True) (by kernel_rfl) ?_
  refine ⟨acall_hit (c := (c19k g hg).to) () _ rfl trivial, ?_⟩
  refine ⟨acall_hit (c := c33.to) (g, .no) _ rfl pg, ?_⟩
  refine ⟨by first | with_reducible assumption | omega | assumption, ?_⟩
  refine ⟨acall_b (acall_hit (c := c29.to) (g, .no) _ rfl pg) b29, ?_⟩
  refine ⟨acall_hit (c := (c19k g hg).to) () _ rfl trivial, ?_⟩
  refine ⟨acall_hit (c := c28.to) (g, .no, 1) _ rfl pg, ?_⟩
  refine ⟨by first | with_reducible assumption | omega | assumption, ?_⟩
  refine ⟨acall_hit (c := c50.to) (wgN g, wgD g) _ rfl p50, ?_⟩
  refine ⟨tmk, ?_⟩
  refine ⟨lpa, ?_⟩
  refine And.intro ?_ ?_
  · skip
    intro y
    intro w1
    intro u
    refine ⟨lpb, ?_⟩
    refine And.intro ?_ ?_
    · skip
      intro y
      intro w4
      intro u
      refine ⟨acall_hit (c := (c19k g hg).to) () _ rfl trivial, ?_⟩
      refine ⟨by first | exact acall_hit (c := c34o g O true hg hO hb he) (.inl ()) _ rfl rfl | exact acall_hit (c := c34o g O true hg hO hb he) (.inr (w.take (K9 w), K9 w, .no)) _ rfl ⟨k.1, ⟨k.2.2, fun _ => no_ne⟩, hB⟩, ?_⟩
      refine ⟨acall_hit (c := (c19k g hg).to) () _ rfl trivial, ?_⟩
      refine ⟨sl_pairs (by kernel_rfl) s0 s1, ?_⟩
      refine ⟨acall_hit (c := c35.to) (w.take (K9 w), K9 w) _ rfl ⟨k.1, k.2.1⟩, ?_⟩
      refine ⟨by first | exact acall_hit (c := c34o g O true hg hO hb he) (.inl ()) _ rfl rfl | exact acall_hit (c := c34o g O true hg hO hb he) (.inr (w.take (K9 w), K9 w, .no)) _ rfl ⟨k.1, ⟨k.2.2, fun _ => no_ne⟩, hB⟩, ?_⟩
      refine ⟨by first | with_reducible assumption | omega | assumption, ?_⟩
      refine ⟨acall_b (acall_hit (c := c37.to) (g, .no, w, .no) _ rfl p37) b37, ?_⟩
      refine ⟨lpc, ?_⟩
      refine And.intro ?_ ?_
      · skip
        intro y
        intro w7
        intro u
        refine ⟨told_mul (by with_reducible assumption), ?_⟩
        refine ⟨told_mul (by with_reducible assumption), ?_⟩
        refine ⟨by first | with_reducible assumption | omega | assumption, ?_⟩
        refine ⟨acall_hit (c := c23.to) () _ rfl trivial, ?_⟩
        first | with_reducible rfl | (refine bleaf_t ?_; omega) | (refine bleaf_f ?_; omega) | (refine ileaf ?_; omega) | rfl | (exfalso; omega)
      · skip
        trivial
    · skip
      trivial
  · skip
    trivial
noncomputable def c35n : PCtr Tryd.prog where
  f := 35
  X := Unit
  args _ := [.sl [] 0 .nil]
  pre _ := True
  v _ := .sl [] 0 .nil
  det _ _ _ _ _ := rfl
  ok _ _ := ⟨ok35.call, fun H => pure_call ((r35n.run ok35 .nil rfl).drop rfl) rfl rfl H⟩
noncomputable def c35e : PCtr Tryd.prog where
  f := 35
  X := Unit
  args _ := [.sl [] 0 .e]
  pre _ := True
  v _ := .sl [] 0 .no
  det _ _ _ _ _ := rfl
  ok _ _ := ⟨ok35.call, fun H => pure_call ((r35e.run ok35 .nil rfl).drop rfl) rfl rfl H⟩
noncomputable def c34z (g : List Int) (O : List Pr) (hg : Gr g) (hO : O.length = g.length) (hb : liB g O = true) (he : liE g O = 0) (hB : liB g [] = false) (hE : liE g [] = 2) : Ctr Tryd.prog where
  f := 34
  X := Unit ⊕ Room
  args x := match x with
    | .inl _ => [ls g .no, mo g.length]
    | .inr r => [ls g .no, .sl [] 0 r]
  pre x h := match x with
    | .inl _ => h.blk[1]? = some (pairsA O)
    | .inr _ => True
  res x h := match x with
    | .inl _ => (.tup [.bool true, I 0], h)
    | .inr _ => (.tup [.bool false, I 2], h)
  det := by
    rintro (_ | r) (_ | r') h e _ _
    · rfl
    · simp at e
    · simp at e
    · rfl
  ok := by
    rintro (_ | r) h hp
    · exact (c34o g O false hg hO hb he).ok (.inl ()) h hp
    · have := (c34o g O false hg hO hb he).ok (.inr ([], 0, r)) h ⟨rfl, ⟨Nat.zero_le _, fun h => absurd rfl h⟩, hB⟩
      have e : (c34o g O false hg hO hb he).res (.inr ([], 0, r)) h = (.tup [.bool false, I 2], h) := by
        show (AV.tup [.bool false, I (liE g [])], h) = _
        rw [hE]
      rw [e] at this
      exact this
theorem c34z_reads (g : List Int) (O : List Pr) (hg : Gr g) (hO : O.length = g.length) (hb : liB g O = true) (he : liE g O = 0) (hB : liB g [] = false) (hE : liE g [] = 2) : (c34z g O hg hO hb he hB hE).Reads := ⟨fun x _ _ => by cases x <;> rfl, fun x h zs hp => by
  cases x with
  | inl _ =>
    refine ⟨?_, rfl⟩
    have hlt := (List.getElem?_eq_some_iff.1 hp).1
    show (h.blk ++ zs)[1]? = _
    rw [List.getElem?_append_left hlt]; exact hp
  | inr y => exact ⟨trivial, rfl⟩⟩
theorem rests16x {g : List Int} {O : List Pr} (c : PCtr Tryd.prog) (hg : Gr g) (hO : O.length = g.length) (hb : liB g O = true) (he : liE g O = 0) (hB : liB g [] = false) (hE : liE g [] = 2) : Rests (En6 [(c19k g hg).to, c33.to, c29.to, c28.to, c50.to, c34z g O hg hO hb he hB hE, c.to, c37.to, c23.to]) none1 :=
  rests mixed (.pure _ (.pure _ (.pure _ (.pure _ (.pure _ (.rd _ (c34z_reads g O hg hO hb he hB hE) (.pure _ (.pure _ (.pure _ .nil)))))))))
theorem r16z (g : List Int) (O : List Pr) (h : Good16 g [] O (pz [] .nil)) (hg : Gr g) (hO : O.length = g.length) (hb : liB g O = true) (he : liE g O = 0) (hB : liB g [] = false) (hE : liE g [] = 2) :
    Body (En6 [(c19k g hg).to, c33.to, c29.to, c28.to, c50.to, c34z g O hg hO hb he hB hE, c35n.to, c37.to, c23.to]) none1 Tryd.f16 [ls g .no, pz [] .nil] .nil (.bool true, .nil) := by
  obtain ⟨pg, b29, p50, e1, d1, tmk, lpa, lpb, _, _, _⟩ := h
  have lpa := lpa (rests16x c35n hg hO hb he hB hE)
  have lpb := lpb (rests16x c35n hg hO hb he hB hE)
  have hE2 : liE g [] ≠ 0 := by omega
  refine body_s ([Ans.o (Orc.val 23 (ls g Room.no) (H.mk [] [] [])), Ans.o (Orc.val 24 (AV.tup [AV.agg [I (wgN g), I (wgD g)], I (wgE g)]) (H.mk [] [] [])), Ans.o (Orc.b false), Ans.o (Orc.val 31 (AV.bool true) (hy (wgN g) (wgD g))), Ans.o (Orc.val 41 (ls g Room.no) (hy (wgN g) (wgD g))), Ans.o (Orc.val 42 (AV.tup [ls (coV g 1) (rn (coV g 1)), I (rdE g 1)]) (hy (wgN g) (wgD g))), Ans.o (Orc.b false), Ans.o (Orc.val 49 (AV.bool true) (hy (wgN g) (wgD g))), Ans.o (Orc.val 54 (mo g.length) (hx (wgN g) (wgD g) (List.replicate g.length pair0))), Ans.loop [0, 1, 5, 7, 9, 56, 57] [Out.mk Unit (AX.exit 0) [0, 1, 5, 7, 9] (fun x => True) (fun x => [ls g Room.no, pz [] Room.nil, AV.ptr 0 0, cA g, mo g.length]) (fun x => hx (wgN g) (wgD g) (ow0 g.length)) fun y => [Ans.loop [0, 1, 5, 9, 65, 66, 67] [Out.mk Unit (AX.exit 2) [0, 1, 5, 9] (fun x => True) (fun x => [ls g Room.no, pz [] Room.nil, AV.ptr 0 0, mo g.length]) (fun x => hx (wgN g) (wgD g) O) fun y => [Ans.o (Orc.val 86 (ls g Room.no) (hx (wgN g) (wgD g) O)), Ans.o (Orc.val 88 (AV.tup [AV.bool true, I 0]) (hx (wgN g) (wgD g) O)), Ans.o Orc.dflt, Ans.o (Orc.val 99 (ls g Room.no) (hx (wgN g) (wgD g) O)), Ans.o (Orc.val 105 (AV.sl [] (0 : Nat) Room.nil) (hx (wgN g) (wgD g) O)), Ans.o (Orc.val 106 (AV.tup [AV.bool false, I 2]) (hx (wgN g) (wgD g) O)), Ans.o Orc.dflt, Ans.o Orc.dflt, Ans.o Orc.dflt, Ans.o (Orc.val 132 (AV.bool true) (hx (wgN g) (wgD g) O))]]]]]) (aCall (Sof [(c19k g hg).to, c33.to, c29.to, c28.to, c50.to, c34z g O hg hO hb he hB hE, c35n.to, c37.to, c23.to]) (AV.fn (Fn.func 19) [] []) [ls g Room.no] (H.mk [] [] []) = some (ls g Room.no, H.mk [] [] []) ∧ aCall (Sof [(c19k g hg).to, c33.to, c29.to, c28.to, c50.to, c34z g O hg hO hb he hB hE, c35n.to, c37.to, c23.to]) (AV.fn (Fn.func 33) [] []) [ls g Room.no] (H.mk [] [] []) = some (AV.tup [AV.agg [I (wgN g), I (wgD g)], I (wgE g)], H.mk [] [] []) ∧ wgE g = (0 : Int) ∧ aCall (Sof [(c19k g hg).to, c33.to, c29.to, c28.to, c50.to, c34z g O hg hO hb he hB hE, c35n.to, c37.to, c23.to]) (AV.fn (Fn.func 29) [] []) [ls g Room.no] (hy (wgN g) (wgD g)) = some (AV.bool true, hy (wgN g) (wgD g)) ∧ aCall (Sof [(c19k g hg).to, c33.to, c29.to, c28.to, c50.to, c34z g O hg hO hb he hB hE, c35n.to, c37.to, c23.to]) (AV.fn (Fn.func 19) [] []) [ls g Room.no] (hy (wgN g) (wgD g)) = some (ls g Room.no, hy (wgN g) (wgD g)) ∧ aCall (Sof [(c19k g hg).to, c33.to, c29.to, c28.to, c50.to, c34z g O hg hO hb he hB hE, c35n.to, c37.to, c23.to]) (AV.fn (Fn.func 28) [] []) [ls g Room.no, I 1] (hy (wgN g) (wgD g)) = some (AV.tup [ls (coV g 1) (rn (coV g 1)), I (rdE g 1)], hy (wgN g) (wgD g)) ∧ rdE g 1 = (0 : Int) ∧ aCall (Sof [(c19k g hg).to, c33.to, c29.to, c28.to, c50.to, c34z g O hg hO hb he hB hE, c35n.to, c37.to, c23.to]) (AV.fn (Fn.func 50) [] []) [AV.agg [I (wgN g), I (wgD g)]] (hy (wgN g) (wgD g)) = some (AV.bool true, hy (wgN g) (wgD g)) ∧ aMake Tryd.prog 42 (↑g.length : Int) (↑g.length : Int) (hy (wgN g) (wgD g)) = some (AV.msl 1 0 g.length g.length (2 : Nat), hx (wgN g) (wgD g) (List.replicate g.length pair0)) ∧ LoopS (En6 [(c19k g hg).to, c33.to, c29.to, c28.to, c50.to, c34z g O hg hO hb he hB hE, c35n.to, c37.to, c23.to]) (loopAt Tryd.f16 0) 166 [0, 1, 5, 7, 9, 56, 57] [ls g Room.no, AV.sl (pairsA []) (0 : Nat) Room.nil, AV.ptr 0 0, ls (coV g 1) (rn (coV g 1)), AV.msl 1 0 g.length g.length (2 : Nat), I (↑g.length : Int), I 0] (hx (wgN g) (wgD g) (List.replicate g.length pair0)) [Out.mk Unit (AX.exit 0) [0, 1, 5, 7, 9] (fun x => True) (fun x => [ls g Room.no, pz [] Room.nil, AV.ptr 0 0, cA g, mo g.length]) (fun x => hx (wgN g) (wgD g) (ow0 g.length)) fun y => [Ans.loop [0, 1, 5, 9, 65, 66, 67] [Out.mk Unit (AX.exit 2) [0, 1, 5, 9] (fun x => True) (fun x => [ls g Room.no, pz [] Room.nil, AV.ptr 0 0, mo g.length]) (fun x => hx (wgN g) (wgD g) O) fun y => [Ans.o (Orc.val 86 (ls g Room.no) (hx (wgN g) (wgD g) O)), Ans.o (Orc.val 88 (AV.tup [AV.bool true, I 0]) (hx (wgN g) (wgD g) O)), Ans.o Orc.dflt, Ans.o (Orc.val 99 (ls g Room.no) (hx (wgN g) (wgD g) O)), Ans.o (Orc.val 105 (AV.sl [] (0 : Nat) Room.nil) (hx (wgN g) (wgD g) O)), Ans.o (Orc.val 106 (AV.tup [AV.bool false, I 2]) (hx (wgN g) (wgD g) O)), Ans.o Orc.dflt, Ans.o Orc.dflt, Ans.o Orc.dflt, Ans.o (Orc.val 132 (AV.bool true) (hx (wgN g) (wgD g) O))]]]] ∧ (∀ (y : Unit), True → ∀ (u : Nat → AV), LoopS (En6 [(c19k g hg).to, c33.to, c29.to, c28.to, c50.to, c34z g O hg hO hb he hB hE, c35n.to, c37.to, c23.to]) (loopAt Tryd.f16 1) 166 [0, 1, 5, 9, 65, 66, 67] [ls g Room.no, AV.sl (pairsA []) (0 : Nat) Room.nil, AV.ptr 0 0, AV.msl 1 0 g.length g.length (2 : Nat), ls (coV g 1) (rn (coV g 1)), I (↑(coV g 1).length : Int), I 0] (hx (wgN g) (wgD g) (ow0 g.length)) [Out.mk Unit (AX.exit 2) [0, 1, 5, 9] (fun x => True) (fun x => [ls g Room.no, pz [] Room.nil, AV.ptr 0 0, mo g.length]) (fun x => hx (wgN g) (wgD g) O) fun y => [Ans.o (Orc.val 86 (ls g Room.no) (hx (wgN g) (wgD g) O)), Ans.o (Orc.val 88 (AV.tup [AV.bool true, I 0]) (hx (wgN g) (wgD g) O)), Ans.o Orc.dflt, Ans.o (Orc.val 99 (ls g Room.no) (hx (wgN g) (wgD g) O)), Ans.o (Orc.val 105 (AV.sl [] (0 : Nat) Room.nil) (hx (wgN g) (wgD g) O)), Ans.o (Orc.val 106 (AV.tup [AV.bool false, I 2]) (hx (wgN g) (wgD g) O)), Ans.o Orc.dflt, Ans.o Orc.dflt, Ans.o Orc.dflt, Ans.o (Orc.val 132 (AV.bool true) (hx (wgN g) (wgD g) O))]] ∧ (∀ (y : Unit), True → ∀ (u : Nat → AV), aCall (Sof [(c19k g hg).to, c33.to, c29.to, c28.to, c50.to, c34z g O hg hO hb he hB hE, c35n.to, c37.to, c23.to]) (AV.fn (Fn.func 19) [] []) [ls g Room.no] (hx (wgN g) (wgD g) O) = some (ls g Room.no, hx (wgN g) (wgD g) O) ∧ aCall (Sof [(c19k g hg).to, c33.to, c29.to, c28.to, c50.to, c34z g O hg hO hb he hB hE, c35n.to, c37.to, c23.to]) (AV.fn (Fn.func 34) [] []) [ls g Room.no, AV.msl 1 0 g.length g.length (2 : Nat)] (hx (wgN g) (wgD g) O) = some (AV.tup [AV.bool true, I 0], hx (wgN g) (wgD g) O) ∧ aCall (Sof [(c19k g hg).to, c33.to, c29.to, c28.to, c50.to, c34z g O hg hO hb he hB hE, c35n.to, c37.to, c23.to]) (AV.fn (Fn.func 19) [] []) [ls g Room.no] (hx (wgN g) (wgD g) O) = some (ls g Room.no, hx (wgN g) (wgD g) O) ∧ aCall (Sof [(c19k g hg).to, c33.to, c29.to, c28.to, c50.to, c34z g O hg hO hb he hB hE, c35n.to, c37.to, c23.to]) (AV.fn (Fn.func 35) [] []) [AV.sl [] (0 : Nat) Room.nil] (hx (wgN g) (wgD g) O) = some (AV.sl [] (0 : Nat) Room.nil, hx (wgN g) (wgD g) O) ∧ aCall (Sof [(c19k g hg).to, c33.to, c29.to, c28.to, c50.to, c34z g O hg hO hb he hB hE, c35n.to, c37.to, c23.to]) (AV.fn (Fn.func 34) [] []) [ls g Room.no, AV.sl [] (0 : Nat) Room.nil] (hx (wgN g) (wgD g) O) = some (AV.tup [AV.bool false, I 2], hx (wgN g) (wgD g) O) ∧ aCall (Sof [(c19k g hg).to, c33.to, c29.to, c28.to, c50.to, c34z g O hg hO hb he hB hE, c35n.to, c37.to, c23.to]) (AV.fn (Fn.func 23) [] []) [] (hx (wgN g) (wgD g) O) = some (AV.bool true, hx (wgN g) (wgD g) O) ∧ (AV.bool true, H.mk [] [] []) = (AV.bool true, H.mk [] [] [])) ∧ True) ∧ True) (by kernel_rfl) ?_
  refine ⟨acall_hit (c := (c19k g hg).to) () _ rfl trivial, ?_⟩
  refine ⟨acall_hit (c := c33.to) (g, .no) _ rfl pg, ?_⟩
  refine ⟨by first | with_reducible assumption | omega | assumption, ?_⟩
  refine ⟨acall_b (acall_hit (c := c29.to) (g, .no) _ rfl pg) b29, ?_⟩
  refine ⟨acall_hit (c := (c19k g hg).to) () _ rfl trivial, ?_⟩
  refine ⟨acall_hit (c := c28.to) (g, .no, 1) _ rfl pg, ?_⟩
  refine ⟨by first | with_reducible assumption | omega | assumption, ?_⟩
  refine ⟨acall_hit (c := c50.to) (wgN g, wgD g) _ rfl p50, ?_⟩
  refine ⟨tmk, ?_⟩
  refine ⟨lpa, ?_⟩
  refine And.intro ?_ ?_
  · skip
    intro y
    intro w1
    intro u
    refine ⟨lpb, ?_⟩
    refine And.intro ?_ ?_
    · skip
      intro y
      intro w4
      intro u
      refine ⟨acall_hit (c := (c19k g hg).to) () _ rfl trivial, ?_⟩
      refine ⟨by first | exact acall_hit (c := c34z g O hg hO hb he hB hE) (.inl ()) _ rfl rfl | exact acall_hit (c := c34z g O hg hO hb he hB hE) (.inr .nil) _ rfl trivial, ?_⟩
      refine ⟨acall_hit (c := (c19k g hg).to) () _ rfl trivial, ?_⟩
      refine ⟨acall_hit (c := c35n.to) () _ rfl trivial, ?_⟩
      refine ⟨by first | exact acall_hit (c := c34z g O hg hO hb he hB hE) (.inl ()) _ rfl rfl | exact acall_hit (c := c34z g O hg hO hb he hB hE) (.inr .nil) _ rfl trivial, ?_⟩
      refine ⟨acall_hit (c := c23.to) () _ rfl trivial, ?_⟩
      first | with_reducible rfl | (refine bleaf_t ?_; omega) | (refine bleaf_f ?_; omega) | (refine ileaf ?_; omega) | rfl | (exfalso; omega)
    · skip
      trivial
  · skip
    trivial
theorem r16y (g : List Int) (O : List Pr) (h : Good16 g [] O (pz [] .e)) (hg : Gr g) (hO : O.length = g.length) (hb : liB g O = true) (he : liE g O = 0) (hB : liB g [] = false) (hE : liE g [] = 2) :
    Body (En6 [(c19k g hg).to, c33.to, c29.to, c28.to, c50.to, c34z g O hg hO hb he hB hE, c35e.to, c37.to, c23.to]) none1 Tryd.f16 [ls g .no, pz [] .e] .nil (.bool true, .nil) := by
  obtain ⟨pg, b29, p50, e1, d1, tmk, lpa, lpb, _, _, _⟩ := h
  have lpa := lpa (rests16x c35e hg hO hb he hB hE)
  have lpb := lpb (rests16x c35e hg hO hb he hB hE)
  have hE2 : liE g [] ≠ 0 := by omega
  refine body_s ([Ans.o (Orc.val 23 (ls g Room.no) (H.mk [] [] [])), Ans.o (Orc.val 24 (AV.tup [AV.agg [I (wgN g), I (wgD g)], I (wgE g)]) (H.mk [] [] [])), Ans.o (Orc.b false), Ans.o (Orc.val 31 (AV.bool true) (hy (wgN g) (wgD g))), Ans.o (Orc.val 41 (ls g Room.no) (hy (wgN g) (wgD g))), Ans.o (Orc.val 42 (AV.tup [ls (coV g 1) (rn (coV g 1)), I (rdE g 1)]) (hy (wgN g) (wgD g))), Ans.o (Orc.b false), Ans.o (Orc.val 49 (AV.bool true) (hy (wgN g) (wgD g))), Ans.o (Orc.val 54 (mo g.length) (hx (wgN g) (wgD g) (List.replicate g.length pair0))), Ans.loop [0, 1, 5, 7, 9, 56, 57] [Out.mk Unit (AX.exit 0) [0, 1, 5, 7, 9] (fun x => True) (fun x => [ls g Room.no, pz [] Room.e, AV.ptr 0 0, cA g, mo g.length]) (fun x => hx (wgN g) (wgD g) (ow0 g.length)) fun y => [Ans.loop [0, 1, 5, 9, 65, 66, 67] [Out.mk Unit (AX.exit 2) [0, 1, 5, 9] (fun x => True) (fun x => [ls g Room.no, pz [] Room.e, AV.ptr 0 0, mo g.length]) (fun x => hx (wgN g) (wgD g) O) fun y => [Ans.o (Orc.val 86 (ls g Room.no) (hx (wgN g) (wgD g) O)), Ans.o (Orc.val 88 (AV.tup [AV.bool true, I 0]) (hx (wgN g) (wgD g) O)), Ans.o Orc.dflt, Ans.o (Orc.val 99 (ls g Room.no) (hx (wgN g) (wgD g) O)), Ans.o (Orc.val 105 (AV.sl [] (0 : Nat) Room.no) (hx (wgN g) (wgD g) O)), Ans.o (Orc.val 106 (AV.tup [AV.bool false, I 2]) (hx (wgN g) (wgD g) O)), Ans.o Orc.dflt, Ans.o Orc.dflt, Ans.o Orc.dflt, Ans.o (Orc.val 132 (AV.bool true) (hx (wgN g) (wgD g) O))]]]]]) (aCall (Sof [(c19k g hg).to, c33.to, c29.to, c28.to, c50.to, c34z g O hg hO hb he hB hE, c35e.to, c37.to, c23.to]) (AV.fn (Fn.func 19) [] []) [ls g Room.no] (H.mk [] [] []) = some (ls g Room.no, H.mk [] [] []) ∧ aCall (Sof [(c19k g hg).to, c33.to, c29.to, c28.to, c50.to, c34z g O hg hO hb he hB hE, c35e.to, c37.to, c23.to]) (AV.fn (Fn.func 33) [] []) [ls g Room.no] (H.mk [] [] []) = some (AV.tup [AV.agg [I (wgN g), I (wgD g)], I (wgE g)], H.mk [] [] []) ∧ wgE g = (0 : Int) ∧ aCall (Sof [(c19k g hg).to, c33.to, c29.to, c28.to, c50.to, c34z g O hg hO hb he hB hE, c35e.to, c37.to, c23.to]) (AV.fn (Fn.func 29) [] []) [ls g Room.no] (hy (wgN g) (wgD g)) = some (AV.bool true, hy (wgN g) (wgD g)) ∧ aCall (Sof [(c19k g hg).to, c33.to, c29.to, c28.to, c50.to, c34z g O hg hO hb he hB hE, c35e.to, c37.to, c23.to]) (AV.fn (Fn.func 19) [] []) [ls g Room.no] (hy (wgN g) (wgD g)) = some (ls g Room.no, hy (wgN g) (wgD g)) ∧ aCall (Sof [(c19k g hg).to, c33.to, c29.to, c28.to, c50.to, c34z g O hg hO hb he hB hE, c35e.to, c37.to, c23.to]) (AV.fn (Fn.func 28) [] []) [ls g Room.no, I 1] (hy (wgN g) (wgD g)) = some (AV.tup [ls (coV g 1) (rn (coV g 1)), I (rdE g 1)], hy (wgN g) (wgD g)) ∧ rdE g 1 = (0 : Int) ∧ aCall (Sof [(c19k g hg).to, c33.to, c29.to, c28.to, c50.to, c34z g O hg hO hb he hB hE, c35e.to, c37.to, c23.to]) (AV.fn (Fn.func 50) [] []) [AV.agg [I (wgN g), I (wgD g)]] (hy (wgN g) (wgD g)) = some (AV.bool true, hy (wgN g) (wgD g)) ∧ aMake Tryd.prog 42 (↑g.length : Int) (↑g.length : Int) (hy (wgN g) (wgD g)) = some (AV.msl 1 0 g.length g.length (2 : Nat), hx (wgN g) (wgD g) (List.replicate g.length pair0)) ∧ LoopS (En6 [(c19k g hg).to, c33.to, c29.to, c28.to, c50.to, c34z g O hg hO hb he hB hE, c35e.to, c37.to, c23.to]) (loopAt Tryd.f16 0) 166 [0, 1, 5, 7, 9, 56, 57] [ls g Room.no, AV.sl (pairsA []) (0 : Nat) Room.e, AV.ptr 0 0, ls (coV g 1) (rn (coV g 1)), AV.msl 1 0 g.length g.length (2 : Nat), I (↑g.length : Int), I 0] (hx (wgN g) (wgD g) (List.replicate g.length pair0)) [Out.mk Unit (AX.exit 0) [0, 1, 5, 7, 9] (fun x => True) (fun x => [ls g Room.no, pz [] Room.e, AV.ptr 0 0, cA g, mo g.length]) (fun x => hx (wgN g) (wgD g) (ow0 g.length)) fun y => [Ans.loop [0, 1, 5, 9, 65, 66, 67] [Out.mk Unit (AX.exit 2) [0, 1, 5, 9] (fun x => True) (fun x => [ls g Room.no, pz [] Room.e, AV.ptr 0 0, mo g.length]) (fun x => hx (wgN g) (wgD g) O) fun y => [Ans.o (Orc.val 86 (ls g Room.no) (hx (wgN g) (wgD g) O)), Ans.o (Orc.val 88 (AV.tup [AV.bool true, I 0]) (hx (wgN g) (wgD g) O)), Ans.o Orc.dflt, Ans.o (Orc.val 99 (ls g Room.no) (hx (wgN g) (wgD g) O)), Ans.o (Orc.val 105 (AV.sl [] (0 : Nat) Room.no) (hx (wgN g) (wgD g) O)), Ans.o (Orc.val 106 (AV.tup [AV.bool false, I 2]) (hx (wgN g) (wgD g) O)), Ans.o Orc.dflt, Ans.o Orc.dflt, Ans.o Orc.dflt, Ans.o (Orc.val 132 (AV.bool true) (hx (wgN g) (wgD g) O))]]]] ∧ (∀ (y : Unit), True → ∀ (u : Nat → AV), LoopS (En6 [(c19k g hg).to, c33.to, c29.to, c28.to, c50.to, c34z g O hg hO hb he hB hE, c35e.to, c37.to, c23.to]) (loopAt Tryd.f16 1) 166 [0, 1, 5, 9, 65, 66, 67] [ls g Room.no, AV.sl (pairsA []) (0 : Nat) Room.e, AV.ptr 0 0, AV.msl 1 0 g.length g.length (2 : Nat), ls (coV g 1) (rn (coV g 1)), I (↑(coV g 1).length : Int), I 0] (hx (wgN g) (wgD g) (ow0 g.length)) [Out.mk Unit (AX.exit 2) [0, 1, 5, 9] (fun x => True) (fun x => [ls g Room.no, pz [] Room.e, AV.ptr 0 0, mo g.length]) (fun x => hx (wgN g) (wgD g) O) fun y => [Ans.o (Orc.val 86 (ls g Room.no) (hx (wgN g) (wgD g) O)), Ans.o (Orc.val 88 (AV.tup [AV.bool true, I 0]) (hx (wgN g) (wgD g) O)), Ans.o Orc.dflt, Ans.o (Orc.val 99 (ls g Room.no) (hx (wgN g) (wgD g) O)), Ans.o (Orc.val 105 (AV.sl [] (0 : Nat) Room.no) (hx (wgN g) (wgD g) O)), Ans.o (Orc.val 106 (AV.tup [AV.bool false, I 2]) (hx (wgN g) (wgD g) O)), Ans.o Orc.dflt, Ans.o Orc.dflt, Ans.o Orc.dflt, Ans.o (Orc.val 132 (AV.bool true) (hx (wgN g) (wgD g) O))]] ∧ (∀ (y : Unit), True → ∀ (u : Nat → AV), aCall (Sof [(c19k g hg).to, c33.to, c29.to, c28.to, c50.to, c34z g O hg hO hb he hB hE, c35e.to, c37.to, c23.to]) (AV.fn (Fn.func 19) [] []) [ls g Room.no] (hx (wgN g) (wgD g) O) = some (ls g Room.no, hx (wgN g) (wgD g) O) ∧ aCall (Sof [(c19k g hg).to, c33.to, c29.to, c28.to, c50.to, c34z g O hg hO hb he hB hE, c35e.to, c37.to, c23.to]) (AV.fn (Fn.func 34) [] []) [ls g Room.no, AV.msl 1 0 g.length g.length (2 : Nat)] (hx (wgN g) (wgD g) O) = some (AV.tup [AV.bool true, I 0], hx (wgN g) (wgD g) O) ∧ aCall (Sof [(c19k g hg).to, c33.to, c29.to, c28.to, c50.to, c34z g O hg hO hb he hB hE, c35e.to, c37.to, c23.to]) (AV.fn (Fn.func 19) [] []) [ls g Room.no] (hx (wgN g) (wgD g) O) = some (ls g Room.no, hx (wgN g) (wgD g) O) ∧ aCall (Sof [(c19k g hg).to, c33.to, c29.to, c28.to, c50.to, c34z g O hg hO hb he hB hE, c35e.to, c37.to, c23.to]) (AV.fn (Fn.func 35) [] []) [AV.sl [] (0 : Nat) Room.e] (hx (wgN g) (wgD g) O) = some (AV.sl [] (0 : Nat) Room.no, hx (wgN g) (wgD g) O) ∧ aCall (Sof [(c19k g hg).to, c33.to, c29.to, c28.to, c50.to, c34z g O hg hO hb he hB hE, c35e.to, c37.to, c23.to]) (AV.fn (Fn.func 34) [] []) [ls g Room.no, AV.sl [] (0 : Nat) Room.no] (hx (wgN g) (wgD g) O) = some (AV.tup [AV.bool false, I 2], hx (wgN g) (wgD g) O) ∧ aCall (Sof [(c19k g hg).to, c33.to, c29.to, c28.to, c50.to, c34z g O hg hO hb he hB hE, c35e.to, c37.to, c23.to]) (AV.fn (Fn.func 23) [] []) [] (hx (wgN g) (wgD g) O) = some (AV.bool true, hx (wgN g) (wgD g) O) ∧ (AV.bool true, H.mk [] [] []) = (AV.bool true, H.mk [] [] [])) ∧ True) ∧ True) (by kernel_rfl) ?_
  refine ⟨acall_hit (c := (c19k g hg).to) () _ rfl trivial, ?_⟩
  refine ⟨acall_hit (c := c33.to) (g, .no) _ rfl pg, ?_⟩
  refine ⟨by first | with_reducible assumption | omega | assumption, ?_⟩
  refine ⟨acall_b (acall_hit (c := c29.to) (g, .no) _ rfl pg) b29, ?_⟩
  refine ⟨acall_hit (c := (c19k g hg).to) () _ rfl trivial, ?_⟩
  refine ⟨acall_hit (c := c28.to) (g, .no, 1) _ rfl pg, ?_⟩
  refine ⟨by first | with_reducible assumption | omega | assumption, ?_⟩
  refine ⟨acall_hit (c := c50.to) (wgN g, wgD g) _ rfl p50, ?_⟩
  refine ⟨tmk, ?_⟩
  refine ⟨lpa, ?_⟩
  refine And.intro ?_ ?_
  · skip
    intro y
    intro w1
    intro u
    refine ⟨lpb, ?_⟩
    refine And.intro ?_ ?_
    · skip
      intro y
      intro w4
      intro u
      refine ⟨acall_hit (c := (c19k g hg).to) () _ rfl trivial, ?_⟩
      refine ⟨by first | exact acall_hit (c := c34z g O hg hO hb he hB hE) (.inl ()) _ rfl rfl | exact acall_hit (c := c34z g O hg hO hb he hB hE) (.inr .no) _ rfl trivial, ?_⟩
      refine ⟨acall_hit (c := (c19k g hg).to) () _ rfl trivial, ?_⟩
      refine ⟨acall_hit (c := c35e.to) () _ rfl trivial, ?_⟩
      refine ⟨by first | exact acall_hit (c := c34z g O hg hO hb he hB hE) (.inl ()) _ rfl rfl | exact acall_hit (c := c34z g O hg hO hb he hB hE) (.inr .no) _ rfl trivial, ?_⟩
      refine ⟨acall_hit (c := c23.to) () _ rfl trivial, ?_⟩
      first | with_reducible rfl | (refine bleaf_t ?_; omega) | (refine bleaf_f ?_; omega) | (refine ileaf ?_; omega) | rfl | (exfalso; omega)
    · skip
      trivial
  · skip
    trivial
theorem light_ok (g : List Int) (q : RK) (w : List Pr) (p : RK) (h1 : lim g.length) (h2 : q.mt = true → g = []) (h3 : lim w.length) (h4 : p.mt = true → w = []) : CallOk Tryd.prog 16 [ls g (rr q), pz w (rr p)] .nil (.bool true) .nil := by
  have hp : pl g q := ⟨h1, h2⟩
  by_cases hg : Gr g
  · have hne : g ≠ [] := fun e => by have := hg.1.1; rw [e] at this; simp at this
    have hq : rr q = .no := by
      cases q with
      | l => rfl
      | n => exact absurd (h2 rfl) hne
      | e => exact absurd (h2 rfl) hne
    rw [hq]
    have hO := ow_len g.length (coV g 1) (coV g 1).length
    have cdr : isCd (nrV g) (coV g 1) := by
      have d1 := rd_oneb hg
      have e := co_eqB d1
      rw [e]
      have hrw : rdW g 1 = nrV g := (rd_some ⟨grB_t hg, by omega, by omega⟩ rfl).2
      rw [hrw]
      exact (frV_ok (nrV_gs hg)).2
    obtain ⟨hb, he⟩ := ow_light hg cdr
    have nil2 : liE g [] = 2 ∧ liB g [] = false := by
      have hl : ¬ liG g [] := fun h => by have h2 := h.2.1; have := hg.1.1; simp at h2; omega
      exact ⟨if_neg hl, liB_f (fun h => hl h.1)⟩
    cases p with
    | n =>
      have := h4 rfl
      subst this
      exact (r16z g _ (good16 hg [] (pz [] .nil) rfl) hg hO hb he nil2.2 nil2.1).run ok16 (.pure _ (.pure _ (.pure _ (.pure _ (.pure _ (.rd _ (c34z_reads _ _ _ _ _ _ _ _) (.pure _ (.pure _ (.pure _ .nil))))))))) rfl
    | e =>
      have := h4 rfl
      subst this
      exact (r16y g _ (good16 hg [] (pz [] .e) rfl) hg hO hb he nil2.2 nil2.1).run ok16 (.pure _ (.pure _ (.pure _ (.pure _ (.pure _ (.rd _ (c34z_reads _ _ _ _ _ _ _ _) (.pure _ (.pure _ (.pure _ .nil))))))))) rfl
    | l =>
      have hk : w.take (K9 w) = w.take 9 := (take9 w).1
      by_cases hG : liG g (w.take 9)
      · have hE : liE g (w.take (K9 w)) = 0 := by rw [hk]; exact if_pos hG
        by_cases hP : liP g (w.take 9)
        · have hl9 : (w.take 9).length = g.length := hG.2.1
          have h6 := hg.1.2
          have hw9 : w.take 9 = w := by
            rw [List.length_take] at hl9
            exact List.take_of_length_le (by omega)
          have hB : liB g (w.take (K9 w)) = true := by rw [hk]; exact liB_t ⟨hG, hP⟩
          rw [hw9] at hG hP
          exact (r16t g w _ (good16 hg w (pz w .no) rfl) hg hO hb he hG.2.1 hG.2.2 hP hE hB).run ok16 (.pure _ (.pure _ (.pure _ (.pure _ (.pure _ (.rd _ (c34o_reads _ _ _ _ _ _ _) (.pure _ (.pure _ (.pure _ .nil))))))))) rfl
        · have hB : liB g (w.take (K9 w)) = false := by rw [hk]; exact liB_f (fun h => hP h.2)
          exact (r16f g w _ (good16 hg w (pz w .no) rfl) hg hO hb he hE hB).run ok16 (.pure _ (.pure _ (.pure _ (.pure _ (.pure _ (.rd _ (c34o_reads _ _ _ _ _ _ _) (.pure _ (.pure _ (.pure _ .nil))))))))) rfl
      · have hE : liE g (w.take (K9 w)) = 2 := by rw [hk]; exact if_neg hG
        have hB : liB g (w.take (K9 w)) = false := by rw [hk]; exact liB_f (fun h => hG h.1)
        exact (r16n g w _ (good16 hg w (pz w .no) rfl) hg hO hb he hE hB).run ok16 (.pure _ (.pure _ (.pure _ (.pure _ (.pure _ (.rd _ (c34o_reads _ _ _ _ _ _ _) (.pure _ (.pure _ (.pure _ .nil))))))))) rfl
  · exact (r16b g q w p hp hg).run ok16 (.pure _ (.pure _ (.pure _ .nil))) rfl
end Go.Proofs.Sur
end
