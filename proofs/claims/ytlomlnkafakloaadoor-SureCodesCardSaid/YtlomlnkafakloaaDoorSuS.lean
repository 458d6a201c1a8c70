/- Layer 5: the reference's codes. -/
import Derived.Test.YtlomlnkafakloaaDoorSuR
import Derived.Test.YtlomlnkafakloaaDoorSuH
import Derived.KernelRfl
set_option linter.unusedSimpArgs false
set_option linter.unusedVariables false
set_option linter.unnecessarySimpa false
set_option maxHeartbeats 4000000
set_option maxRecDepth 100000
namespace Go.Proofs.Sur
open Go Go.VM

/-- a word of a slice is one, greater than the one ahead of it, and far from all ahead of it -/
abbrev cp (g : List Int) (k : Int) (l : List Int) (i : Nat) : Prop := (0 ≤ at_ l i ∧ at_ l i < ((g.length ^ k.toNat : Nat) : Int)) ∧ (0 < i → at_ l (i - 1) < at_ l i) ∧ ∀ j, j < i → nrK g k.toNat (at_ l i).toNat (at_ l j).toNat = false
theorem cp_iff {g : List Int} {k : Int} (h : rdE g k = 0) (l : List Int) : icF (rdW g k) 0#64 (-1) l = true ↔ ∀ i, i < l.length → cp g k l i := by
  have hg := rd_gs h
  have hN := rdW_len h
  have ge : ∀ (i : Nat) (hi : i < l.length), at_ l i = l[i] := fun i hi => by simp [at_, List.getD_eq_getElem?_getD, List.getElem?_eq_getElem hi]
  rw [ic_iff hg.1.1.2]
  constructor
  · rintro ⟨h1, h2⟩ i hi
    rw [List.pairwise_iff_getElem] at h2
    have r := fun (j : Nat) (hj : j < l.length) => h1 l[j] (List.getElem_mem hj)
    rw [cp, ← hN]
    refine ⟨by rw [ge i hi]; exact r i hi, fun h0 => ?_, fun j hj => ?_⟩
    · have := (h2 (i - 1) i (by omega) hi (by omega)).1
      rw [ge i hi, ge (i - 1) (by omega)]; exact this
    · have q := h2 j i (by omega) hi hj
      have a := r i hi
      have b := r j (by omega)
      rw [ge i hi, ge j (by omega), nrK_rd h (by omega) (by omega), hg.2 _ _ (by omega) (by omega)]
      exact q.2
  · intro hc
    have lt : ∀ (d j : Nat), j + d + 1 < l.length → at_ l j < at_ l (j + d + 1) := by
      intro d
      induction d with
      | zero => intro j hj; have := (hc (j + 1) hj).2.1 (by omega); rw [Nat.add_sub_cancel] at this; exact this
      | succ d ih =>
        intro j hj
        have a := ih j (by omega)
        have b := (hc (j + (d + 1) + 1) hj).2.1 (by omega)
        rw [Nat.add_sub_cancel] at b
        exact Int.lt_trans a b
    refine ⟨fun x hx => ?_, ?_⟩
    · obtain ⟨i, hi, rfl⟩ := List.mem_iff_getElem.1 hx
      have := (hc i hi).1
      rw [ge i hi, ← hN] at this; exact this
    · rw [List.pairwise_iff_getElem]
      intro j i hj hi hji
      have a := (hc i hi).1
      have b := (hc j hj).1
      have c := (hc i hi).2.2 j hji
      have d := lt (i - j - 1) j (by omega)
      rw [show j + (i - j - 1) + 1 = i by omega] at d
      rw [← hN] at a b
      rw [nrK_rd h (by omega) (by omega), hg.2 _ _ (by omega) (by omega)] at c
      rw [ge i hi, ge j hj] at c d
      exact ⟨d, c⟩
theorem sl_intsr {P : Program} {t : TypeId} (hu : (elemT P t).bind (sizeT P) = some 1) {l : List Int} {n : Nat} {r : Room} {j : Nat} {h : H} (hj : j < n) (hr : r ≠ .nil) :
    aSlice P t (.sl (ints l) n r) none (some (.int .i64 j)) none h = some (.sl (ints (l.take j)) j .no) := by
  obtain ⟨e, hu, hs, he⟩ := el1_of hu
  have hne : ¬ (j = n) := by omega
  have h1 : (j : Int) ≤ n := by omega
  simp [aSlice, intOf?, aBounds, he, hs, hr, hne, h1, ints, List.map_take]
abbrev q31 (g : List Int) (k : Int) (l : List Int) (i : Nat) : Prop := ∀ j, j < i → nrK g k.toNat (at_ l i).toNat (at_ l j).toNat = false
abbrev o31i (g : List Int) (r : Room) (k : Int) (l : List Int) (q : Room) (i : Nat) : List Out :=
  [.mk Unit .ret [6] (fun _ => ¬ q31 g k l i) (fun _ => [.bool false]) (fun _ => .nil) (fun _ => []), .mk Unit (.exit 2) [0, 1, 2, 11, 12, 13] (fun _ => q31 g k l i) (fun _ => [ls g r, I k, ls l q, ls l q, I l.length, I i]) (fun _ => .nil) (fun _ => [])]
theorem simp31i : allSimpleM none1 (loopAt Tryd.f31 1) = true := by kernel_rfl
theorem take_at {l : List Int} {i j : Nat} (h : j < i) : at_ (l.take i) j = at_ l j := by
  simp [at_, List.getD_eq_getElem?_getD, h]
theorem lp31i (g : List Int) (r : Room) (k : Int) (l : List Int) (q : Room) (hg : Gr g ∧ rok g r) (hk : 0 ≤ k ∧ k ≤ 64) (i : Nat) (hi : i < l.length) (hs : lim l.length) (hb : ∀ j, j ≤ i → 0 ≤ at_ l j ∧ at_ l j < 1000) :
    LoopS (En6 [c30.to, c65.to]) (loopAt Tryd.f31 1) 55 [0, 1, 2, 8, 11, 12, 13, 42, 43, 44] [ls g r, I k, ls l q, I (at_ l i), ls l q, I l.length, I i, .sl (ints (l.take i)) i .no, I i, I 0] .nil (o31i g r k l q i) := by
  have hR : Rests (En6 [c30.to, c65.to]) none1 := rests mixed (.pure _ (.pure _ .nil))
  refine loop_s hR simp31i none (by intro _ h; cases h) (fun j vs h => h = .nil ∧ vs = [ls g r, I k, ls l q, I (at_ l i), ls l q, I l.length, I i, .sl (ints (l.take i)) i .no, I i, I j] ∧ ∀ m, m < j → nrK g k.toNat (at_ l i).toNat (at_ l m).toNat = false) i ⟨rfl, rfl, fun m hm => absurd hm (by omega)⟩ (by intro _ h; cases h) ?_
  rintro j vs h hj ⟨rfl, rfl, ha⟩
  by_cases hz : (j : Int) < i
  · have hz' : j < i := by omega
    have et := take_at (l := l) hz'
    have htl : (l.take i).length = i := by rw [List.length_take]; omega
    have p65 : (Gr g ∧ rok g r) ∧ (0 ≤ k ∧ k ≤ 64) ∧ (0 ≤ at_ l i ∧ at_ l i < 1000) ∧ 0 ≤ at_ (l.take i) j ∧ at_ (l.take i) j < 1000 := ⟨hg, hk, hb i (Nat.le_refl i), by rw [et]; exact hb j (by omega)⟩
    cases c : nrK g k.toNat (at_ l i).toNat (at_ l j).toNat
    · have hk := all_succ (q := fun m => nrK g k.toNat (at_ l i).toNat (at_ l m).toNat = false) ha c
      have c' : nrK g k.toNat (at_ l i).toNat (at_ (l.take i) j).toNat = false := by rw [et]; exact c
      refine ⟨[Ans.o (Orc.b true), Ans.o (Orc.val (46 : Nat) (AV.cptr (ints (List.drop j (List.take i l)))) H.nil), Ans.o (Orc.val (47 : Nat) (I ((List.take i l).getD j i0)) H.nil), Ans.o (Orc.val (52 : Nat) (AV.bool false) (H.mk [] [] []))], fun u => of_eq ((↑j : Int) < (↑i : Int) ∧ aIndexAddr Tryd.prog (22 : Nat) (AV.sl (ints (List.take i l)) i Room.no) (I (↑j : Int)) = some (AV.cptr (ints (List.drop j (List.take i l)))) ∧ aLoad Tryd.prog (3 : Nat) (ints (List.drop j (List.take i l))) = some (I ((List.take i l).getD j i0)) ∧ aCall (Sof [c30.to, c65.to]) (AV.fn (Fn.func (65 : Nat)) [] []) [AV.sl (ints g) g.length r, I k, I (at_ l i), I ((List.take i l).getD j i0)] (H.mk [] [] []) = some (AV.bool false, H.mk [] [] []) ∧ IntKind.i64.wrap ((↑j : Int) + (1 : Int)) = (↑j : Int) + (1 : Int) ∧ (55 : Nat) = (55 : Nat) ∧ j < i ∧ Keep (H.mk [] [] [] = H.mk [] [] [] ∧ [AV.sl (ints g) g.length r, I k, AV.sl (ints l) l.length q, I (at_ l i), AV.sl (ints l) l.length q, I (↑l.length : Int), I (↑i : Int), AV.sl (ints (List.take i l)) i Room.no, I (↑i : Int), I ((↑j : Int) + (1 : Int))] = [AV.sl (ints g) g.length r, I k, AV.sl (ints l) l.length q, I (at_ l i), AV.sl (ints l) l.length q, I (↑l.length : Int), I (↑i : Int), AV.sl (ints (List.take i l)) i Room.no, I (↑i : Int), I (↑(j + (1 : Nat)) : Int)] ∧ ∀ (m : Nat), m < j + (1 : Nat) → nrK g k.toNat (at_ l i).toNat (at_ l m).toNat = false)) (by kernel_rfl) ?_⟩
      refine And.intro (by first | with_reducible assumption | omega | assumption) ?_
      refine And.intro (by exact ix_ints (by kernel_rfl) hz' no_ne) ?_
      refine And.intro (by exact ld_ints (by kernel_rfl) (by kernel_rfl) (by omega)) ?_
      refine And.intro (by exact acall_b (acall_hit (c := c65.to) (g, r, k, at_ l i, at_ (l.take i) j) _ rfl p65) c') ?_
      refine And.intro (by exact wr _ (by omega) (by omega)) ?_
      refine And.intro (by first | with_reducible assumption | omega | assumption) ?_
      refine And.intro (by first | with_reducible assumption | omega | assumption) ?_
      exact ⟨rfl, rfl, hk⟩
    · have hn : ¬ q31 g k l i := fun h => by have := h j hz'; rw [c] at this; cases this
      have c' : nrK g k.toNat (at_ l i).toNat (at_ (l.take i) j).toNat = true := by rw [et]; exact c
      refine ⟨[Ans.o (Orc.b true), Ans.o (Orc.val (46 : Nat) (AV.cptr (ints (List.drop j (List.take i l)))) H.nil), Ans.o (Orc.val (47 : Nat) (I ((List.take i l).getD j i0)) H.nil), Ans.o (Orc.val (52 : Nat) (AV.bool true) (H.mk [] [] []))], fun u => of_eq ((↑j : Int) < (↑i : Int) ∧ aIndexAddr Tryd.prog (22 : Nat) (AV.sl (ints (List.take i l)) i Room.no) (I (↑j : Int)) = some (AV.cptr (ints (List.drop j (List.take i l)))) ∧ aLoad Tryd.prog (3 : Nat) (ints (List.drop j (List.take i l))) = some (I ((List.take i l).getD j i0)) ∧ aCall (Sof [c30.to, c65.to]) (AV.fn (Fn.func (65 : Nat)) [] []) [AV.sl (ints g) g.length r, I k, I (at_ l i), I ((List.take i l).getD j i0)] (H.mk [] [] []) = some (AV.bool true, H.mk [] [] []) ∧ (55 : Nat) = (55 : Nat) ∧ hits [Out.mk Unit AX.ret [(6 : Nat)] (fun x => ¬q31 g k l i) (fun x => [AV.bool false]) (fun x => H.nil) fun x => [], Out.mk Unit (AX.exit (2 : Nat)) [(0 : Nat), (1 : Nat), (2 : Nat), (11 : Nat), (12 : Nat), (13 : Nat)] (fun x => q31 g k l i) (fun x => [ls g r, I k, ls l q, ls l q, I (↑l.length : Int), I (↑i : Int)]) (fun x => H.nil) fun x => []] AX.ret [AV.sl (ints g) g.length r, I k, AV.sl (ints l) l.length q, u (3 : Nat), u (4 : Nat), u (5 : Nat), AV.bool false, u (7 : Nat), I (at_ l i), u (9 : Nat), I ((List.take i l).getD j i0), AV.sl (ints l) l.length q, I (↑l.length : Int), I (↑i : Int), u (14 : Nat), u (15 : Nat), u (16 : Nat), u (17 : Nat), u (18 : Nat), u (19 : Nat), u (20 : Nat), u (21 : Nat), u (22 : Nat), u (23 : Nat), u (24 : Nat), u (25 : Nat), u (26 : Nat), u (27 : Nat), u (28 : Nat), u (29 : Nat), u (30 : Nat), u (31 : Nat), u (32 : Nat), u (33 : Nat), u (34 : Nat), u (35 : Nat), u (36 : Nat), u (37 : Nat), u (38 : Nat), u (39 : Nat), u (40 : Nat), u (41 : Nat), AV.sl (ints (List.take i l)) i Room.no, I (↑i : Int), I (↑j : Int), AV.bool true, AV.cptr (ints (List.drop j (List.take i l))), I ((List.take i l).getD j i0), AV.sl (ints g) g.length r, I k, I (at_ l i), I ((List.take i l).getD j i0), AV.bool true, u (53 : Nat), u (54 : Nat)] (H.mk [] [] [])) (by kernel_rfl) ?_⟩
      refine And.intro (by first | with_reducible assumption | omega | assumption) ?_
      refine And.intro (by exact ix_ints (by kernel_rfl) hz' no_ne) ?_
      refine And.intro (by exact ld_ints (by kernel_rfl) (by kernel_rfl) (by omega)) ?_
      refine And.intro (by exact acall_b (acall_hit (c := c65.to) (g, r, k, at_ l i, at_ (l.take i) j) _ rfl p65) c') ?_
      refine And.intro (by first | with_reducible assumption | omega | assumption) ?_
      exact .inl ⟨(), hn, rfl, rfl, rfl⟩
  · have hz : (i : Int) ≤ j := by omega
    have hj' : j = i := by omega
    subst hj'
    refine ⟨[Ans.o (Orc.b false)], fun u => of_eq ((↑j : Int) ≤ (↑j : Int) ∧ (55 : Nat) = (55 : Nat) ∧ hits [Out.mk Unit AX.ret [(6 : Nat)] (fun x => ¬q31 g k l j) (fun x => [AV.bool false]) (fun x => H.nil) fun x => [], Out.mk Unit (AX.exit (2 : Nat)) [(0 : Nat), (1 : Nat), (2 : Nat), (11 : Nat), (12 : Nat), (13 : Nat)] (fun x => q31 g k l j) (fun x => [ls g r, I k, ls l q, ls l q, I (↑l.length : Int), I (↑j : Int)]) (fun x => H.nil) fun x => []] (AX.exit (2 : Nat)) [AV.sl (ints g) g.length r, I k, AV.sl (ints l) l.length q, u (3 : Nat), u (4 : Nat), u (5 : Nat), u (6 : Nat), u (7 : Nat), I (at_ l j), u (9 : Nat), u (10 : Nat), AV.sl (ints l) l.length q, I (↑l.length : Int), I (↑j : Int), u (14 : Nat), u (15 : Nat), u (16 : Nat), u (17 : Nat), u (18 : Nat), u (19 : Nat), u (20 : Nat), u (21 : Nat), u (22 : Nat), u (23 : Nat), u (24 : Nat), u (25 : Nat), u (26 : Nat), u (27 : Nat), u (28 : Nat), u (29 : Nat), u (30 : Nat), u (31 : Nat), u (32 : Nat), u (33 : Nat), u (34 : Nat), u (35 : Nat), u (36 : Nat), u (37 : Nat), u (38 : Nat), u (39 : Nat), u (40 : Nat), u (41 : Nat), AV.sl (ints (List.take j l)) j Room.no, I (↑j : Int), I (↑j : Int), AV.bool false, u (46 : Nat), u (47 : Nat), u (48 : Nat), u (49 : Nat), u (50 : Nat), u (51 : Nat), u (52 : Nat), u (53 : Nat), u (54 : Nat)] (H.mk [] [] [])) (by kernel_rfl) ?_⟩
    refine And.intro (by first | with_reducible assumption | omega | assumption) ?_
    refine And.intro (by first | with_reducible assumption | omega | assumption) ?_
    exact .inr (.inl ⟨(), ha, rfl, rfl, rfl⟩)
abbrev o31 (g : List Int) (k : Int) (l : List Int) : List Out :=
  [.mk Unit .ret [6] (fun _ => ¬ ∀ i, i < l.length → cp g k l i) (fun _ => [.bool false]) (fun _ => .nil) (fun _ => []), .mk Unit (.exit 0) [] (fun _ => ∀ i, i < l.length → cp g k l i) (fun _ => []) (fun _ => .nil) (fun _ => [])]
theorem simp31 : allSimpleM none1 (loopAt Tryd.f31 0) = true := by kernel_rfl
theorem lp31 (g : List Int) (r : Room) (k : Int) (l : List Int) (q : Room) (hg : Gr g ∧ rok g r) (hk : 0 ≤ k ∧ k ≤ 3) (hN : g.length ^ k.toNat ≤ 64) (hl : lim l.length) (hq : rok l q) :
    LoopS (En6 [c30.to, c65.to]) (loopAt Tryd.f31 0) 55 [0, 1, 2, 11, 12, 13] [ls g r, I k, ls l q, ls l q, I l.length, I 0] .nil (o31 g k l) := by
  have hR : Rests (En6 [c30.to, c65.to]) none1 := rests mixed (.pure _ (.pure _ .nil))
  have p30 : g.length ≤ 6 ∧ 0 ≤ k ∧ k ≤ 3 := ⟨hg.1.1.2, hk⟩
  refine loop_s hR simp31 none (by intro _ h; cases h) (fun j vs h => h = .nil ∧ vs = [ls g r, I k, ls l q, ls l q, I l.length, I j] ∧ ∀ m, m < j → cp g k l m) l.length ⟨rfl, rfl, fun m hm => absurd hm (by omega)⟩ (by intro _ h; cases h) ?_
  rintro j vs h hj ⟨rfl, rfl, ha⟩
  by_cases hz : (j : Int) < l.length
  · have hz' : j < l.length := by omega
    have hr := rok_idx hq hz'
    by_cases c1 : at_ l j < 0
    · have hn : ¬ ∀ i, i < l.length → cp g k l i := fun h => by have := (h j hz').1.1; omega
      refine ⟨[Ans.o (Orc.b true), Ans.o (Orc.val (16 : Nat) (AV.cptr (ints (List.drop j l))) (H.mk [] [] [])), Ans.o (Orc.val (17 : Nat) (I (l.getD j i0)) (H.mk [] [] [])), Ans.o (Orc.b true)], fun u => of_eq ((↑j : Int) < (↑l.length : Int) ∧ aIndexAddr Tryd.prog (22 : Nat) (AV.sl (ints l) l.length q) (I (↑j : Int)) = some (AV.cptr (ints (List.drop j l))) ∧ aLoad Tryd.prog (3 : Nat) (ints (List.drop j l)) = some (I (l.getD j i0)) ∧ l.getD j i0 < (0 : Int) ∧ (55 : Nat) = (55 : Nat) ∧ hits [Out.mk Unit AX.ret [(6 : Nat)] (fun x => ¬∀ (i : Nat), i < l.length → cp g k l i) (fun x => [AV.bool false]) (fun x => H.nil) fun x => [], Out.mk Unit (AX.exit (0 : Nat)) [] (fun x => ∀ (i : Nat), i < l.length → cp g k l i) (fun x => []) (fun x => H.nil) fun x => []] AX.ret [AV.sl (ints g) g.length r, I k, AV.sl (ints l) l.length q, u (3 : Nat), u (4 : Nat), u (5 : Nat), AV.bool false, I (↑j : Int), I (l.getD j i0), u (9 : Nat), u (10 : Nat), AV.sl (ints l) l.length q, I (↑l.length : Int), I (↑j : Int), AV.bool true, I (↑j : Int), AV.cptr (ints (List.drop j l)), I (l.getD j i0), I (l.getD j i0), AV.bool true, AV.bool true, AV.tup [], AV.tup [], AV.tup [], AV.tup [], AV.tup [], AV.bool true, AV.bool true, AV.tup [], AV.tup [], AV.tup [], AV.tup [], AV.tup [], AV.tup [], AV.tup [], AV.tup [], AV.tup [], AV.tup [], AV.tup [], AV.bool true, u (40 : Nat), u (41 : Nat), u (42 : Nat), u (43 : Nat), u (44 : Nat), u (45 : Nat), u (46 : Nat), u (47 : Nat), u (48 : Nat), u (49 : Nat), u (50 : Nat), u (51 : Nat), u (52 : Nat), u (53 : Nat), u (54 : Nat)] (H.mk [] [] [])) (by kernel_rfl) ?_⟩
      refine And.intro (by first | with_reducible assumption | omega | assumption) ?_
      refine And.intro (by first | exact ix_ints (by kernel_rfl) (by omega) (by assumption) | exact ix_ints (by kernel_rfl) (by omega) (rok_idx (by assumption) (by omega))) ?_
      refine And.intro (by first | exact ld_ints (by kernel_rfl) (by kernel_rfl) (by omega) | exact ldm_ints (by kernel_rfl) (by kernel_rfl) (by first | omega | (simp; omega))) ?_
      refine And.intro (by first | with_reducible assumption | omega | assumption) ?_
      refine And.intro (by first | with_reducible assumption | omega | assumption) ?_
      exact .inl ⟨(), hn, rfl, rfl, rfl⟩
    · have c1 : 0 ≤ at_ l j := by omega
      by_cases c2 : ((g.length ^ k.toNat : Nat) : Int) ≤ at_ l j
      · have hn : ¬ ∀ i, i < l.length → cp g k l i := fun h => by have := (h j hz').1.2; omega
        refine ⟨[Ans.o (Orc.b true), Ans.o (Orc.val (16 : Nat) (AV.cptr (ints (List.drop j l))) (H.mk [] [] [])), Ans.o (Orc.val (17 : Nat) (I (l.getD j i0)) (H.mk [] [] [])), Ans.o (Orc.b false), Ans.o (Orc.val (24 : Nat) (I (↑(g.length ^ k.toNat) : Int)) (H.mk [] [] [])), Ans.o (Orc.b true)], fun u => of_eq ((↑j : Int) < (↑l.length : Int) ∧ aIndexAddr Tryd.prog (22 : Nat) (AV.sl (ints l) l.length q) (I (↑j : Int)) = some (AV.cptr (ints (List.drop j l))) ∧ aLoad Tryd.prog (3 : Nat) (ints (List.drop j l)) = some (I (l.getD j i0)) ∧ (0 : Int) ≤ l.getD j i0 ∧ aCall (Sof [c30.to, c65.to]) (AV.fn (Fn.func (30 : Nat)) [] []) [AV.sl (ints g) g.length r, I k] (H.mk [] [] []) = some (I (↑(g.length ^ k.toNat) : Int), H.mk [] [] []) ∧ (↑(g.length ^ k.toNat) : Int) ≤ l.getD j i0 ∧ (55 : Nat) = (55 : Nat) ∧ hits [Out.mk Unit AX.ret [(6 : Nat)] (fun x => ¬∀ (i : Nat), i < l.length → cp g k l i) (fun x => [AV.bool false]) (fun x => H.nil) fun x => [], Out.mk Unit (AX.exit (0 : Nat)) [] (fun x => ∀ (i : Nat), i < l.length → cp g k l i) (fun x => []) (fun x => H.nil) fun x => []] AX.ret [AV.sl (ints g) g.length r, I k, AV.sl (ints l) l.length q, u (3 : Nat), u (4 : Nat), u (5 : Nat), AV.bool false, I (↑j : Int), I (l.getD j i0), u (9 : Nat), u (10 : Nat), AV.sl (ints l) l.length q, I (↑l.length : Int), I (↑j : Int), AV.bool true, I (↑j : Int), AV.cptr (ints (List.drop j l)), I (l.getD j i0), I (l.getD j i0), AV.bool false, AV.bool false, I (l.getD j i0), AV.sl (ints g) g.length r, I k, I (↑(g.length ^ k.toNat) : Int), AV.bool true, AV.bool true, AV.bool true, AV.tup [], AV.tup [], AV.tup [], AV.tup [], AV.tup [], AV.tup [], AV.tup [], AV.tup [], AV.tup [], AV.tup [], AV.tup [], AV.bool true, u (40 : Nat), u (41 : Nat), u (42 : Nat), u (43 : Nat), u (44 : Nat), u (45 : Nat), u (46 : Nat), u (47 : Nat), u (48 : Nat), u (49 : Nat), u (50 : Nat), u (51 : Nat), u (52 : Nat), u (53 : Nat), u (54 : Nat)] (H.mk [] [] [])) (by kernel_rfl) ?_⟩
        refine And.intro (by first | with_reducible assumption | omega | assumption) ?_
        refine And.intro (by first | exact ix_ints (by kernel_rfl) (by omega) (by assumption) | exact ix_ints (by kernel_rfl) (by omega) (rok_idx (by assumption) (by omega))) ?_
        refine And.intro (by first | exact ld_ints (by kernel_rfl) (by kernel_rfl) (by omega) | exact ldm_ints (by kernel_rfl) (by kernel_rfl) (by first | omega | (simp; omega))) ?_
        refine And.intro (by first | with_reducible assumption | omega | assumption) ?_
        refine And.intro (by exact acall_hit (c := c30.to) (g, r, k) _ rfl p30) ?_
        refine And.intro (by first | with_reducible assumption | omega | assumption) ?_
        refine And.intro (by first | with_reducible assumption | omega | assumption) ?_
        exact .inl ⟨(), hn, rfl, rfl, rfl⟩
      · have c2 : at_ l j < ((g.length ^ k.toNat : Nat) : Int) := by omega
        have hb : ∀ m, m ≤ j → 0 ≤ at_ l m ∧ at_ l m < 1000 := fun m hm => by
          rcases Nat.lt_or_ge m j with h | h
          · have := (ha m h).1; omega
          · have : m = j := by omega
            subst this; omega
        have lpi := lp31i g r k l q hg ⟨by omega, by omega⟩ j hz' hl hb
        by_cases h0 : (0 : Int) < j
        · have ev0 : IntKind.i64.wrap ((j : Int) - 1) = ((j - 1 : Nat) : Int) := by
            have : (j : Int) - 1 = ((j - 1 : Nat) : Int) := by omega
            rw [this]; exact i_wrap (by omega)
          by_cases c3 : at_ l j ≤ at_ l (j - 1)
          · have hn : ¬ ∀ i, i < l.length → cp g k l i := fun h => by have := (h j hz').2.1 (by omega); omega
            refine ⟨[Ans.o (Orc.b true), Ans.o (Orc.val (16 : Nat) (AV.cptr (ints (List.drop j l))) (H.mk [] [] [])), Ans.o (Orc.val (17 : Nat) (I (l.getD j i0)) (H.mk [] [] [])), Ans.o (Orc.b false), Ans.o (Orc.val (24 : Nat) (I (↑(g.length ^ k.toNat) : Int)) (H.mk [] [] [])), Ans.o (Orc.b false), Ans.o (Orc.b true), Ans.o (Orc.val (33 : Nat) (I (↑(j - (1 : Nat)) : Int)) (H.mk [] [] [])), Ans.o (Orc.val (34 : Nat) (AV.cptr (ints (List.drop (j - (1 : Nat)) l))) (H.mk [] [] [])), Ans.o (Orc.val (35 : Nat) (I (l.getD (j - (1 : Nat)) i0)) (H.mk [] [] [])), Ans.o (Orc.b true)], fun u => of_eq ((↑j : Int) < (↑l.length : Int) ∧ aIndexAddr Tryd.prog (22 : Nat) (AV.sl (ints l) l.length q) (I (↑j : Int)) = some (AV.cptr (ints (List.drop j l))) ∧ aLoad Tryd.prog (3 : Nat) (ints (List.drop j l)) = some (I (l.getD j i0)) ∧ (0 : Int) ≤ l.getD j i0 ∧ aCall (Sof [c30.to, c65.to]) (AV.fn (Fn.func (30 : Nat)) [] []) [AV.sl (ints g) g.length r, I k] (H.mk [] [] []) = some (I (↑(g.length ^ k.toNat) : Int), H.mk [] [] []) ∧ l.getD j i0 < (↑(g.length ^ k.toNat) : Int) ∧ (0 : Int) < (↑j : Int) ∧ aBin Tryd.prog BinOp.sub (3 : Nat) (I (↑j : Int)) (I (1 : Int)) = some (I (↑(j - (1 : Nat)) : Int)) ∧ aIndexAddr Tryd.prog (22 : Nat) (AV.sl (ints l) l.length q) (I (↑(j - (1 : Nat)) : Int)) = some (AV.cptr (ints (List.drop (j - (1 : Nat)) l))) ∧ aLoad Tryd.prog (3 : Nat) (ints (List.drop (j - (1 : Nat)) l)) = some (I (l.getD (j - (1 : Nat)) i0)) ∧ l.getD j i0 ≤ l.getD (j - (1 : Nat)) i0 ∧ (55 : Nat) = (55 : Nat) ∧ hits [Out.mk Unit AX.ret [(6 : Nat)] (fun x => ¬∀ (i : Nat), i < l.length → cp g k l i) (fun x => [AV.bool false]) (fun x => H.nil) fun x => [], Out.mk Unit (AX.exit (0 : Nat)) [] (fun x => ∀ (i : Nat), i < l.length → cp g k l i) (fun x => []) (fun x => H.nil) fun x => []] AX.ret [AV.sl (ints g) g.length r, I k, AV.sl (ints l) l.length q, u (3 : Nat), u (4 : Nat), u (5 : Nat), AV.bool false, I (↑j : Int), I (l.getD j i0), u (9 : Nat), u (10 : Nat), AV.sl (ints l) l.length q, I (↑l.length : Int), I (↑j : Int), AV.bool true, I (↑j : Int), AV.cptr (ints (List.drop j l)), I (l.getD j i0), I (l.getD j i0), AV.bool false, AV.bool false, I (l.getD j i0), AV.sl (ints g) g.length r, I k, I (↑(g.length ^ k.toNat) : Int), AV.bool false, AV.bool false, AV.bool false, I (↑j : Int), AV.bool true, AV.bool true, AV.sl (ints l) l.length q, I (↑j : Int), I (↑(j - (1 : Nat)) : Int), AV.cptr (ints (List.drop (j - (1 : Nat)) l)), I (l.getD (j - (1 : Nat)) i0), I (l.getD j i0), AV.bool true, AV.bool true, AV.bool true, u (40 : Nat), u (41 : Nat), u (42 : Nat), u (43 : Nat), u (44 : Nat), u (45 : Nat), u (46 : Nat), u (47 : Nat), u (48 : Nat), u (49 : Nat), u (50 : Nat), u (51 : Nat), u (52 : Nat), u (53 : Nat), u (54 : Nat)] (H.mk [] [] [])) (by kernel_rfl) ?_⟩
            refine And.intro (by first | with_reducible assumption | omega | assumption) ?_
            refine And.intro (by first | exact ix_ints (by kernel_rfl) (by omega) (by assumption) | exact ix_ints (by kernel_rfl) (by omega) (rok_idx (by assumption) (by omega))) ?_
            refine And.intro (by first | exact ld_ints (by kernel_rfl) (by kernel_rfl) (by omega) | exact ldm_ints (by kernel_rfl) (by kernel_rfl) (by first | omega | (simp; omega))) ?_
            refine And.intro (by first | with_reducible assumption | omega | assumption) ?_
            refine And.intro (by exact acall_hit (c := c30.to) (g, r, k) _ rfl p30) ?_
            refine And.intro (by first | with_reducible assumption | omega | assumption) ?_
            refine And.intro (by first | with_reducible assumption | omega | assumption) ?_
            refine And.intro (by exact told_sub (by with_reducible assumption)) ?_
            refine And.intro (by first | exact ix_ints (by kernel_rfl) (by omega) (by assumption) | exact ix_ints (by kernel_rfl) (by omega) (rok_idx (by assumption) (by omega))) ?_
            refine And.intro (by first | exact ld_ints (by kernel_rfl) (by kernel_rfl) (by omega) | exact ldm_ints (by kernel_rfl) (by kernel_rfl) (by first | omega | (simp; omega))) ?_
            refine And.intro (by first | with_reducible assumption | omega | assumption) ?_
            refine And.intro (by first | with_reducible assumption | omega | assumption) ?_
            exact .inl ⟨(), hn, rfl, rfl, rfl⟩
          · have c3 : at_ l (j - 1) < at_ l j := by omega
            refine ⟨[Ans.o (Orc.b true), Ans.o (Orc.val (16 : Nat) (AV.cptr (ints (List.drop j l))) (H.mk [] [] [])), Ans.o (Orc.val (17 : Nat) (I (l.getD j i0)) (H.mk [] [] [])), Ans.o (Orc.b false), Ans.o (Orc.val (24 : Nat) (I (↑(g.length ^ k.toNat) : Int)) (H.mk [] [] [])), Ans.o (Orc.b false), Ans.o (Orc.b true), Ans.o (Orc.val (33 : Nat) (I (↑(j - (1 : Nat)) : Int)) (H.mk [] [] [])), Ans.o (Orc.val (34 : Nat) (AV.cptr (ints (List.drop (j - (1 : Nat)) l))) (H.mk [] [] [])), Ans.o (Orc.val (35 : Nat) (I (l.getD (j - (1 : Nat)) i0)) (H.mk [] [] [])), Ans.o (Orc.b false), Ans.o (Orc.val (42 : Nat) (AV.sl (ints (List.take j l)) j Room.no) (H.mk [] [] [])), Ans.loop [(0 : Nat), (1 : Nat), (2 : Nat), (8 : Nat), (11 : Nat), (12 : Nat), (13 : Nat), (42 : Nat), (43 : Nat), (44 : Nat)] [Out.mk Unit AX.ret [(6 : Nat)] (fun x => ¬q31 g k l j) (fun x => [AV.bool false]) (fun x => H.nil) fun y => [], Out.mk Unit (AX.exit (2 : Nat)) [(0 : Nat), (1 : Nat), (2 : Nat), (11 : Nat), (12 : Nat), (13 : Nat)] (fun x => q31 g k l j) (fun x => [ls g r, I k, ls l q, ls l q, I (↑l.length : Int), I (↑j : Int)]) (fun x => H.nil) fun y => []]], fun u => of_eq ((↑j : Int) < (↑l.length : Int) ∧ aIndexAddr Tryd.prog (22 : Nat) (AV.sl (ints l) l.length q) (I (↑j : Int)) = some (AV.cptr (ints (List.drop j l))) ∧ aLoad Tryd.prog (3 : Nat) (ints (List.drop j l)) = some (I (l.getD j i0)) ∧ (0 : Int) ≤ l.getD j i0 ∧ aCall (Sof [c30.to, c65.to]) (AV.fn (Fn.func (30 : Nat)) [] []) [AV.sl (ints g) g.length r, I k] (H.mk [] [] []) = some (I (↑(g.length ^ k.toNat) : Int), H.mk [] [] []) ∧ l.getD j i0 < (↑(g.length ^ k.toNat) : Int) ∧ (0 : Int) < (↑j : Int) ∧ aBin Tryd.prog BinOp.sub (3 : Nat) (I (↑j : Int)) (I (1 : Int)) = some (I (↑(j - (1 : Nat)) : Int)) ∧ aIndexAddr Tryd.prog (22 : Nat) (AV.sl (ints l) l.length q) (I (↑(j - (1 : Nat)) : Int)) = some (AV.cptr (ints (List.drop (j - (1 : Nat)) l))) ∧ aLoad Tryd.prog (3 : Nat) (ints (List.drop (j - (1 : Nat)) l)) = some (I (l.getD (j - (1 : Nat)) i0)) ∧ l.getD (j - (1 : Nat)) i0 < l.getD j i0 ∧ aSlice Tryd.prog (22 : Nat) (AV.sl (ints l) l.length q) none (some (I (↑j : Int))) none (H.mk [] [] []) = some (AV.sl (ints (List.take j l)) j Room.no) ∧ LoopS (Env.mk Tryd.prog (Sof [c30.to, c65.to]) (Pof (P := Tryd.prog) []) H.nil.base (300 : Nat)) (loopAt Tryd.f31 (1 : Nat)) (55 : Nat) [(0 : Nat), (1 : Nat), (2 : Nat), (8 : Nat), (11 : Nat), (12 : Nat), (13 : Nat), (42 : Nat), (43 : Nat), (44 : Nat)] [AV.sl (ints g) g.length r, I k, AV.sl (ints l) l.length q, I (l.getD j i0), AV.sl (ints l) l.length q, I (↑l.length : Int), I (↑j : Int), AV.sl (ints (List.take j l)) j Room.no, I (↑j : Int), I (0 : Int)] (H.mk [] [] []) [Out.mk Unit AX.ret [(6 : Nat)] (fun x => ¬q31 g k l j) (fun x => [AV.bool false]) (fun x => H.nil) fun y => [], Out.mk Unit (AX.exit (2 : Nat)) [(0 : Nat), (1 : Nat), (2 : Nat), (11 : Nat), (12 : Nat), (13 : Nat)] (fun x => q31 g k l j) (fun x => [ls g r, I k, ls l q, ls l q, I (↑l.length : Int), I (↑j : Int)]) (fun x => H.nil) fun y => []] ∧ (∀ (y : Unit), ¬q31 g k l j → ∀ (u : Nat → AV), (55 : Nat) = (55 : Nat) ∧ hits [Out.mk Unit AX.ret [(6 : Nat)] (fun x => ¬∀ (i : Nat), i < l.length → cp g k l i) (fun x => [AV.bool false]) (fun x => H.nil) fun x => [], Out.mk Unit (AX.exit (0 : Nat)) [] (fun x => ∀ (i : Nat), i < l.length → cp g k l i) (fun x => []) (fun x => H.nil) fun x => []] AX.ret [u (0 : Nat), u (1 : Nat), u (2 : Nat), u (3 : Nat), u (4 : Nat), u (5 : Nat), AV.bool false, u (7 : Nat), u (8 : Nat), u (9 : Nat), u (10 : Nat), u (11 : Nat), u (12 : Nat), u (13 : Nat), u (14 : Nat), u (15 : Nat), u (16 : Nat), u (17 : Nat), u (18 : Nat), u (19 : Nat), u (20 : Nat), u (21 : Nat), u (22 : Nat), u (23 : Nat), u (24 : Nat), u (25 : Nat), u (26 : Nat), u (27 : Nat), u (28 : Nat), u (29 : Nat), u (30 : Nat), u (31 : Nat), u (32 : Nat), u (33 : Nat), u (34 : Nat), u (35 : Nat), u (36 : Nat), u (37 : Nat), u (38 : Nat), u (39 : Nat), u (40 : Nat), u (41 : Nat), u (42 : Nat), u (43 : Nat), u (44 : Nat), u (45 : Nat), u (46 : Nat), u (47 : Nat), u (48 : Nat), u (49 : Nat), u (50 : Nat), u (51 : Nat), u (52 : Nat), u (53 : Nat), u (54 : Nat)] (H.mk [] [] [])) ∧ (∀ (y : Unit), (∀ (j_1 : Nat), j_1 < j → nrK g k.toNat (at_ l j).toNat (at_ l j_1).toNat = false) → ∀ (u : Nat → AV), IntKind.i64.wrap ((↑j : Int) + (1 : Int)) = (↑j : Int) + (1 : Int) ∧ (55 : Nat) = (55 : Nat) ∧ j < l.length ∧ Keep (H.mk [] [] [] = H.mk [] [] [] ∧ [AV.sl (ints g) g.length r, I k, AV.sl (ints l) l.length q, AV.sl (ints l) l.length q, I (↑l.length : Int), I ((↑j : Int) + (1 : Int))] = [AV.sl (ints g) g.length r, I k, AV.sl (ints l) l.length q, AV.sl (ints l) l.length q, I (↑l.length : Int), I (↑(j + (1 : Nat)) : Int)] ∧ ∀ (m : Nat), m < j + (1 : Nat) → cp g k l m)) ∧ True) (by kernel_rfl) ?_⟩
            refine And.intro (by first | with_reducible assumption | omega | assumption) ?_
            refine And.intro (by first | exact ix_ints (by kernel_rfl) (by omega) (by assumption) | exact ix_ints (by kernel_rfl) (by omega) (rok_idx (by assumption) (by omega))) ?_
            refine And.intro (by first | exact ld_ints (by kernel_rfl) (by kernel_rfl) (by omega) | exact ldm_ints (by kernel_rfl) (by kernel_rfl) (by first | omega | (simp; omega))) ?_
            refine And.intro (by first | with_reducible assumption | omega | assumption) ?_
            refine And.intro (by exact acall_hit (c := c30.to) (g, r, k) _ rfl p30) ?_
            refine And.intro (by first | with_reducible assumption | omega | assumption) ?_
            refine And.intro (by first | with_reducible assumption | omega | assumption) ?_
            refine And.intro (by exact told_sub (by with_reducible assumption)) ?_
            refine And.intro (by first | exact ix_ints (by kernel_rfl) (by omega) (by assumption) | exact ix_ints (by kernel_rfl) (by omega) (rok_idx (by assumption) (by omega))) ?_
            refine And.intro (by first | exact ld_ints (by kernel_rfl) (by kernel_rfl) (by omega) | exact ldm_ints (by kernel_rfl) (by kernel_rfl) (by first | omega | (simp; omega))) ?_
            refine And.intro (by first | with_reducible assumption | omega | assumption) ?_
            refine And.intro (by exact sl_intsr (by kernel_rfl) hz' hr) ?_
            refine And.intro (by exact lpi) ?_
            refine And.intro ?_ ?_
            · skip
              intro y
              intro w1
              intro u
              refine And.intro (by first | with_reducible assumption | omega | assumption) ?_
              exact .inl ⟨(), fun h => (by with_reducible assumption : ¬ q31 g k l j) (h j hz').2.2, rfl, rfl, rfl⟩
            · skip
              refine And.intro ?_ ?_
              · skip
                intro y
                intro w1
                intro u
                refine And.intro (by exact wr _ (by omega) (by omega)) ?_
                refine And.intro (by first | with_reducible assumption | omega | assumption) ?_
                refine And.intro (by first | with_reducible assumption | omega | assumption) ?_
                exact ⟨rfl, rfl, all_succ (q := cp g k l) ha ⟨⟨c1, c2⟩, fun _ => c3, by with_reducible assumption⟩⟩
              · skip
                trivial
        · have h0 : (j : Int) ≤ 0 := by omega
          refine ⟨[Ans.o (Orc.b true), Ans.o (Orc.val (16 : Nat) (AV.cptr (ints (List.drop j l))) (H.mk [] [] [])), Ans.o (Orc.val (17 : Nat) (I (l.getD j i0)) (H.mk [] [] [])), Ans.o (Orc.b false), Ans.o (Orc.val (24 : Nat) (I (↑(g.length ^ k.toNat) : Int)) (H.mk [] [] [])), Ans.o (Orc.b false), Ans.o (Orc.b false), Ans.o (Orc.val (42 : Nat) (AV.sl (ints (List.take j l)) j Room.no) (H.mk [] [] [])), Ans.loop [(0 : Nat), (1 : Nat), (2 : Nat), (8 : Nat), (11 : Nat), (12 : Nat), (13 : Nat), (42 : Nat), (43 : Nat), (44 : Nat)] [Out.mk Unit AX.ret [(6 : Nat)] (fun x => ¬q31 g k l j) (fun x => [AV.bool false]) (fun x => H.nil) fun y => [], Out.mk Unit (AX.exit (2 : Nat)) [(0 : Nat), (1 : Nat), (2 : Nat), (11 : Nat), (12 : Nat), (13 : Nat)] (fun x => q31 g k l j) (fun x => [ls g r, I k, ls l q, ls l q, I (↑l.length : Int), I (↑j : Int)]) (fun x => H.nil) fun y => []]], fun u => of_eq ((↑j : Int) < (↑l.length : Int) ∧ aIndexAddr Tryd.prog (22 : Nat) (AV.sl (ints l) l.length q) (I (↑j : Int)) = some (AV.cptr (ints (List.drop j l))) ∧ aLoad Tryd.prog (3 : Nat) (ints (List.drop j l)) = some (I (l.getD j i0)) ∧ (0 : Int) ≤ l.getD j i0 ∧ aCall (Sof [c30.to, c65.to]) (AV.fn (Fn.func (30 : Nat)) [] []) [AV.sl (ints g) g.length r, I k] (H.mk [] [] []) = some (I (↑(g.length ^ k.toNat) : Int), H.mk [] [] []) ∧ l.getD j i0 < (↑(g.length ^ k.toNat) : Int) ∧ (↑j : Int) ≤ (0 : Int) ∧ aSlice Tryd.prog (22 : Nat) (AV.sl (ints l) l.length q) none (some (I (↑j : Int))) none (H.mk [] [] []) = some (AV.sl (ints (List.take j l)) j Room.no) ∧ LoopS (Env.mk Tryd.prog (Sof [c30.to, c65.to]) (Pof (P := Tryd.prog) []) H.nil.base (300 : Nat)) (loopAt Tryd.f31 (1 : Nat)) (55 : Nat) [(0 : Nat), (1 : Nat), (2 : Nat), (8 : Nat), (11 : Nat), (12 : Nat), (13 : Nat), (42 : Nat), (43 : Nat), (44 : Nat)] [AV.sl (ints g) g.length r, I k, AV.sl (ints l) l.length q, I (l.getD j i0), AV.sl (ints l) l.length q, I (↑l.length : Int), I (↑j : Int), AV.sl (ints (List.take j l)) j Room.no, I (↑j : Int), I (0 : Int)] (H.mk [] [] []) [Out.mk Unit AX.ret [(6 : Nat)] (fun x => ¬q31 g k l j) (fun x => [AV.bool false]) (fun x => H.nil) fun y => [], Out.mk Unit (AX.exit (2 : Nat)) [(0 : Nat), (1 : Nat), (2 : Nat), (11 : Nat), (12 : Nat), (13 : Nat)] (fun x => q31 g k l j) (fun x => [ls g r, I k, ls l q, ls l q, I (↑l.length : Int), I (↑j : Int)]) (fun x => H.nil) fun y => []] ∧ (∀ (y : Unit), ¬q31 g k l j → ∀ (u : Nat → AV), (55 : Nat) = (55 : Nat) ∧ hits [Out.mk Unit AX.ret [(6 : Nat)] (fun x => ¬∀ (i : Nat), i < l.length → cp g k l i) (fun x => [AV.bool false]) (fun x => H.nil) fun x => [], Out.mk Unit (AX.exit (0 : Nat)) [] (fun x => ∀ (i : Nat), i < l.length → cp g k l i) (fun x => []) (fun x => H.nil) fun x => []] AX.ret [u (0 : Nat), u (1 : Nat), u (2 : Nat), u (3 : Nat), u (4 : Nat), u (5 : Nat), AV.bool false, u (7 : Nat), u (8 : Nat), u (9 : Nat), u (10 : Nat), u (11 : Nat), u (12 : Nat), u (13 : Nat), u (14 : Nat), u (15 : Nat), u (16 : Nat), u (17 : Nat), u (18 : Nat), u (19 : Nat), u (20 : Nat), u (21 : Nat), u (22 : Nat), u (23 : Nat), u (24 : Nat), u (25 : Nat), u (26 : Nat), u (27 : Nat), u (28 : Nat), u (29 : Nat), u (30 : Nat), u (31 : Nat), u (32 : Nat), u (33 : Nat), u (34 : Nat), u (35 : Nat), u (36 : Nat), u (37 : Nat), u (38 : Nat), u (39 : Nat), u (40 : Nat), u (41 : Nat), u (42 : Nat), u (43 : Nat), u (44 : Nat), u (45 : Nat), u (46 : Nat), u (47 : Nat), u (48 : Nat), u (49 : Nat), u (50 : Nat), u (51 : Nat), u (52 : Nat), u (53 : Nat), u (54 : Nat)] (H.mk [] [] [])) ∧ (∀ (y : Unit), (∀ (j_1 : Nat), j_1 < j → nrK g k.toNat (at_ l j).toNat (at_ l j_1).toNat = false) → ∀ (u : Nat → AV), IntKind.i64.wrap ((↑j : Int) + (1 : Int)) = (↑j : Int) + (1 : Int) ∧ (55 : Nat) = (55 : Nat) ∧ j < l.length ∧ Keep (H.mk [] [] [] = H.mk [] [] [] ∧ [AV.sl (ints g) g.length r, I k, AV.sl (ints l) l.length q, AV.sl (ints l) l.length q, I (↑l.length : Int), I ((↑j : Int) + (1 : Int))] = [AV.sl (ints g) g.length r, I k, AV.sl (ints l) l.length q, AV.sl (ints l) l.length q, I (↑l.length : Int), I (↑(j + (1 : Nat)) : Int)] ∧ ∀ (m : Nat), m < j + (1 : Nat) → cp g k l m)) ∧ True) (by kernel_rfl) ?_⟩
          refine And.intro (by first | with_reducible assumption | omega | assumption) ?_
          refine And.intro (by first | exact ix_ints (by kernel_rfl) (by omega) (by assumption) | exact ix_ints (by kernel_rfl) (by omega) (rok_idx (by assumption) (by omega))) ?_
          refine And.intro (by first | exact ld_ints (by kernel_rfl) (by kernel_rfl) (by omega) | exact ldm_ints (by kernel_rfl) (by kernel_rfl) (by first | omega | (simp; omega))) ?_
          refine And.intro (by first | with_reducible assumption | omega | assumption) ?_
          refine And.intro (by exact acall_hit (c := c30.to) (g, r, k) _ rfl p30) ?_
          refine And.intro (by first | with_reducible assumption | omega | assumption) ?_
          refine And.intro (by first | with_reducible assumption | omega | assumption) ?_
          refine And.intro (by exact sl_intsr (by kernel_rfl) hz' hr) ?_
          refine And.intro (by exact lpi) ?_
          refine And.intro ?_ ?_
          · skip
            intro y
            intro w1
            intro u
            refine And.intro (by first | with_reducible assumption | omega | assumption) ?_
            exact .inl ⟨(), fun h => (by with_reducible assumption : ¬ q31 g k l j) (h j hz').2.2, rfl, rfl, rfl⟩
          · skip
            refine And.intro ?_ ?_
            · skip
              intro y
              intro w1
              intro u
              refine And.intro (by exact wr _ (by omega) (by omega)) ?_
              refine And.intro (by first | with_reducible assumption | omega | assumption) ?_
              refine And.intro (by first | with_reducible assumption | omega | assumption) ?_
              exact ⟨rfl, rfl, all_succ (q := cp g k l) ha ⟨⟨c1, c2⟩, fun h => absurd h (by omega), by with_reducible assumption⟩⟩
            · skip
              trivial
  · have hz : (l.length : Int) ≤ j := by omega
    have hj' : j = l.length := by omega
    subst hj'
    refine ⟨[Ans.o (Orc.b false)], fun u => of_eq ((↑l.length : Int) ≤ (↑l.length : Int) ∧ (55 : Nat) = (55 : Nat) ∧ hits [Out.mk Unit AX.ret [(6 : Nat)] (fun x => ¬∀ (i : Nat), i < l.length → cp g k l i) (fun x => [AV.bool false]) (fun x => H.nil) fun x => [], Out.mk Unit (AX.exit (0 : Nat)) [] (fun x => ∀ (i : Nat), i < l.length → cp g k l i) (fun x => []) (fun x => H.nil) fun x => []] (AX.exit (0 : Nat)) [AV.sl (ints g) g.length r, I k, AV.sl (ints l) l.length q, u (3 : Nat), u (4 : Nat), u (5 : Nat), u (6 : Nat), u (7 : Nat), u (8 : Nat), u (9 : Nat), u (10 : Nat), AV.sl (ints l) l.length q, I (↑l.length : Int), I (↑l.length : Int), AV.bool false, u (15 : Nat), u (16 : Nat), u (17 : Nat), u (18 : Nat), u (19 : Nat), u (20 : Nat), u (21 : Nat), u (22 : Nat), u (23 : Nat), u (24 : Nat), u (25 : Nat), u (26 : Nat), u (27 : Nat), u (28 : Nat), u (29 : Nat), u (30 : Nat), u (31 : Nat), u (32 : Nat), u (33 : Nat), u (34 : Nat), u (35 : Nat), u (36 : Nat), u (37 : Nat), u (38 : Nat), u (39 : Nat), u (40 : Nat), u (41 : Nat), u (42 : Nat), u (43 : Nat), u (44 : Nat), u (45 : Nat), u (46 : Nat), u (47 : Nat), u (48 : Nat), u (49 : Nat), u (50 : Nat), u (51 : Nat), u (52 : Nat), u (53 : Nat), u (54 : Nat)] (H.mk [] [] [])) (by kernel_rfl) ?_⟩
    refine And.intro (by first | with_reducible assumption | omega | assumption) ?_
    refine And.intro (by first | with_reducible assumption | omega | assumption) ?_
    exact .inr (.inl ⟨(), ha, rfl, rfl, rfl⟩)
theorem ok31 : FokM Tryd.prog none1 31 Tryd.f31 := ⟨mixed, by kernel_rfl, by kernel_rfl, by kernel_rfl, by kernel_rfl⟩
theorem r31 (g : List Int) (r : Room) (k : Int) (l : List Int) (q : Room) (hp : (rdE g k = 0 ∧ rok g r) ∧ lim l.length ∧ rok l q) : Body ⟨Tryd.prog, Sof (P := Tryd.prog) [c30.to, c65.to], Pof (P := Tryd.prog) [], H.nil.base, 300⟩ none1 Tryd.f31 [ls g r, I k, ls l q] .nil (.bool (icF (rdW g k) 0#64 (-1) l), .nil) := by
  obtain ⟨⟨h1, h2⟩, h3, h4⟩ := hp
  obtain ⟨hg, hk, _, _⟩ := rd_ok h1
  have lp := lp31 g r k l q ⟨hg, h2⟩ (by omega) (rd_pw h1).2 h3 h4
  have ht := cp_iff h1 l
  refine body_s ([Ans.loop [(0 : Nat), (1 : Nat), (2 : Nat), (11 : Nat), (12 : Nat), (13 : Nat)] [Out.mk Unit AX.ret [(6 : Nat)] (fun x => ¬∀ (i : Nat), i < l.length → cp g k l i) (fun x => [AV.bool false]) (fun x => H.nil) fun y => [], Out.mk Unit (AX.exit (0 : Nat)) [] (fun x => ∀ (i : Nat), i < l.length → cp g k l i) (fun x => []) (fun x => H.nil) fun y => []]]) (LoopS (Env.mk Tryd.prog (Sof [c30.to, c65.to]) (Pof (P := Tryd.prog) []) H.nil.base (300 : Nat)) (loopAt Tryd.f31 (0 : Nat)) (55 : Nat) [(0 : Nat), (1 : Nat), (2 : Nat), (11 : Nat), (12 : Nat), (13 : Nat)] [AV.sl (ints g) g.length r, I k, AV.sl (ints l) l.length q, AV.sl (ints l) l.length q, I (↑l.length : Int), I (0 : Int)] (H.mk [] [] []) [Out.mk Unit AX.ret [(6 : Nat)] (fun x => ¬∀ (i : Nat), i < l.length → cp g k l i) (fun x => [AV.bool false]) (fun x => H.nil) fun y => [], Out.mk Unit (AX.exit (0 : Nat)) [] (fun x => ∀ (i : Nat), i < l.length → cp g k l i) (fun x => []) (fun x => H.nil) fun y => []] ∧ (∀ (y : Unit), (¬∀ (i : Nat), i < l.length → cp g k l i) → ∀ (u : Nat → AV), (AV.bool false, H.mk [] [] []) = (AV.bool (icF (rdW g k) (BitVec.ofNat (64 : Nat) (0 : Nat)) (-1 : Int) l), H.mk [] [] [])) ∧ (∀ (y : Unit), (∀ (i : Nat), i < l.length → ((0 : Int) ≤ at_ l i ∧ at_ l i < (↑(g.length ^ k.toNat) : Int)) ∧ ((0 : Nat) < i → at_ l (i - (1 : Nat)) < at_ l i) ∧ ∀ (j : Nat), j < i → nrK g k.toNat (at_ l i).toNat (at_ l j).toNat = false) → ∀ (u : Nat → AV), (AV.bool true, H.mk [] [] []) = (AV.bool (icF (rdW g k) (BitVec.ofNat (64 : Nat) (0 : Nat)) (-1 : Int) l), H.mk [] [] [])) ∧ True) (by kernel_rfl) ?_
  refine And.intro (by exact lp) ?_
  refine And.intro ?_ ?_
  · skip
    intro y
    intro w1
    intro u
    first | (rw [ht.2 (by with_reducible assumption)]) | (rw [Bool.eq_false_iff.2 (fun h => (by with_reducible assumption : ¬ ∀ i, i < l.length → cp g k l i) (ht.1 h))])
  · skip
    refine And.intro ?_ ?_
    · skip
      intro y
      intro w1
      intro u
      first | (rw [ht.2 (by with_reducible assumption)]) | (rw [Bool.eq_false_iff.2 (fun h => (by with_reducible assumption : ¬ ∀ i, i < l.length → cp g k l i) (ht.1 h))])
    · skip
      trivial
noncomputable def c31 : PCtr Tryd.prog := sctr ok31 (X := List Int × Room × Int × List Int × Room) (fun x => [ls x.1 x.2.1, I x.2.2.1, ls x.2.2.2.1 x.2.2.2.2]) (fun x => (rdE x.1 x.2.2.1 = 0 ∧ rok x.1 x.2.1) ∧ lim x.2.2.2.1.length ∧ rok x.2.2.2.1 x.2.2.2.2) (fun x => .bool (icF (rdW x.1 x.2.2.1) 0#64 (-1) x.2.2.2.1)) (by intro x y e _ _; simp at e; simp [e]) (fun x => by simp [AV.bnds, AV.bnd, AV.wk, rm_wk_bnd]) (fun x => by first | rfl | (simp [AV.bnd, rm_wk_bnd]; done)  | (simp [AV.bnd, AV.bnds, rm_wk_bnd]; done) | simp [AV.bnd, AV.bnds, Room.bnd, rm_wk_bnd]) (fun x hx => ⟨_, _, _, .pure c30 (.pure c65 (.nil)), r31 (x.1) (x.2.1).wk (x.2.2.1) (x.2.2.2.1) (x.2.2.2.2).wk (by first | exact hx | (simp only [rok_wk]; exact hx) | (simp only [rok_wk, lst_wk]; exact hx) | (simp only [rok_wk, lst_wk, lsn_wk]; exact hx))⟩)
end Go.Proofs.Sur
