/- Layer 5: the reference's most words. -/
import Derived.Test.YtlomlnkafakloaaDoorSuQ
import Derived.Test.YtlomlnkafakloaaDoorSuG
import Derived.KernelRfl
set_option linter.unusedSimpArgs false
set_option linter.unusedVariables false
set_option linter.unnecessarySimpa false
set_option maxHeartbeats 4000000
set_option maxRecDepth 100000
namespace Go.Proofs.Sur
open Go Go.VM

abbrev w66 (w : List W) (r : Room) (s : W) : Prop := (rok w r ∧ gsW w) ∧ sub s w.length
abbrev C66ok (n : Nat) : Prop := ∀ w r s, w66 w r s ∧ (bits s).length < n → CallOk Tryd.prog 66 [ws w r, u64A s] .nil (I (msV w s : Nat)) .nil
theorem ok66 : FokM Tryd.prog none1 66 Tryd.f66 := ⟨mixed, by kernel_rfl, by kernel_rfl, by kernel_rfl, by kernel_rfl⟩
noncomputable def C66 (n : Nat) (ih : C66ok n) : PCtr Tryd.prog where
  f := 66
  X := List W × Room × W
  args q := [ws q.1 q.2.1, u64A q.2.2]
  pre q := w66 q.1 q.2.1 q.2.2 ∧ (bits q.2.2).length < n
  v q := I (msV q.1 q.2.2 : Nat)
  det := by
    rintro ⟨w, r, s⟩ ⟨w', r', s'⟩ e _ _
    simp at e
    simp [e]
  ok := by
    rintro ⟨w, r, s⟩ h
    have h' : w66 w r.wk s ∧ (bits s).length < n := ⟨⟨⟨(rok_wk _ _).2 h.1.1.1, h.1.1.2⟩, h.1.2⟩, h.2⟩
    exact ⟨ok66.call, fun H => (pure_call (ih w r.wk s h') (by simp [AV.bnds, AV.bnd, rm_wk_bnd]) rfl H).wk⟩
/-- how many are near to a word -/
abbrev cn (w : List W) (s : W) (i : Nat) : Nat := (bits (s &&& wt_ w i)).length
abbrev bst (w : List W) (s : W) (j : Nat) (wo : Int) (be : Nat) : Prop := (∀ i, i < j → s.getLsbD i = true → cn w s i ≤ be) ∧ (be = 0 ∨ ∃ i : Nat, wo = i ∧ i < j ∧ s.getLsbD i = true)
/-- the first word that is near to most -/
def wbF (w : List W) (s : W) : Nat → Int × Nat
  | 0 => (-1, 0)
  | j + 1 => if s.getLsbD j = true ∧ (wbF w s j).2 < cn w s j then ((j : Int), cn w s j) else wbF w s j
theorem wbF_ok (w : List W) (s : W) : ∀ j, bst w s j (wbF w s j).1 (wbF w s j).2
  | 0 => ⟨fun i hi => absurd hi (Nat.not_lt_zero i), .inl rfl⟩
  | j + 1 => by
    obtain ⟨h1, h2⟩ := wbF_ok w s j
    simp only [wbF]
    by_cases c : s.getLsbD j = true ∧ (wbF w s j).2 < cn w s j
    · rw [if_pos c]
      refine ⟨fun i hi hs => ?_, .inr ⟨j, rfl, by omega, c.1⟩⟩
      rcases Nat.lt_or_ge i j with h | h
      · have := h1 i h hs
        have := c.2
        show cn w s i ≤ cn w s j
        omega
      · have : i = j := by omega
        subst this; exact Nat.le_refl _
    · rw [if_neg c]
      refine ⟨fun i hi hs => ?_, ?_⟩
      · rcases Nat.lt_or_ge i j with h | h
        · exact h1 i h hs
        · have e : i = j := by omega
          subst e
          exact Nat.le_of_not_lt fun hlt => c ⟨hs, hlt⟩
      · rcases h2 with h2 | ⟨i, a, b, c⟩
        · exact .inl h2
        · exact .inr ⟨i, a, by omega, c⟩
abbrev o66a (w : List W) (r : Room) (s : W) : List Out :=
  [.mk Unit (.exit 2) [0, 1, 5, 6, 7] (fun _ => True) (fun _ => [ws w r, u64A s, I 0, I (wbF w s w.length).1, I ((wbF w s w.length).2 : Nat)]) (fun _ => .nil) (fun _ => [])]
theorem simp66a : allSimpleM none1 (loopAt Tryd.f66 1) = true := by kernel_rfl
theorem lp66a (n : Nat) (ih : C66ok n) (w : List W) (r : Room) (s : W) (hr : rok w r) (h64 : w.length ≤ 64) :
    LoopS (En6 [c93.to, (C66 n ih).to]) (loopAt Tryd.f66 1) 81 [0, 1, 5, 6, 7, 17, 18, 19] [ws w r, u64A s, I 0, I (-1), I 0, ws w r, I w.length, I 0] .nil (o66a w r s) := by
  have hR : Rests (En6 [c93.to, (C66 n ih).to]) none1 := rests mixed (.pure _ (.pure _ .nil))
  refine loop_s hR simp66a none (by intro _ h; cases h) (fun j vs h => h = .nil ∧ vs = [ws w r, u64A s, I 0, I (wbF w s j).1, I ((wbF w s j).2 : Nat), ws w r, I w.length, I j]) w.length ⟨rfl, rfl⟩ (by intro _ h; cases h) ?_
  rintro j vs h hj ⟨rfl, rfl⟩
  by_cases hz : (j : Int) < w.length
  · have hz' : j < w.length := by omega
    have hr' := rok_idx hr hz'
    have ev0 := w_shr s (n := j) (by omega)
    cases c3 : s.getLsbD j
    · have ev1 : _ = (0 : Int) := w_bit false c3
      have e : wbF w s (j + 1) = wbF w s j := if_neg (fun c => by rw [c3] at c; cases c.1)
      refine ⟨[Ans.o (Orc.b true), Ans.o (Orc.val (22 : Nat) (AV.cptr (u64s (List.drop j w))) (H.mk [] [] [])), Ans.o (Orc.val (23 : Nat) (AV.int IntKind.u64 (↑(BitVec.toNat (w.getD j w0)) : Int)) (H.mk [] [] [])), Ans.o (Orc.val (26 : Nat) (AV.int IntKind.u64 (↑(s >>> j).toNat : Int)) (H.mk [] [] [])), Ans.o (Orc.val (27 : Nat) (AV.int IntKind.u64 (0 : Int)) (H.mk [] [] [])), Ans.o Orc.dflt], fun u => of_eq ((↑j : Int) < (↑w.length : Int) ∧ aIndexAddr Tryd.prog (66 : Nat) (AV.sl (u64s w) w.length r) (I (↑j : Int)) = some (AV.cptr (u64s (List.drop j w))) ∧ aLoad Tryd.prog (71 : Nat) (u64s (List.drop j w)) = some (AV.int IntKind.u64 (↑(BitVec.toNat (w.getD j w0)) : Int)) ∧ aBin Tryd.prog BinOp.shr (71 : Nat) (AV.int IntKind.u64 (↑(BitVec.toNat s) : Int)) (I (↑j : Int)) = some (AV.int IntKind.u64 (↑(s >>> j).toNat : Int)) ∧ aBin Tryd.prog BinOp.and (71 : Nat) (AV.int IntKind.u64 (↑(s >>> j).toNat : Int)) (AV.int IntKind.u64 (1 : Int)) = some (AV.int IntKind.u64 (0 : Int)) ∧ IntKind.i64.wrap ((↑j : Int) + (1 : Int)) = (↑j : Int) + (1 : Int) ∧ (81 : Nat) = (81 : Nat) ∧ j < w.length ∧ Keep (H.mk [] [] [] = H.mk [] [] [] ∧ [AV.sl (u64s w) w.length r, AV.int IntKind.u64 (↑(BitVec.toNat s) : Int), I (0 : Int), I (wbF w s j).fst, I (↑(wbF w s j).snd : Int), AV.sl (u64s w) w.length r, I (↑w.length : Int), I ((↑j : Int) + (1 : Int))] = [AV.sl (u64s w) w.length r, AV.int IntKind.u64 (↑(BitVec.toNat s) : Int), I (0 : Int), I (wbF w s (j + (1 : Nat))).fst, I (↑(wbF w s (j + (1 : Nat))).snd : Int), AV.sl (u64s w) w.length r, I (↑w.length : Int), I (↑(j + (1 : Nat)) : Int)])) (by kernel_rfl) ?_⟩
      refine And.intro (by first | with_reducible assumption | omega | assumption) ?_
      refine And.intro (by first | exact ix_u64s (by kernel_rfl) (by omega) (by assumption) | exact ix_u64s (by kernel_rfl) (by omega) (rok_idx (by assumption) (by omega))) ?_
      refine And.intro (by first | exact ld_u64s (by kernel_rfl) (by kernel_rfl) (by omega) | exact ldm_u64s (by kernel_rfl) (by kernel_rfl) (by first | omega | (simp; omega))) ?_
      refine And.intro (by first | exact told_shr (by omega) (by with_reducible assumption) | exact told_shr (by omega) rfl) ?_
      refine And.intro (by exact told_and (by with_reducible assumption)) ?_
      refine And.intro (by exact wr _ (by omega) (by omega)) ?_
      refine And.intro (by first | with_reducible assumption | omega | assumption) ?_
      refine And.intro (by first | with_reducible assumption | omega | assumption) ?_
      exact ⟨rfl, by rw [e]; rfl⟩
    · have ev1 : _ = (1 : Int) := w_bit true c3
      have ev2 := w_and s (wt_ w j)
      by_cases c4 : (wbF w s j).2 < cn w s j
      · have e : wbF w s (j + 1) = ((j : Int), cn w s j) := if_pos ⟨c3, c4⟩
        have c5 : (((wbF w s j).2 : Nat) : Int) < ((cn w s j : Nat) : Int) := by omega
        refine ⟨[Ans.o (Orc.b true), Ans.o (Orc.val (22 : Nat) (AV.cptr (u64s (List.drop j w))) (H.mk [] [] [])), Ans.o (Orc.val (23 : Nat) (AV.int IntKind.u64 (↑(BitVec.toNat (w.getD j w0)) : Int)) (H.mk [] [] [])), Ans.o (Orc.val (26 : Nat) (AV.int IntKind.u64 (↑(s >>> j).toNat : Int)) (H.mk [] [] [])), Ans.o (Orc.val (27 : Nat) (AV.int IntKind.u64 (1 : Int)) (H.mk [] [] [])), Ans.o Orc.dflt, Ans.o (Orc.val (31 : Nat) (AV.int IntKind.u64 (↑(BitVec.toNat (s &&& wt_ w j)) : Int)) (H.mk [] [] [])), Ans.o (Orc.val (32 : Nat) (I (↑(bits (s &&& wt_ w j)).length : Int)) (H.mk [] [] [])), Ans.o (Orc.b true)], fun u => of_eq ((↑j : Int) < (↑w.length : Int) ∧ aIndexAddr Tryd.prog (66 : Nat) (AV.sl (u64s w) w.length r) (I (↑j : Int)) = some (AV.cptr (u64s (List.drop j w))) ∧ aLoad Tryd.prog (71 : Nat) (u64s (List.drop j w)) = some (AV.int IntKind.u64 (↑(BitVec.toNat (w.getD j w0)) : Int)) ∧ aBin Tryd.prog BinOp.shr (71 : Nat) (AV.int IntKind.u64 (↑(BitVec.toNat s) : Int)) (I (↑j : Int)) = some (AV.int IntKind.u64 (↑(s >>> j).toNat : Int)) ∧ aBin Tryd.prog BinOp.and (71 : Nat) (AV.int IntKind.u64 (↑(s >>> j).toNat : Int)) (AV.int IntKind.u64 (1 : Int)) = some (AV.int IntKind.u64 (1 : Int)) ∧ aBin Tryd.prog BinOp.and (71 : Nat) (AV.int IntKind.u64 (↑(BitVec.toNat s) : Int)) (AV.int IntKind.u64 (↑(BitVec.toNat (w.getD j w0)) : Int)) = some (AV.int IntKind.u64 (↑(BitVec.toNat (s &&& wt_ w j)) : Int)) ∧ aCall (Sof [c93.to, (C66 n ih).to]) (AV.fn (Fn.func (93 : Nat)) [] []) [AV.int IntKind.u64 (↑(BitVec.toNat (s &&& wt_ w j)) : Int)] (H.mk [] [] []) = some (I (↑(bits (s &&& wt_ w j)).length : Int), H.mk [] [] []) ∧ (↑(wbF w s j).snd : Int) < (↑(bits (s &&& wt_ w j)).length : Int) ∧ IntKind.i64.wrap ((↑j : Int) + (1 : Int)) = (↑j : Int) + (1 : Int) ∧ (81 : Nat) = (81 : Nat) ∧ j < w.length ∧ Keep (H.mk [] [] [] = H.mk [] [] [] ∧ [AV.sl (u64s w) w.length r, AV.int IntKind.u64 (↑(BitVec.toNat s) : Int), I (0 : Int), I (↑j : Int), I (↑(bits (s &&& wt_ w j)).length : Int), AV.sl (u64s w) w.length r, I (↑w.length : Int), I ((↑j : Int) + (1 : Int))] = [AV.sl (u64s w) w.length r, AV.int IntKind.u64 (↑(BitVec.toNat s) : Int), I (0 : Int), I (wbF w s (j + (1 : Nat))).fst, I (↑(wbF w s (j + (1 : Nat))).snd : Int), AV.sl (u64s w) w.length r, I (↑w.length : Int), I (↑(j + (1 : Nat)) : Int)])) (by kernel_rfl) ?_⟩
        refine And.intro (by first | with_reducible assumption | omega | assumption) ?_
        refine And.intro (by first | exact ix_u64s (by kernel_rfl) (by omega) (by assumption) | exact ix_u64s (by kernel_rfl) (by omega) (rok_idx (by assumption) (by omega))) ?_
        refine And.intro (by first | exact ld_u64s (by kernel_rfl) (by kernel_rfl) (by omega) | exact ldm_u64s (by kernel_rfl) (by kernel_rfl) (by first | omega | (simp; omega))) ?_
        refine And.intro (by first | exact told_shr (by omega) (by with_reducible assumption) | exact told_shr (by omega) rfl) ?_
        refine And.intro (by exact told_and (by with_reducible assumption)) ?_
        refine And.intro (by exact told_and (by with_reducible assumption)) ?_
        refine And.intro (by exact acall_hit (c := c93.to) (s &&& wt_ w j) _ rfl trivial) ?_
        refine And.intro (by first | with_reducible assumption | omega | assumption) ?_
        refine And.intro (by exact wr _ (by omega) (by omega)) ?_
        refine And.intro (by first | with_reducible assumption | omega | assumption) ?_
        refine And.intro (by first | with_reducible assumption | omega | assumption) ?_
        exact ⟨rfl, by rw [e]; rfl⟩
      · have e : wbF w s (j + 1) = wbF w s j := if_neg (fun c => c4 c.2)
        have c5 : ((cn w s j : Nat) : Int) ≤ (((wbF w s j).2 : Nat) : Int) := by omega
        refine ⟨[Ans.o (Orc.b true), Ans.o (Orc.val (22 : Nat) (AV.cptr (u64s (List.drop j w))) (H.mk [] [] [])), Ans.o (Orc.val (23 : Nat) (AV.int IntKind.u64 (↑(BitVec.toNat (w.getD j w0)) : Int)) (H.mk [] [] [])), Ans.o (Orc.val (26 : Nat) (AV.int IntKind.u64 (↑(s >>> j).toNat : Int)) (H.mk [] [] [])), Ans.o (Orc.val (27 : Nat) (AV.int IntKind.u64 (1 : Int)) (H.mk [] [] [])), Ans.o Orc.dflt, Ans.o (Orc.val (31 : Nat) (AV.int IntKind.u64 (↑(BitVec.toNat (s &&& wt_ w j)) : Int)) (H.mk [] [] [])), Ans.o (Orc.val (32 : Nat) (I (↑(bits (s &&& wt_ w j)).length : Int)) (H.mk [] [] [])), Ans.o (Orc.b false)], fun u => of_eq ((↑j : Int) < (↑w.length : Int) ∧ aIndexAddr Tryd.prog (66 : Nat) (AV.sl (u64s w) w.length r) (I (↑j : Int)) = some (AV.cptr (u64s (List.drop j w))) ∧ aLoad Tryd.prog (71 : Nat) (u64s (List.drop j w)) = some (AV.int IntKind.u64 (↑(BitVec.toNat (w.getD j w0)) : Int)) ∧ aBin Tryd.prog BinOp.shr (71 : Nat) (AV.int IntKind.u64 (↑(BitVec.toNat s) : Int)) (I (↑j : Int)) = some (AV.int IntKind.u64 (↑(s >>> j).toNat : Int)) ∧ aBin Tryd.prog BinOp.and (71 : Nat) (AV.int IntKind.u64 (↑(s >>> j).toNat : Int)) (AV.int IntKind.u64 (1 : Int)) = some (AV.int IntKind.u64 (1 : Int)) ∧ aBin Tryd.prog BinOp.and (71 : Nat) (AV.int IntKind.u64 (↑(BitVec.toNat s) : Int)) (AV.int IntKind.u64 (↑(BitVec.toNat (w.getD j w0)) : Int)) = some (AV.int IntKind.u64 (↑(BitVec.toNat (s &&& wt_ w j)) : Int)) ∧ aCall (Sof [c93.to, (C66 n ih).to]) (AV.fn (Fn.func (93 : Nat)) [] []) [AV.int IntKind.u64 (↑(BitVec.toNat (s &&& wt_ w j)) : Int)] (H.mk [] [] []) = some (I (↑(bits (s &&& wt_ w j)).length : Int), H.mk [] [] []) ∧ (↑(bits (s &&& wt_ w j)).length : Int) ≤ (↑(wbF w s j).snd : Int) ∧ IntKind.i64.wrap ((↑j : Int) + (1 : Int)) = (↑j : Int) + (1 : Int) ∧ (81 : Nat) = (81 : Nat) ∧ j < w.length ∧ Keep (H.mk [] [] [] = H.mk [] [] [] ∧ [AV.sl (u64s w) w.length r, AV.int IntKind.u64 (↑(BitVec.toNat s) : Int), I (0 : Int), I (wbF w s j).fst, I (↑(wbF w s j).snd : Int), AV.sl (u64s w) w.length r, I (↑w.length : Int), I ((↑j : Int) + (1 : Int))] = [AV.sl (u64s w) w.length r, AV.int IntKind.u64 (↑(BitVec.toNat s) : Int), I (0 : Int), I (wbF w s (j + (1 : Nat))).fst, I (↑(wbF w s (j + (1 : Nat))).snd : Int), AV.sl (u64s w) w.length r, I (↑w.length : Int), I (↑(j + (1 : Nat)) : Int)])) (by kernel_rfl) ?_⟩
        refine And.intro (by first | with_reducible assumption | omega | assumption) ?_
        refine And.intro (by first | exact ix_u64s (by kernel_rfl) (by omega) (by assumption) | exact ix_u64s (by kernel_rfl) (by omega) (rok_idx (by assumption) (by omega))) ?_
        refine And.intro (by first | exact ld_u64s (by kernel_rfl) (by kernel_rfl) (by omega) | exact ldm_u64s (by kernel_rfl) (by kernel_rfl) (by first | omega | (simp; omega))) ?_
        refine And.intro (by first | exact told_shr (by omega) (by with_reducible assumption) | exact told_shr (by omega) rfl) ?_
        refine And.intro (by exact told_and (by with_reducible assumption)) ?_
        refine And.intro (by exact told_and (by with_reducible assumption)) ?_
        refine And.intro (by exact acall_hit (c := c93.to) (s &&& wt_ w j) _ rfl trivial) ?_
        refine And.intro (by first | with_reducible assumption | omega | assumption) ?_
        refine And.intro (by exact wr _ (by omega) (by omega)) ?_
        refine And.intro (by first | with_reducible assumption | omega | assumption) ?_
        refine And.intro (by first | with_reducible assumption | omega | assumption) ?_
        exact ⟨rfl, by rw [e]; rfl⟩
  · have hz : (w.length : Int) ≤ j := by omega
    have e : j = w.length := by omega
    subst e
    refine ⟨[Ans.o (Orc.b false)], fun u => of_eq ((↑w.length : Int) ≤ (↑w.length : Int) ∧ (81 : Nat) = (81 : Nat) ∧ hits [Out.mk Unit (AX.exit (2 : Nat)) [(0 : Nat), (1 : Nat), (5 : Nat), (6 : Nat), (7 : Nat)] (fun x => True) (fun x => [ws w r, u64A s, I (0 : Int), I (wbF w s w.length).fst, I (↑(wbF w s w.length).snd : Int)]) (fun x => H.nil) fun x => []] (AX.exit (2 : Nat)) [AV.sl (u64s w) w.length r, AV.int IntKind.u64 (↑(BitVec.toNat s) : Int), u (2 : Nat), u (3 : Nat), u (4 : Nat), I (0 : Int), I (wbF w s w.length).fst, I (↑(wbF w s w.length).snd : Int), u (8 : Nat), u (9 : Nat), u (10 : Nat), u (11 : Nat), u (12 : Nat), u (13 : Nat), u (14 : Nat), u (15 : Nat), u (16 : Nat), AV.sl (u64s w) w.length r, I (↑w.length : Int), I (↑w.length : Int), AV.bool false, u (21 : Nat), u (22 : Nat), u (23 : Nat), u (24 : Nat), u (25 : Nat), u (26 : Nat), u (27 : Nat), u (28 : Nat), u (29 : Nat), u (30 : Nat), u (31 : Nat), u (32 : Nat), u (33 : Nat), u (34 : Nat), u (35 : Nat), u (36 : Nat), u (37 : Nat), u (38 : Nat), u (39 : Nat), u (40 : Nat), u (41 : Nat), u (42 : Nat), u (43 : Nat), u (44 : Nat), u (45 : Nat), u (46 : Nat), u (47 : Nat), u (48 : Nat), u (49 : Nat), u (50 : Nat), u (51 : Nat), u (52 : Nat), u (53 : Nat), u (54 : Nat), u (55 : Nat), u (56 : Nat), u (57 : Nat), u (58 : Nat), u (59 : Nat), u (60 : Nat), u (61 : Nat), u (62 : Nat), u (63 : Nat), u (64 : Nat), u (65 : Nat), u (66 : Nat), u (67 : Nat), u (68 : Nat), u (69 : Nat), u (70 : Nat), u (71 : Nat), u (72 : Nat), u (73 : Nat), u (74 : Nat), u (75 : Nat), u (76 : Nat), u (77 : Nat), u (78 : Nat), u (79 : Nat), u (80 : Nat)] (H.mk [] [] [])) (by kernel_rfl) ?_⟩
    refine And.intro (by first | with_reducible assumption | omega | assumption) ?_
    refine And.intro (by first | with_reducible assumption | omega | assumption) ?_
    exact .inl ⟨(), trivial, rfl, rfl, rfl⟩
abbrev o66b (w : List W) (s : W) : List Out :=
  [.mk Unit (.exit 4) [5] (fun _ => True) (fun _ => [I (msV w s : Nat)]) (fun _ => .nil) (fun _ => [])]
theorem simp66b : allSimpleM none1 (loopAt Tryd.f66 2) = true := by kernel_rfl
theorem i_add2 {n : Nat} (h : n ≤ 100) : IntKind.i64.wrap ((n : Int) + 1) = ((n + 1 : Nat) : Int) := by
  have : (n : Int) + 1 = ((n + 1 : Nat) : Int) := by simp
  rw [this]; exact i_wrap (by omega)
theorem lp66b (n : Nat) (ih : C66ok n) (w : List W) (r : Room) (s : W) (hr : rok w r) (hg : gsW w) (hs : sub s w.length) (hc : ∀ i, i < w.length → s.getLsbD i = true → cn w s i ≤ 2) :
    LoopS (En6 [c93.to, (C66 n ih).to]) (loopAt Tryd.f66 2) 81 [1, 5, 41, 42, 43] [u64A s, I 0, ws w r, I w.length, I 0] .nil (o66b w s) := by
  have hR : Rests (En6 [c93.to, (C66 n ih).to]) none1 := rests mixed (.pure _ (.pure _ .nil))
  have h64 := hg.1.1.2
  refine loop_s hR simp66b none (by intro _ h; cases h) (fun j vs h => ∃ (t : W) (m : Nat), m ≤ 64 ∧ h = .nil ∧ vs = [u64A t, I (m : Nat), ws w r, I w.length, I j] ∧ m + msV w t = msV w s ∧ m ≤ j ∧ ∀ k, t.getLsbD k = true → s.getLsbD k = true ∧ j ≤ k) w.length ⟨s, 0, by omega, rfl, rfl, by omega, by omega, fun k hk => ⟨hk, Nat.zero_le k⟩⟩ (by intro _ h; cases h) ?_
  rintro j vs h hj ⟨t, m, hm, rfl, rfl, h1, h2, h3⟩
  by_cases hz : (j : Int) < w.length
  · have hz' : j < w.length := by omega
    have hr' := rok_idx hr hz'
    have ev0 := w_shr t (n := j) (by omega)
    cases c3 : t.getLsbD j
    · have ev1 : _ = (0 : Int) := w_bit false c3
      have k3 : ∀ k, t.getLsbD k = true → s.getLsbD k = true ∧ j + 1 ≤ k := fun k hk => by
        obtain ⟨a, b⟩ := h3 k hk
        have : k ≠ j := fun e => by rw [e, c3] at hk; cases hk
        exact ⟨a, by omega⟩
      refine ⟨[Ans.o (Orc.b true), Ans.o (Orc.val (46 : Nat) (AV.cptr (u64s (List.drop j w))) (H.mk [] [] [])), Ans.o (Orc.val (47 : Nat) (AV.int IntKind.u64 (↑(BitVec.toNat (w.getD j w0)) : Int)) (H.mk [] [] [])), Ans.o (Orc.val (50 : Nat) (AV.int IntKind.u64 (↑(t >>> j).toNat : Int)) (H.mk [] [] [])), Ans.o (Orc.val (51 : Nat) (AV.int IntKind.u64 (0 : Int)) (H.mk [] [] [])), Ans.o Orc.dflt], fun u => of_eq ((↑j : Int) < (↑w.length : Int) ∧ aIndexAddr Tryd.prog (66 : Nat) (AV.sl (u64s w) w.length r) (I (↑j : Int)) = some (AV.cptr (u64s (List.drop j w))) ∧ aLoad Tryd.prog (71 : Nat) (u64s (List.drop j w)) = some (AV.int IntKind.u64 (↑(BitVec.toNat (w.getD j w0)) : Int)) ∧ aBin Tryd.prog BinOp.shr (71 : Nat) (AV.int IntKind.u64 (↑(BitVec.toNat t) : Int)) (I (↑j : Int)) = some (AV.int IntKind.u64 (↑(t >>> j).toNat : Int)) ∧ aBin Tryd.prog BinOp.and (71 : Nat) (AV.int IntKind.u64 (↑(t >>> j).toNat : Int)) (AV.int IntKind.u64 (1 : Int)) = some (AV.int IntKind.u64 (0 : Int)) ∧ IntKind.i64.wrap ((↑j : Int) + (1 : Int)) = (↑j : Int) + (1 : Int) ∧ (81 : Nat) = (81 : Nat) ∧ j < w.length ∧ Keep (∃ t_1 m_1, m_1 ≤ (64 : Nat) ∧ H.mk [] [] [] = H.mk [] [] [] ∧ [AV.int IntKind.u64 (↑(BitVec.toNat t) : Int), I (↑m : Int), AV.sl (u64s w) w.length r, I (↑w.length : Int), I ((↑j : Int) + (1 : Int))] = [AV.int IntKind.u64 (↑(BitVec.toNat t_1) : Int), I (↑m_1 : Int), AV.sl (u64s w) w.length r, I (↑w.length : Int), I (↑(j + (1 : Nat)) : Int)] ∧ m_1 + msV w t_1 = msV w s ∧ m_1 ≤ j + (1 : Nat) ∧ ∀ (k : Nat), BitVec.getLsbD t_1 k = true → BitVec.getLsbD s k = true ∧ j + (1 : Nat) ≤ k)) (by kernel_rfl) ?_⟩
      refine And.intro (by first | with_reducible assumption | omega | assumption) ?_
      refine And.intro (by first | exact ix_u64s (by kernel_rfl) (by omega) (by assumption) | exact ix_u64s (by kernel_rfl) (by omega) (rok_idx (by assumption) (by omega))) ?_
      refine And.intro (by first | exact ld_u64s (by kernel_rfl) (by kernel_rfl) (by omega) | exact ldm_u64s (by kernel_rfl) (by kernel_rfl) (by first | omega | (simp; omega))) ?_
      refine And.intro (by first | exact told_shr (by omega) (by with_reducible assumption) | exact told_shr (by omega) rfl) ?_
      refine And.intro (by exact told_and (by with_reducible assumption)) ?_
      refine And.intro (by exact wr _ (by omega) (by omega)) ?_
      refine And.intro (by first | with_reducible assumption | omega | assumption) ?_
      refine And.intro (by first | with_reducible assumption | omega | assumption) ?_
      exact ⟨t, m, hm, rfl, rfl, h1, by omega, k3⟩
    · have ev1 : _ = (1 : Int) := w_bit true c3
      have ev2 := w_andn t (wt_ w j)
      have ev3 := i_add2 (n := m) (by omega)
      have hts : sub t w.length := fun k hk => hs k (h3 k hk).1
      have hcl := ms_cl hg hts c3 (en_two hg hts c3 (Nat.le_trans (bits_mono fun k hk => (h3 k hk).1) (hc j hz' (h3 j c3).1)))
      have k1 : m + 1 + msV w (t &&& ~~~wt_ w j) = msV w s := by omega
      have k3 : ∀ k, (t &&& ~~~wt_ w j).getLsbD k = true → s.getLsbD k = true ∧ j + 1 ≤ k := fun k hk => by
        obtain ⟨a, b⟩ := andn_bitW.1 hk
        obtain ⟨c, d⟩ := h3 k a
        have : k ≠ j := fun e => by rw [e, hg.1.2.2.2 j hz'] at b; cases b
        exact ⟨c, by omega⟩
      refine ⟨[Ans.o (Orc.b true), Ans.o (Orc.val (46 : Nat) (AV.cptr (u64s (List.drop j w))) (H.mk [] [] [])), Ans.o (Orc.val (47 : Nat) (AV.int IntKind.u64 (↑(BitVec.toNat (w.getD j w0)) : Int)) (H.mk [] [] [])), Ans.o (Orc.val (50 : Nat) (AV.int IntKind.u64 (↑(t >>> j).toNat : Int)) (H.mk [] [] [])), Ans.o (Orc.val (51 : Nat) (AV.int IntKind.u64 (1 : Int)) (H.mk [] [] [])), Ans.o Orc.dflt, Ans.o (Orc.val (55 : Nat) (AV.int IntKind.u64 (↑(BitVec.toNat (t &&& ~~~wt_ w j)) : Int)) (H.mk [] [] [])), Ans.o (Orc.val (57 : Nat) (I (↑(m + (1 : Nat)) : Int)) (H.mk [] [] []))], fun u => of_eq ((↑j : Int) < (↑w.length : Int) ∧ aIndexAddr Tryd.prog (66 : Nat) (AV.sl (u64s w) w.length r) (I (↑j : Int)) = some (AV.cptr (u64s (List.drop j w))) ∧ aLoad Tryd.prog (71 : Nat) (u64s (List.drop j w)) = some (AV.int IntKind.u64 (↑(BitVec.toNat (w.getD j w0)) : Int)) ∧ aBin Tryd.prog BinOp.shr (71 : Nat) (AV.int IntKind.u64 (↑(BitVec.toNat t) : Int)) (I (↑j : Int)) = some (AV.int IntKind.u64 (↑(t >>> j).toNat : Int)) ∧ aBin Tryd.prog BinOp.and (71 : Nat) (AV.int IntKind.u64 (↑(t >>> j).toNat : Int)) (AV.int IntKind.u64 (1 : Int)) = some (AV.int IntKind.u64 (1 : Int)) ∧ aBin Tryd.prog BinOp.andNot (71 : Nat) (AV.int IntKind.u64 (↑(BitVec.toNat t) : Int)) (AV.int IntKind.u64 (↑(BitVec.toNat (w.getD j w0)) : Int)) = some (AV.int IntKind.u64 (↑(BitVec.toNat (t &&& ~~~wt_ w j)) : Int)) ∧ aBin Tryd.prog BinOp.add (3 : Nat) (I (↑m : Int)) (I (1 : Int)) = some (I (↑(m + (1 : Nat)) : Int)) ∧ IntKind.i64.wrap ((↑j : Int) + (1 : Int)) = (↑j : Int) + (1 : Int) ∧ (81 : Nat) = (81 : Nat) ∧ j < w.length ∧ Keep (∃ t_1 m_1, m_1 ≤ (64 : Nat) ∧ H.mk [] [] [] = H.mk [] [] [] ∧ [AV.int IntKind.u64 (↑(BitVec.toNat (t &&& ~~~wt_ w j)) : Int), I (↑(m + (1 : Nat)) : Int), AV.sl (u64s w) w.length r, I (↑w.length : Int), I ((↑j : Int) + (1 : Int))] = [AV.int IntKind.u64 (↑(BitVec.toNat t_1) : Int), I (↑m_1 : Int), AV.sl (u64s w) w.length r, I (↑w.length : Int), I (↑(j + (1 : Nat)) : Int)] ∧ m_1 + msV w t_1 = msV w s ∧ m_1 ≤ j + (1 : Nat) ∧ ∀ (k : Nat), BitVec.getLsbD t_1 k = true → BitVec.getLsbD s k = true ∧ j + (1 : Nat) ≤ k)) (by kernel_rfl) ?_⟩
      refine And.intro (by first | with_reducible assumption | omega | assumption) ?_
      refine And.intro (by first | exact ix_u64s (by kernel_rfl) (by omega) (by assumption) | exact ix_u64s (by kernel_rfl) (by omega) (rok_idx (by assumption) (by omega))) ?_
      refine And.intro (by first | exact ld_u64s (by kernel_rfl) (by kernel_rfl) (by omega) | exact ldm_u64s (by kernel_rfl) (by kernel_rfl) (by first | omega | (simp; omega))) ?_
      refine And.intro (by first | exact told_shr (by omega) (by with_reducible assumption) | exact told_shr (by omega) rfl) ?_
      refine And.intro (by exact told_and (by with_reducible assumption)) ?_
      refine And.intro (by exact told_andn (by with_reducible assumption)) ?_
      refine And.intro (by exact told_add (by with_reducible assumption)) ?_
      refine And.intro (by exact wr _ (by omega) (by omega)) ?_
      refine And.intro (by first | with_reducible assumption | omega | assumption) ?_
      refine And.intro (by first | with_reducible assumption | omega | assumption) ?_
      exact ⟨_, m + 1, by omega, rfl, rfl, k1, by omega, k3⟩
  · have hz : (w.length : Int) ≤ j := by omega
    have ht : t = 0#64 := Classical.byContradiction fun hne => by
      obtain ⟨k, _, hk⟩ := w_some hne
      obtain ⟨a, b⟩ := h3 k hk
      have := hs k a
      omega
    have he : m = msV w s := by rw [ht, msV_0] at h1; omega
    subst he
    refine ⟨[Ans.o (Orc.b false)], fun u => of_eq ((↑w.length : Int) ≤ (↑j : Int) ∧ (81 : Nat) = (81 : Nat) ∧ hits [Out.mk Unit (AX.exit (4 : Nat)) [(5 : Nat)] (fun x => True) (fun x => [I (↑(msV w s) : Int)]) (fun x => H.nil) fun x => []] (AX.exit (4 : Nat)) [u (0 : Nat), AV.int IntKind.u64 (↑(BitVec.toNat t) : Int), u (2 : Nat), u (3 : Nat), u (4 : Nat), I (↑(msV w s) : Int), u (6 : Nat), u (7 : Nat), u (8 : Nat), u (9 : Nat), u (10 : Nat), u (11 : Nat), u (12 : Nat), u (13 : Nat), u (14 : Nat), u (15 : Nat), u (16 : Nat), u (17 : Nat), u (18 : Nat), u (19 : Nat), u (20 : Nat), u (21 : Nat), u (22 : Nat), u (23 : Nat), u (24 : Nat), u (25 : Nat), u (26 : Nat), u (27 : Nat), u (28 : Nat), u (29 : Nat), u (30 : Nat), u (31 : Nat), u (32 : Nat), u (33 : Nat), u (34 : Nat), u (35 : Nat), u (36 : Nat), u (37 : Nat), u (38 : Nat), u (39 : Nat), u (40 : Nat), AV.sl (u64s w) w.length r, I (↑w.length : Int), I (↑j : Int), AV.bool false, u (45 : Nat), u (46 : Nat), u (47 : Nat), u (48 : Nat), u (49 : Nat), u (50 : Nat), u (51 : Nat), u (52 : Nat), u (53 : Nat), u (54 : Nat), u (55 : Nat), u (56 : Nat), u (57 : Nat), u (58 : Nat), u (59 : Nat), u (60 : Nat), u (61 : Nat), u (62 : Nat), u (63 : Nat), u (64 : Nat), u (65 : Nat), u (66 : Nat), u (67 : Nat), u (68 : Nat), u (69 : Nat), u (70 : Nat), u (71 : Nat), u (72 : Nat), u (73 : Nat), u (74 : Nat), u (75 : Nat), u (76 : Nat), u (77 : Nat), u (78 : Nat), u (79 : Nat), u (80 : Nat)] (H.mk [] [] [])) (by kernel_rfl) ?_⟩
    refine And.intro (by first | with_reducible assumption | omega | assumption) ?_
    refine And.intro (by first | with_reducible assumption | omega | assumption) ?_
    exact .inl ⟨(), trivial, rfl, rfl, rfl⟩
abbrev o66 (w : List W) (s : W) : List Out :=
  [.mk Unit .ret [4] (fun _ => True) (fun _ => [I (msV w s : Nat)]) (fun _ => .nil) (fun _ => []), .mk Unit (.exit 0) [5] (fun _ => msV w s = 0) (fun _ => [I 0]) (fun _ => .nil) (fun _ => [])]
theorem simp66 : allSimpleM none1 (loopAt Tryd.f66 0) = true := by kernel_rfl
theorem ms_cl_le {w : List W} (hg : gsW w) {s : W} (hs : sub s w.length) {i : Nat} (hi : s.getLsbD i = true) : 1 + msV w (s &&& ~~~wt_ w i) ≤ msV w s := by
  rw [ms_br hg hs hi]; omega
theorem i_add0 {a b : Nat} (ha : a ≤ 64) (hb : b ≤ 64) : IntKind.i64.wrap (0 + pick2 true (a : Int) (b : Int)) = ((max a b : Nat) : Int) := by
  rw [mx_nat, Int.zero_add]; exact i_wrap (by omega)
theorem lp66 (n : Nat) (ih : C66ok n) (w : List W) (r : Room) (s : W) (h0 : w66 w r s) (hn : (bits s).length < n + 1) :
    LoopS (En6 [c93.to, (C66 n ih).to]) (loopAt Tryd.f66 0) 81 [0, 1, 5] [ws w r, u64A s, I 0] .nil (o66 w s) := by
  have hR : Rests (En6 [c93.to, (C66 n ih).to]) none1 := rests mixed (.pure _ (.pure _ .nil))
  obtain ⟨⟨hr, hg⟩, hs⟩ := h0
  have h64 := hg.1.1.2
  refine loop_s hR simp66 none (by intro _ h; cases h) (fun j vs h => h = .nil ∧ vs = [ws w r, u64A s, I 0]) 1 ⟨rfl, rfl⟩ (by intro _ h; cases h) ?_
  rintro j vs h hj ⟨rfl, rfl⟩
  by_cases hz : s = 0#64
  · have hu : (s.toNat : Int) = 0 := (w_eq0 s).2 hz
    have hm : msV w s = 0 := by rw [hz]; exact msV_0 w
    refine ⟨[Ans.o (Orc.b false)], fun u => of_eq ((↑(BitVec.toNat s) : Int) = (0 : Int) ∧ (81 : Nat) = (81 : Nat) ∧ hits [Out.mk Unit AX.ret [(4 : Nat)] (fun x => True) (fun x => [I (↑(msV w s) : Int)]) (fun x => H.nil) fun x => [], Out.mk Unit (AX.exit (0 : Nat)) [(5 : Nat)] (fun x => msV w s = (0 : Nat)) (fun x => [I (0 : Int)]) (fun x => H.nil) fun x => []] (AX.exit (0 : Nat)) [AV.sl (u64s w) w.length r, AV.int IntKind.u64 (↑(BitVec.toNat s) : Int), u (2 : Nat), u (3 : Nat), u (4 : Nat), I (0 : Int), u (6 : Nat), u (7 : Nat), u (8 : Nat), u (9 : Nat), u (10 : Nat), u (11 : Nat), u (12 : Nat), u (13 : Nat), u (14 : Nat), AV.int IntKind.u64 (↑(BitVec.toNat s) : Int), AV.bool false, u (17 : Nat), u (18 : Nat), u (19 : Nat), u (20 : Nat), u (21 : Nat), u (22 : Nat), u (23 : Nat), u (24 : Nat), u (25 : Nat), u (26 : Nat), u (27 : Nat), u (28 : Nat), u (29 : Nat), u (30 : Nat), u (31 : Nat), u (32 : Nat), u (33 : Nat), u (34 : Nat), u (35 : Nat), u (36 : Nat), u (37 : Nat), u (38 : Nat), u (39 : Nat), u (40 : Nat), u (41 : Nat), u (42 : Nat), u (43 : Nat), u (44 : Nat), u (45 : Nat), u (46 : Nat), u (47 : Nat), u (48 : Nat), u (49 : Nat), u (50 : Nat), u (51 : Nat), u (52 : Nat), u (53 : Nat), u (54 : Nat), u (55 : Nat), u (56 : Nat), u (57 : Nat), u (58 : Nat), u (59 : Nat), u (60 : Nat), u (61 : Nat), u (62 : Nat), u (63 : Nat), u (64 : Nat), u (65 : Nat), u (66 : Nat), u (67 : Nat), u (68 : Nat), u (69 : Nat), u (70 : Nat), u (71 : Nat), u (72 : Nat), u (73 : Nat), u (74 : Nat), u (75 : Nat), u (76 : Nat), u (77 : Nat), u (78 : Nat), u (79 : Nat), u (80 : Nat)] (H.mk [] [] [])) (by kernel_rfl) ?_⟩
    refine And.intro (by first | with_reducible assumption | omega | assumption) ?_
    refine And.intro (by first | with_reducible assumption | omega | assumption) ?_
    exact .inr (.inl ⟨(), hm, rfl, rfl, rfl⟩)
  · have hu : (s.toNat : Int) ≠ 0 := fun h => hz ((w_eq0 s).1 h)
    obtain ⟨b1, b2⟩ := wbF_ok w s w.length
    have lpa := lp66a n ih w r s hr h64
    simp only [o66a] at lpa
    generalize hW : wbF w s w.length = W0 at b1 b2 lpa
    obtain ⟨wo, be⟩ := W0
    simp only at b1 b2 lpa
    by_cases c : be ≤ 2
    · have c' : (be : Int) ≤ 2 := by omega
      refine ⟨[Ans.o (Orc.b true), Ans.loop [(0 : Nat), (1 : Nat), (5 : Nat), (6 : Nat), (7 : Nat), (17 : Nat), (18 : Nat), (19 : Nat)] [Out.mk Unit (AX.exit (2 : Nat)) [(0 : Nat), (1 : Nat), (5 : Nat), (6 : Nat), (7 : Nat)] (fun x => True) (fun x => [ws w r, u64A s, I (0 : Int), I wo, I (↑be : Int)]) (fun x => H.nil) fun y => [Ans.o (Orc.b true), Ans.loop [(1 : Nat), (5 : Nat), (41 : Nat), (42 : Nat), (43 : Nat)] [Out.mk Unit (AX.exit (4 : Nat)) [(5 : Nat)] (fun x => True) (fun x => [I (↑(msV w s) : Int)]) (fun x => H.nil) fun y => []]]]], fun u => of_eq ((↑(BitVec.toNat s) : Int) ≠ (0 : Int) ∧ LoopS (Env.mk Tryd.prog (Sof [c93.to, (C66 n ih).to]) (Pof (P := Tryd.prog) []) H.nil.base (300 : Nat)) (loopAt Tryd.f66 (1 : Nat)) (81 : Nat) [(0 : Nat), (1 : Nat), (5 : Nat), (6 : Nat), (7 : Nat), (17 : Nat), (18 : Nat), (19 : Nat)] [AV.sl (u64s w) w.length r, AV.int IntKind.u64 (↑(BitVec.toNat s) : Int), I (0 : Int), I (-1 : Int), I (0 : Int), AV.sl (u64s w) w.length r, I (↑w.length : Int), I (0 : Int)] (H.mk [] [] []) [Out.mk Unit (AX.exit (2 : Nat)) [(0 : Nat), (1 : Nat), (5 : Nat), (6 : Nat), (7 : Nat)] (fun x => True) (fun x => [ws w r, u64A s, I (0 : Int), I wo, I (↑be : Int)]) (fun x => H.nil) fun y => [Ans.o (Orc.b true), Ans.loop [(1 : Nat), (5 : Nat), (41 : Nat), (42 : Nat), (43 : Nat)] [Out.mk Unit (AX.exit (4 : Nat)) [(5 : Nat)] (fun x => True) (fun x => [I (↑(msV w s) : Int)]) (fun x => H.nil) fun y => []]]] ∧ (∀ (y : Unit), True → ∀ (u : Nat → AV), (↑be : Int) ≤ (2 : Int) ∧ LoopS (Env.mk Tryd.prog (Sof [c93.to, (C66 n ih).to]) (Pof (P := Tryd.prog) []) H.nil.base (300 : Nat)) (loopAt Tryd.f66 (2 : Nat)) (81 : Nat) [(1 : Nat), (5 : Nat), (41 : Nat), (42 : Nat), (43 : Nat)] [AV.int IntKind.u64 (↑(BitVec.toNat s) : Int), I (0 : Int), AV.sl (u64s w) w.length r, I (↑w.length : Int), I (0 : Int)] (H.mk [] [] []) [Out.mk Unit (AX.exit (4 : Nat)) [(5 : Nat)] (fun x => True) (fun x => [I (↑(msV w s) : Int)]) (fun x => H.nil) fun y => []] ∧ (∀ (y : Unit), True → ∀ (u : Nat → AV), (81 : Nat) = (81 : Nat) ∧ hits [Out.mk Unit AX.ret [(4 : Nat)] (fun x => True) (fun x => [I (↑(msV w s) : Int)]) (fun x => H.nil) fun x => [], Out.mk Unit (AX.exit (0 : Nat)) [(5 : Nat)] (fun x => msV w s = (0 : Nat)) (fun x => [I (0 : Int)]) (fun x => H.nil) fun x => []] AX.ret [u (0 : Nat), u (1 : Nat), u (2 : Nat), u (3 : Nat), I (↑(msV w s) : Int), I (↑(msV w s) : Int), u (6 : Nat), u (7 : Nat), u (8 : Nat), u (9 : Nat), u (10 : Nat), u (11 : Nat), u (12 : Nat), u (13 : Nat), u (14 : Nat), u (15 : Nat), u (16 : Nat), u (17 : Nat), u (18 : Nat), u (19 : Nat), u (20 : Nat), u (21 : Nat), u (22 : Nat), u (23 : Nat), u (24 : Nat), u (25 : Nat), u (26 : Nat), u (27 : Nat), u (28 : Nat), u (29 : Nat), u (30 : Nat), u (31 : Nat), u (32 : Nat), u (33 : Nat), u (34 : Nat), u (35 : Nat), u (36 : Nat), u (37 : Nat), u (38 : Nat), u (39 : Nat), u (40 : Nat), u (41 : Nat), u (42 : Nat), u (43 : Nat), u (44 : Nat), u (45 : Nat), u (46 : Nat), u (47 : Nat), u (48 : Nat), u (49 : Nat), u (50 : Nat), u (51 : Nat), u (52 : Nat), u (53 : Nat), u (54 : Nat), u (55 : Nat), u (56 : Nat), u (57 : Nat), u (58 : Nat), I (↑(msV w s) : Int), u (60 : Nat), u (61 : Nat), u (62 : Nat), u (63 : Nat), u (64 : Nat), u (65 : Nat), u (66 : Nat), u (67 : Nat), u (68 : Nat), u (69 : Nat), u (70 : Nat), u (71 : Nat), u (72 : Nat), u (73 : Nat), u (74 : Nat), u (75 : Nat), u (76 : Nat), u (77 : Nat), u (78 : Nat), u (79 : Nat), u (80 : Nat)] (H.mk [] [] [])) ∧ True) ∧ True) (by kernel_rfl) ?_⟩
      refine And.intro (by first | with_reducible assumption | omega | assumption) ?_
      refine And.intro (by exact lpa) ?_
      refine And.intro ?_ ?_
      · skip
        intro y
        intro w1
        intro u
        refine And.intro (by first | with_reducible assumption | omega | assumption) ?_
        refine And.intro (by exact lp66b n ih w r s hr hg hs (fun i hi hb => Nat.le_trans (b1 i hi hb) c)) ?_
        refine And.intro ?_ ?_
        · skip
          intro y
          intro w4
          intro u
          refine And.intro (by first | with_reducible assumption | omega | assumption) ?_
          exact .inl ⟨(), trivial, rfl, rfl, rfl⟩
        · skip
          trivial
      · skip
        trivial
    · have c' : (2 : Int) < (be : Int) := by omega
      obtain ⟨i, e, hi, hsi⟩ : ∃ i : Nat, wo = i ∧ i < w.length ∧ s.getLsbD i = true := by
        rcases b2 with b2 | b2
        · omega
        · exact b2
      subst e
      have h6 := bit_lt hsi
      have hr' := rok_idx hr hi
      have ev0 := w_one (n := i) (by omega)
      have ev1 := w_andn s (1#64 <<< i)
      have ev2 := w_andn s (wt_ w i)
      have ev3 := i_add1 (msV_le w (s &&& ~~~wt_ w i))
      have ev4 := i_add0 (a := 1 + msV w (s &&& ~~~wt_ w i)) (b := msV w (s &&& ~~~(1#64 <<< i))) (by
        have := ms_cl_le hg hs hsi
        have := msV_le w s
        omega) (msV_le _ _)
      have hbr := ms_br hg hs hsi
      rw [← hbr] at ev4
      have l1 := andn_lt hsi (hg.1.2.2.2 i hi)
      have l2 := andn_lt (a := 1#64 <<< i) hsi (by rw [one_bit h6]; simp)
      have p1 : w66 w r (s &&& ~~~wt_ w i) ∧ (bits (s &&& ~~~wt_ w i)).length < n := ⟨⟨⟨hr, hg⟩, sub_andn hs⟩, by omega⟩
      have p2 : w66 w r (s &&& ~~~(1#64 <<< i)) ∧ (bits (s &&& ~~~(1#64 <<< i))).length < n := ⟨⟨⟨hr, hg⟩, sub_andn hs⟩, by omega⟩
      refine ⟨[Ans.o (Orc.b true), Ans.loop [(0 : Nat), (1 : Nat), (5 : Nat), (6 : Nat), (7 : Nat), (17 : Nat), (18 : Nat), (19 : Nat)] [Out.mk Unit (AX.exit (2 : Nat)) [(0 : Nat), (1 : Nat), (5 : Nat), (6 : Nat), (7 : Nat)] (fun x => True) (fun x => [ws w r, u64A s, I (0 : Int), I (↑i : Int), I (↑be : Int)]) (fun x => H.nil) fun y => [Ans.o (Orc.b false), Ans.o (Orc.val (63 : Nat) (AV.int IntKind.u64 (↑(BitVec.ofNat (64 : Nat) (1 : Nat) <<< i).toNat : Int)) (H.mk [] [] [])), Ans.o (Orc.val (64 : Nat) (AV.int IntKind.u64 (↑(BitVec.toNat (s &&& ~~~(BitVec.ofNat (64 : Nat) (1 : Nat) <<< i))) : Int)) (H.mk [] [] [])), Ans.o (Orc.val (65 : Nat) (I (↑(msV w (s &&& ~~~(BitVec.ofNat (64 : Nat) (1 : Nat) <<< i))) : Int)) (H.mk [] [] [])), Ans.o (Orc.val (70 : Nat) (AV.cptr (u64s (List.drop i w))) (H.mk [] [] [])), Ans.o (Orc.val (71 : Nat) (AV.int IntKind.u64 (↑(BitVec.toNat (w.getD i w0)) : Int)) (H.mk [] [] [])), Ans.o (Orc.val (72 : Nat) (AV.int IntKind.u64 (↑(BitVec.toNat (s &&& ~~~wt_ w i)) : Int)) (H.mk [] [] [])), Ans.o (Orc.val (73 : Nat) (I (↑(msV w (s &&& ~~~wt_ w i)) : Int)) (H.mk [] [] [])), Ans.o (Orc.val (74 : Nat) (I (↑((1 : Nat) + msV w (s &&& ~~~wt_ w i)) : Int)) (H.mk [] [] [])), Ans.o (Orc.val (79 : Nat) (I (↑(msV w s) : Int)) (H.mk [] [] []))]]], fun u => of_eq ((↑(BitVec.toNat s) : Int) ≠ (0 : Int) ∧ LoopS (Env.mk Tryd.prog (Sof [c93.to, (C66 n ih).to]) (Pof (P := Tryd.prog) []) H.nil.base (300 : Nat)) (loopAt Tryd.f66 (1 : Nat)) (81 : Nat) [(0 : Nat), (1 : Nat), (5 : Nat), (6 : Nat), (7 : Nat), (17 : Nat), (18 : Nat), (19 : Nat)] [AV.sl (u64s w) w.length r, AV.int IntKind.u64 (↑(BitVec.toNat s) : Int), I (0 : Int), I (-1 : Int), I (0 : Int), AV.sl (u64s w) w.length r, I (↑w.length : Int), I (0 : Int)] (H.mk [] [] []) [Out.mk Unit (AX.exit (2 : Nat)) [(0 : Nat), (1 : Nat), (5 : Nat), (6 : Nat), (7 : Nat)] (fun x => True) (fun x => [ws w r, u64A s, I (0 : Int), I (↑i : Int), I (↑be : Int)]) (fun x => H.nil) fun y => [Ans.o (Orc.b false), Ans.o (Orc.val (63 : Nat) (AV.int IntKind.u64 (↑(BitVec.ofNat (64 : Nat) (1 : Nat) <<< i).toNat : Int)) (H.mk [] [] [])), Ans.o (Orc.val (64 : Nat) (AV.int IntKind.u64 (↑(BitVec.toNat (s &&& ~~~(BitVec.ofNat (64 : Nat) (1 : Nat) <<< i))) : Int)) (H.mk [] [] [])), Ans.o (Orc.val (65 : Nat) (I (↑(msV w (s &&& ~~~(BitVec.ofNat (64 : Nat) (1 : Nat) <<< i))) : Int)) (H.mk [] [] [])), Ans.o (Orc.val (70 : Nat) (AV.cptr (u64s (List.drop i w))) (H.mk [] [] [])), Ans.o (Orc.val (71 : Nat) (AV.int IntKind.u64 (↑(BitVec.toNat (w.getD i w0)) : Int)) (H.mk [] [] [])), Ans.o (Orc.val (72 : Nat) (AV.int IntKind.u64 (↑(BitVec.toNat (s &&& ~~~wt_ w i)) : Int)) (H.mk [] [] [])), Ans.o (Orc.val (73 : Nat) (I (↑(msV w (s &&& ~~~wt_ w i)) : Int)) (H.mk [] [] [])), Ans.o (Orc.val (74 : Nat) (I (↑((1 : Nat) + msV w (s &&& ~~~wt_ w i)) : Int)) (H.mk [] [] [])), Ans.o (Orc.val (79 : Nat) (I (↑(msV w s) : Int)) (H.mk [] [] []))]] ∧ (∀ (y : Unit), True → ∀ (u : Nat → AV), (2 : Int) < (↑be : Int) ∧ aBin Tryd.prog BinOp.shl (71 : Nat) (AV.int IntKind.u64 (1 : Int)) (I (↑i : Int)) = some (AV.int IntKind.u64 (↑(BitVec.ofNat (64 : Nat) (1 : Nat) <<< i).toNat : Int)) ∧ aBin Tryd.prog BinOp.andNot (71 : Nat) (AV.int IntKind.u64 (↑(BitVec.toNat s) : Int)) (AV.int IntKind.u64 (↑(BitVec.ofNat (64 : Nat) (1 : Nat) <<< i).toNat : Int)) = some (AV.int IntKind.u64 (↑(BitVec.toNat (s &&& ~~~(BitVec.ofNat (64 : Nat) (1 : Nat) <<< i))) : Int)) ∧ aCall (Sof [c93.to, (C66 n ih).to]) (AV.fn (Fn.func (66 : Nat)) [] []) [AV.sl (u64s w) w.length r, AV.int IntKind.u64 (↑(BitVec.toNat (s &&& ~~~(BitVec.ofNat (64 : Nat) (1 : Nat) <<< i))) : Int)] (H.mk [] [] []) = some (I (↑(msV w (s &&& ~~~(BitVec.ofNat (64 : Nat) (1 : Nat) <<< i))) : Int), H.mk [] [] []) ∧ aIndexAddr Tryd.prog (66 : Nat) (AV.sl (u64s w) w.length r) (I (↑i : Int)) = some (AV.cptr (u64s (List.drop i w))) ∧ aLoad Tryd.prog (71 : Nat) (u64s (List.drop i w)) = some (AV.int IntKind.u64 (↑(BitVec.toNat (w.getD i w0)) : Int)) ∧ aBin Tryd.prog BinOp.andNot (71 : Nat) (AV.int IntKind.u64 (↑(BitVec.toNat s) : Int)) (AV.int IntKind.u64 (↑(BitVec.toNat (w.getD i w0)) : Int)) = some (AV.int IntKind.u64 (↑(BitVec.toNat (s &&& ~~~wt_ w i)) : Int)) ∧ aCall (Sof [c93.to, (C66 n ih).to]) (AV.fn (Fn.func (66 : Nat)) [] []) [AV.sl (u64s w) w.length r, AV.int IntKind.u64 (↑(BitVec.toNat (s &&& ~~~wt_ w i)) : Int)] (H.mk [] [] []) = some (I (↑(msV w (s &&& ~~~wt_ w i)) : Int), H.mk [] [] []) ∧ aBin Tryd.prog BinOp.add (3 : Nat) (I (1 : Int)) (I (↑(msV w (s &&& ~~~wt_ w i)) : Int)) = some (I (↑((1 : Nat) + msV w (s &&& ~~~wt_ w i)) : Int)) ∧ aBin Tryd.prog BinOp.add (3 : Nat) (I (0 : Int)) (I (pick2 true (↑((1 : Nat) + msV w (s &&& ~~~wt_ w i)) : Int) (↑(msV w (s &&& ~~~(BitVec.ofNat (64 : Nat) (1 : Nat) <<< i))) : Int))) = some (I (↑(msV w s) : Int)) ∧ (81 : Nat) = (81 : Nat) ∧ hits [Out.mk Unit AX.ret [(4 : Nat)] (fun x => True) (fun x => [I (↑(msV w s) : Int)]) (fun x => H.nil) fun x => [], Out.mk Unit (AX.exit (0 : Nat)) [(5 : Nat)] (fun x => msV w s = (0 : Nat)) (fun x => [I (0 : Int)]) (fun x => H.nil) fun x => []] AX.ret [AV.sl (u64s w) w.length r, AV.int IntKind.u64 (↑(BitVec.toNat s) : Int), u (2 : Nat), u (3 : Nat), I (↑(msV w s) : Int), I (0 : Int), I (↑i : Int), I (↑be : Int), u (8 : Nat), u (9 : Nat), u (10 : Nat), u (11 : Nat), u (12 : Nat), I (↑(msV w (s &&& ~~~(BitVec.ofNat (64 : Nat) (1 : Nat) <<< i))) : Int), I (↑((1 : Nat) + msV w (s &&& ~~~wt_ w i)) : Int), u (15 : Nat), u (16 : Nat), u (17 : Nat), u (18 : Nat), u (19 : Nat), u (20 : Nat), u (21 : Nat), u (22 : Nat), u (23 : Nat), u (24 : Nat), u (25 : Nat), u (26 : Nat), u (27 : Nat), u (28 : Nat), u (29 : Nat), u (30 : Nat), u (31 : Nat), u (32 : Nat), u (33 : Nat), u (34 : Nat), u (35 : Nat), u (36 : Nat), u (37 : Nat), u (38 : Nat), I (↑be : Int), AV.bool false, u (41 : Nat), u (42 : Nat), u (43 : Nat), u (44 : Nat), u (45 : Nat), u (46 : Nat), u (47 : Nat), u (48 : Nat), u (49 : Nat), u (50 : Nat), u (51 : Nat), u (52 : Nat), u (53 : Nat), u (54 : Nat), u (55 : Nat), u (56 : Nat), u (57 : Nat), u (58 : Nat), u (59 : Nat), AV.sl (u64s w) w.length r, AV.int IntKind.u64 (↑(BitVec.toNat s) : Int), I (↑i : Int), AV.int IntKind.u64 (↑(BitVec.ofNat (64 : Nat) (1 : Nat) <<< i).toNat : Int), AV.int IntKind.u64 (↑(BitVec.toNat (s &&& ~~~(BitVec.ofNat (64 : Nat) (1 : Nat) <<< i))) : Int), I (↑(msV w (s &&& ~~~(BitVec.ofNat (64 : Nat) (1 : Nat) <<< i))) : Int), AV.sl (u64s w) w.length r, AV.int IntKind.u64 (↑(BitVec.toNat s) : Int), AV.sl (u64s w) w.length r, I (↑i : Int), AV.cptr (u64s (List.drop i w)), AV.int IntKind.u64 (↑(BitVec.toNat (w.getD i w0)) : Int), AV.int IntKind.u64 (↑(BitVec.toNat (s &&& ~~~wt_ w i)) : Int), I (↑(msV w (s &&& ~~~wt_ w i)) : Int), I (↑((1 : Nat) + msV w (s &&& ~~~wt_ w i)) : Int), I (0 : Int), I (↑((1 : Nat) + msV w (s &&& ~~~wt_ w i)) : Int), I (↑(msV w (s &&& ~~~(BitVec.ofNat (64 : Nat) (1 : Nat) <<< i))) : Int), I (pick2 true (↑((1 : Nat) + msV w (s &&& ~~~wt_ w i)) : Int) (↑(msV w (s &&& ~~~(BitVec.ofNat (64 : Nat) (1 : Nat) <<< i))) : Int)), I (↑(msV w s) : Int), u (80 : Nat)] (H.mk [] [] [])) ∧ True) (by kernel_rfl) ?_⟩
      refine And.intro (by first | with_reducible assumption | omega | assumption) ?_
      refine And.intro (by exact lpa) ?_
      refine And.intro ?_ ?_
      · skip
        intro y
        intro w1
        intro u
        refine And.intro (by first | with_reducible assumption | omega | assumption) ?_
        refine And.intro (by first | exact told_shl (by omega) (by with_reducible assumption) | exact told_shl (by omega) rfl) ?_
        refine And.intro (by exact told_andn (by with_reducible assumption)) ?_
        refine And.intro (by first | exact acall_hit (c := (C66 n ih).to) (w, r, s &&& ~~~wt_ w i) _ rfl p1 | exact acall_hit (c := (C66 n ih).to) (w, r, s &&& ~~~(1#64 <<< i)) _ rfl p2) ?_
        refine And.intro (by first | exact ix_u64s (by kernel_rfl) (by omega) (by assumption) | exact ix_u64s (by kernel_rfl) (by omega) (rok_idx (by assumption) (by omega))) ?_
        refine And.intro (by first | exact ld_u64s (by kernel_rfl) (by kernel_rfl) (by omega) | exact ldm_u64s (by kernel_rfl) (by kernel_rfl) (by first | omega | (simp; omega))) ?_
        refine And.intro (by exact told_andn (by with_reducible assumption)) ?_
        refine And.intro (by first | exact acall_hit (c := (C66 n ih).to) (w, r, s &&& ~~~wt_ w i) _ rfl p1 | exact acall_hit (c := (C66 n ih).to) (w, r, s &&& ~~~(1#64 <<< i)) _ rfl p2) ?_
        refine And.intro (by exact told_add (by with_reducible assumption)) ?_
        refine And.intro (by exact told_add (by with_reducible assumption)) ?_
        refine And.intro (by first | with_reducible assumption | omega | assumption) ?_
        exact .inl ⟨(), trivial, rfl, rfl, rfl⟩
      · skip
        trivial
theorem r66 (n : Nat) (ih : C66ok n) (w : List W) (r : Room) (s : W) (hp : w66 w r s ∧ (bits s).length < n + 1) : Body (En6 [c93.to, (C66 n ih).to]) none1 Tryd.f66 [ws w r, u64A s] .nil (I (msV w s : Nat), .nil) := by
  refine body_s ([Ans.loop [(0 : Nat), (1 : Nat), (5 : Nat)] [Out.mk Unit AX.ret [(4 : Nat)] (fun x => True) (fun x => [I (↑(msV w s) : Int)]) (fun x => H.nil) fun y => [], Out.mk Unit (AX.exit (0 : Nat)) [(5 : Nat)] (fun x => msV w s = (0 : Nat)) (fun x => [I (0 : Int)]) (fun x => H.nil) fun y => []]]) (LoopS (Env.mk Tryd.prog (Sof [c93.to, (C66 n ih).to]) (Pof (P := Tryd.prog) []) H.nil.base (300 : Nat)) (loopAt Tryd.f66 (0 : Nat)) (81 : Nat) [(0 : Nat), (1 : Nat), (5 : Nat)] [AV.sl (u64s w) w.length r, AV.int IntKind.u64 (↑(BitVec.toNat s) : Int), I (0 : Int)] (H.mk [] [] []) [Out.mk Unit AX.ret [(4 : Nat)] (fun x => True) (fun x => [I (↑(msV w s) : Int)]) (fun x => H.nil) fun y => [], Out.mk Unit (AX.exit (0 : Nat)) [(5 : Nat)] (fun x => msV w s = (0 : Nat)) (fun x => [I (0 : Int)]) (fun x => H.nil) fun y => []] ∧ (∀ (y : Unit), True → ∀ (u : Nat → AV), (I (↑(msV w s) : Int), H.mk [] [] []) = (I (↑(msV w s) : Int), H.mk [] [] [])) ∧ (∀ (y : Unit), msV w s = (0 : Nat) → ∀ (u : Nat → AV), (I (0 : Int), H.mk [] [] []) = (I (↑(msV w s) : Int), H.mk [] [] [])) ∧ True) (by kernel_rfl) ?_
  refine And.intro (by exact lp66 n ih w r s hp.1 hp.2) ?_
  refine And.intro ?_ ?_
  · skip
    intro y
    intro w1
    intro u
    first | rfl | (rw [(by with_reducible assumption : msV w s = 0)]; rfl)
  · skip
    refine And.intro ?_ ?_
    · skip
      intro y
      intro w1
      intro u
      first | rfl | (rw [(by with_reducible assumption : msV w s = 0)]; rfl)
    · skip
      trivial
theorem C66_all : ∀ n, C66ok n
  | 0 => fun _ _ _ hp => absurd hp.2 (Nat.not_lt_zero _)
  | n + 1 => fun w r s hp => (r66 n (C66_all n) w r s hp).run ok66 (.pure _ (.pure _ .nil)) rfl
noncomputable def c66 : PCtr Tryd.prog where
  f := 66
  X := List W × Room × W
  args q := [ws q.1 q.2.1, u64A q.2.2]
  pre q := w66 q.1 q.2.1 q.2.2
  v q := I (msV q.1 q.2.2 : Nat)
  det := by
    rintro ⟨w, r, s⟩ ⟨w', r', s'⟩ e _ _
    simp at e
    simp [e]
  ok := by
    rintro ⟨w, r, s⟩ h
    exact (C66 65 (C66_all 65)).ok (w, r, s) ⟨h, by have := bits_len s; show (bits s).length < 65; omega⟩
end Go.Proofs.Sur
