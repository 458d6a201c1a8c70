/- Layer 4: what areTold comes to. -/
import Derived.Test.YtdnidpojcocklaaDoorLnBf
import Derived.Test.YtdnidpojcocklaaDoorVm8
import Derived.KernelRfl
set_option linter.unusedSimpArgs false
set_option linter.unusedVariables false
set_option linter.unnecessarySimpa false
set_option maxHeartbeats 4000000
set_option maxRecDepth 100000
namespace Go.Proofs.Lrn
open Go Go.VM
/-- the links, one behind the other -/
def nx (l : List Tri) (i : Nat) : Int := if i % 2 = 0 then (nd l (i / 2)).2.1 else (nd l (i / 2)).2.2
theorem nx_0 (l : List Tri) (j : Nat) : nx l (2 * j) = (nd l j).2.1 := by
  rw [nx, if_pos (by omega), show 2 * j / 2 = j by omega]
theorem nx_1 (l : List Tri) (j : Nat) : nx l (2 * j + 1) = (nd l j).2.2 := by
  rw [nx, if_neg (by omega), show (2 * j + 1) / 2 = j by omega]
/-- a link that is an end, or a greater place that was not told before -/
def okN (l : List Tri) (i : Nat) : Prop := nx l i = -1 ∨ (((i / 2 : Nat) : Int) < nx l i ∧ nx l i < (l.length : Int) ∧ ∀ k, k < i → nx l k ≠ nx l i)
abbrev tdA (l : List Tri) : Prop := ∀ i, i < 2 * l.length → okN l i
open Classical in
noncomputable def tdB (l : List Tri) (k : Nat) : List Bool := (List.range l.length).map fun (j : Nat) => decide (∃ i, i < k ∧ nx l i = ((j : Nat) : Int))
@[simp] theorem tdB_len (l : List Tri) (k : Nat) : (tdB l k).length = l.length := by simp [tdB]
theorem tdB_get {l : List Tri} {k j : Nat} (h : j < l.length) : (tdB l k).getD j b0 = true ↔ ∃ i, i < k ∧ nx l i = (j : Int) := by
  simp [tdB, List.getD_eq_getElem?_getD, h]
theorem tdB_zero (l : List Tri) : tdB l 0 = List.replicate l.length b0 := by
  apply List.ext_getElem
  · simp
  · intro i h1 h2; simp [tdB]
theorem tdB_end {l : List Tri} {k : Nat} (h : nx l k = -1) : tdB l (k + 1) = tdB l k := by
  apply List.ext_getElem
  · simp
  · intro i h1 h2
    simp only [tdB, List.getElem_map, List.getElem_range]
    apply decide_eq_decide.2
    constructor
    · rintro ⟨q, h3, h4⟩
      by_cases e : q = k
      · subst e; omega
      · exact ⟨q, by omega, h4⟩
    · rintro ⟨q, h3, h4⟩; exact ⟨q, by omega, h4⟩
theorem tdB_set {l : List Tri} {k x : Nat} (h : nx l k = (x : Int)) (hx : x < l.length) : (tdB l k).set x true = tdB l (k + 1) := by
  apply List.ext_getElem
  · simp
  · intro i h1 h2
    rw [List.getElem_set]
    by_cases e : x = i
    · subst e
      rw [if_pos rfl]
      simp only [tdB, List.getElem_map, List.getElem_range]
      exact (decide_eq_true ⟨k, by omega, h⟩).symm
    · rw [if_neg e]
      simp only [tdB, List.getElem_map, List.getElem_range]
      apply decide_eq_decide.2
      constructor
      · rintro ⟨q, h3, h4⟩; exact ⟨q, by omega, h4⟩
      · rintro ⟨q, h3, h4⟩
        by_cases e2 : q = k
        · subst e2; omega
        · exact ⟨q, by omega, h4⟩
abbrev mT (l : List Tri) : AV := .msl 0 0 l.length l.length 1
noncomputable abbrev h61 (l : List Tri) (k : Nat) : H := ⟨[bools (tdB l k)], [], []⟩
noncomputable abbrev h61i (l : List Tri) (x0 x1 x2 : Int) (k : Nat) : H := ⟨[bools (tdB l k), [I x0, I x1, I x2]], [], []⟩
noncomputable abbrev o61i (l : List Tri) (r : Room) (j : Nat) (x0 x1 x2 : Int) : List Out := [.mk Nat .ret [2] (fun _ => ¬ tdA l) (fun _ => [.bool false]) (fun k => h61i l x0 x1 x2 (2 * j + k)) (fun _ => []), .mk Unit (.exit 2) [0, 3, 11, 12, 13] (fun _ => ∀ i, i < 2 * (j + 1) → okN l i) (fun _ => [tS l r, mT l, tS l r, I l.length, I j]) (fun _ => h61i l x0 x1 x2 (2 * j + 2)) (fun _ => [])]
theorem simp61i : allSimpleM none1 (loopAt Tryd.f61 1) = true := by kernel_rfl
theorem lp61i (l : List Tri) (r : Room) (j : Nat) (hl : l.length ≤ 1000) (hj : j < l.length) (x0 x1 x2 : Int) (hn : nd l j = (x0, x1, x2)) (hok : ∀ i, i < 2 * j → okN l i) :
    LoopS (En4 []) (loopAt Tryd.f61 1) 48 [0, 3, 4, 11, 12, 13, 22, 23] [tS l r, mT l, I j, tS l r, I l.length, I j, (.agg [I x1, I x2]), I 0] (h61i l x0 x1 x2 (2 * j + 0)) (o61i l r j x0 x1 x2) := by
  have hR : Rests (En4 []) none1 := rests mixed .nil
  refine loop_s hR simp61i none (by intro _ h; cases h) (fun k vs H => H = h61i l x0 x1 x2 (2 * j + k) ∧ vs = [tS l r, mT l, I j, tS l r, I l.length, I j, (.agg [I x1, I x2]), I k] ∧ ∀ i, i < 2 * j + k → okN l i) 2 ⟨rfl, rfl, fun i hi => hok i (by omega)⟩ (by intro _ h; cases h) ?_
  rintro k vs H hk ⟨rfl, rfl, hq⟩
  have hkk : k = 0 ∨ k = 1 ∨ k = 2 := by omega
  rcases hkk with rfl | rfl | rfl
  · have hk2 : (2 : Int) = 2 := rfl
    have hnx : nx l (2 * j + 0) = x1 := by rw [Nat.add_zero, nx_0, hn]
    have hd2 : (2 * j + 0) / 2 = j := by omega
    by_cases he : x1 = -1
    · have ho : okN l (2 * j + 0) := .inl (by rw [hnx, he])
      have hk1 : tdB l (2 * j + 0) = tdB l (2 * j + 1) := (tdB_end (by rw [hnx, he])).symm
      have hq1 : ∀ i, i < 2 * j + 1 → okN l i := fun i hi => by
        by_cases e : i = 2 * j + 0
        · subst e; exact ho
        · exact hq i (by omega)
      skip
      refine ⟨[Ans.o Orc.dflt, Ans.o (Orc.b true)], fun u => of_eq (x1 = (-1 : Int) ∧ IntKind.i64.wrap (1 : Int) = (1 : Int) ∧ (48 : Nat) = (48 : Nat) ∧ (0 : Nat) < (2 : Nat) ∧ Keep (H.mk [bools (tdB l ((2 : Nat) * j + (0 : Nat))), [I x0, I x1, I x2]] [] [] = H.mk [bools (tdB l ((2 : Nat) * j + (1 : Nat))), [I x0, I x1, I x2]] [] [] ∧ [AV.sl (trisA l) l.length r, AV.msl 0 0 l.length l.length (1 : Nat), I (↑j : Int), AV.sl (trisA l) l.length r, I (↑l.length : Int), I (↑j : Int), AV.agg [I x1, I x2], I 1] = [AV.sl (trisA l) l.length r, AV.msl 0 0 l.length l.length (1 : Nat), I (↑j : Int), AV.sl (trisA l) l.length r, I (↑l.length : Int), I (↑j : Int), AV.agg [I x1, I x2], I 1] ∧ ∀ (i : Nat), i < (2 : Nat) * j + (1 : Nat) → okN l i)) (by kernel_rfl) ?_⟩
      refine ⟨by first | with_reducible assumption | omega | assumption, ?_⟩
      refine ⟨wr _ (by omega) (by omega), ?_⟩
      refine ⟨by first | with_reducible assumption | omega | assumption, ?_⟩
      refine ⟨by first | with_reducible assumption | omega | assumption, ?_⟩
      exact ⟨by rw [hk1], rfl, hq1⟩
    · have he : x1 ≠ -1 := he
      by_cases h1 : x1 ≤ (j : Int)
      · have hno : ¬ okN l (2 * j + 0) := by
          rintro (q | ⟨q, _⟩)
          · rw [hnx] at q; exact he q
          · rw [hnx, hd2] at q; omega
        skip
        refine ⟨[Ans.o Orc.dflt, Ans.o (Orc.b false), Ans.o (Orc.b true)], fun u => of_eq (x1 ≠ (-1 : Int) ∧ x1 ≤ (↑j : Int) ∧ (48 : Nat) = (48 : Nat) ∧ hits [Out.mk Nat AX.ret [(2 : Nat)] (fun x => ¬tdA l) (fun x => [AV.bool false]) (fun k => h61i l x0 x1 x2 ((2 : Nat) * j + k)) fun x => [], Out.mk Unit (AX.exit (2 : Nat)) [(0 : Nat), (3 : Nat), (11 : Nat), (12 : Nat), (13 : Nat)] (fun x => ∀ (i : Nat), i < (2 : Nat) * (j + (1 : Nat)) → okN l i) (fun x => [tS l r, mT l, tS l r, I (↑l.length : Int), I (↑j : Int)]) (fun x => h61i l x0 x1 x2 ((2 : Nat) * j + (2 : Nat))) fun x => []] AX.ret [AV.sl (trisA l) l.length r, u (1 : Nat), AV.bool false, AV.msl 0 0 l.length l.length (1 : Nat), I (↑j : Int), u (5 : Nat), u (6 : Nat), I x1, u (8 : Nat), u (9 : Nat), u (10 : Nat), AV.sl (trisA l) l.length r, I (↑l.length : Int), I (↑j : Int), u (14 : Nat), u (15 : Nat), u (16 : Nat), u (17 : Nat), u (18 : Nat), u (19 : Nat), u (20 : Nat), u (21 : Nat), AV.agg [I x1, I x2], I 0, AV.bool true, I x1, I x1, AV.bool false, I x1, I (↑j : Int), AV.bool true, AV.bool true, AV.tup [], AV.tup [], AV.tup [], AV.tup [], AV.bool true, AV.bool true, AV.tup [], AV.tup [], AV.tup [], AV.tup [], AV.bool true, u (43 : Nat), u (44 : Nat), u (45 : Nat), u (46 : Nat), u (47 : Nat)] (H.mk [bools (tdB l ((2 : Nat) * j + (0 : Nat))), [I x0, I x1, I x2]] [] [])) (by kernel_rfl) ?_⟩
        refine ⟨by first | with_reducible assumption | omega | assumption, ?_⟩
        refine ⟨by first | with_reducible assumption | omega | assumption, ?_⟩
        refine ⟨by first | with_reducible assumption | omega | assumption, ?_⟩
        exact .inl ⟨0, fun w => hno (w _ (by omega)), rfl, rfl, rfl⟩
      · by_cases h2 : (l.length : Int) ≤ x1
        · have h1 : (j : Int) < x1 := by omega
          have hno : ¬ okN l (2 * j + 0) := by
            rintro (q | ⟨_, q, _⟩)
            · rw [hnx] at q; exact he q
            · rw [hnx] at q; omega
          skip
          refine ⟨[Ans.o Orc.dflt, Ans.o (Orc.b false), Ans.o (Orc.b false), Ans.o (Orc.b true)], fun u => of_eq (x1 ≠ (-1 : Int) ∧ (↑j : Int) < x1 ∧ (↑l.length : Int) ≤ x1 ∧ (48 : Nat) = (48 : Nat) ∧ hits [Out.mk Nat AX.ret [(2 : Nat)] (fun x => ¬tdA l) (fun x => [AV.bool false]) (fun k => h61i l x0 x1 x2 ((2 : Nat) * j + k)) fun x => [], Out.mk Unit (AX.exit (2 : Nat)) [(0 : Nat), (3 : Nat), (11 : Nat), (12 : Nat), (13 : Nat)] (fun x => ∀ (i : Nat), i < (2 : Nat) * (j + (1 : Nat)) → okN l i) (fun x => [tS l r, mT l, tS l r, I (↑l.length : Int), I (↑j : Int)]) (fun x => h61i l x0 x1 x2 ((2 : Nat) * j + (2 : Nat))) fun x => []] AX.ret [AV.sl (trisA l) l.length r, u (1 : Nat), AV.bool false, AV.msl 0 0 l.length l.length (1 : Nat), I (↑j : Int), u (5 : Nat), u (6 : Nat), I x1, u (8 : Nat), u (9 : Nat), u (10 : Nat), AV.sl (trisA l) l.length r, I (↑l.length : Int), I (↑j : Int), u (14 : Nat), u (15 : Nat), u (16 : Nat), u (17 : Nat), u (18 : Nat), u (19 : Nat), u (20 : Nat), u (21 : Nat), AV.agg [I x1, I x2], I 0, AV.bool true, I x1, I x1, AV.bool false, I x1, I (↑j : Int), AV.bool false, AV.bool false, I x1, AV.sl (trisA l) l.length r, I (↑l.length : Int), AV.bool true, AV.bool true, AV.bool true, AV.tup [], AV.tup [], AV.tup [], AV.tup [], AV.bool true, u (43 : Nat), u (44 : Nat), u (45 : Nat), u (46 : Nat), u (47 : Nat)] (H.mk [bools (tdB l ((2 : Nat) * j + (0 : Nat))), [I x0, I x1, I x2]] [] [])) (by kernel_rfl) ?_⟩
          refine ⟨by first | with_reducible assumption | omega | assumption, ?_⟩
          refine ⟨by first | with_reducible assumption | omega | assumption, ?_⟩
          refine ⟨by first | with_reducible assumption | omega | assumption, ?_⟩
          refine ⟨by first | with_reducible assumption | omega | assumption, ?_⟩
          exact .inl ⟨0, fun w => hno (w _ (by omega)), rfl, rfl, rfl⟩
        · have h1 : (j : Int) < x1 := by omega
          have h2 : x1 < (l.length : Int) := by omega
          obtain ⟨y, rfl⟩ : ∃ y : Nat, x1 = y := ⟨x1.toNat, by omega⟩
          have hyl : y < l.length := by omega
          have hyl' : y < (tdB l (2 * j + 0)).length := by rw [tdB_len]; exact hyl
          have hget := tdB_get (l := l) (k := 2 * j + 0) hyl
          have hld : aLoad Tryd.prog 4 (List.drop y (bools (tdB l (2 * j + 0)))) = some (.bool ((tdB l (2 * j + 0)).getD y b0)) := ldm_bools (by kernel_rfl) (by kernel_rfl) hyl'
          skip
          cases hc : (tdB l (2 * j + 0)).getD y b0
          · rw [hc] at hld hget
            have ho : okN l (2 * j + 0) := .inr ⟨by rw [hnx, hd2]; exact h1, by rw [hnx]; exact h2, fun q hq3 e => by
              have := hget.2 ⟨q, hq3, by rw [e, hnx]⟩
              cases this⟩
            have hq1 : ∀ i, i < 2 * j + 1 → okN l i := fun i hi => by
              by_cases e : i = 2 * j + 0
              · subst e; exact ho
              · exact hq i (by omega)
            have hst := st_bools (P := Tryd.prog) (t := 4) (β := H.nil.base) (by kernel_rfl) (bs := [bools (tdB l (2 * j + 0)), [I x0, I (y : Nat), I x2]]) (ts := []) (ms := []) (b := 0) (i := y) (l := tdB l (2 * j + 0)) (x := true) rfl hyl'
            refine ⟨[Ans.o Orc.dflt, Ans.o Orc.dflt, Ans.o (Orc.b false), Ans.o (Orc.b false), Ans.o (Orc.val 40 (AV.ptr 0 y) H.nil), Ans.o (Orc.val 41 (AV.bool false) H.nil), Ans.o (Orc.val 45 (AV.ptr 0 y) H.nil), Ans.o (Orc.val 9999 (AV.tup []) (H.mk ([bools (tdB l ((2 : Nat) * j + (0 : Nat))), [I x0, I (↑y : Int), I x2]].set (0 : Nat) (bools ((tdB l ((2 : Nat) * j + (0 : Nat))).set y true))) [] []))], fun u => of_eq ((↑j : Int) < (↑y : Int) ∧ (↑y : Int) < (↑l.length : Int) ∧ aIndexAddr Tryd.prog (87 : Nat) (AV.msl 0 0 l.length l.length (1 : Nat)) (I (↑y : Int)) = some (AV.ptr 0 y) ∧ aLoad Tryd.prog (4 : Nat) (List.drop y (bools (tdB l ((2 : Nat) * j + (0 : Nat))))) = some (AV.bool false) ∧ aIndexAddr Tryd.prog (87 : Nat) (AV.msl 0 0 l.length l.length (1 : Nat)) (I (↑y : Int)) = some (AV.ptr 0 y) ∧ aStore Tryd.prog H.nil.base (4 : Nat) (AV.ptr 0 y) (AV.bool true) (H.mk [bools (tdB l ((2 : Nat) * j + (0 : Nat))), [I x0, I (↑y : Int), I x2]] [] []) = some (H.mk [bools ((tdB l ((2 : Nat) * j + (0 : Nat))).set y true), [I x0, I (↑y : Int), I x2]] [] []) ∧ IntKind.i64.wrap (1 : Int) = (1 : Int) ∧ (48 : Nat) = (48 : Nat) ∧ (0 : Nat) < (2 : Nat) ∧ Keep (H.mk [bools ((tdB l ((2 : Nat) * j + (0 : Nat))).set y true), [I x0, I (↑y : Int), I x2]] [] [] = H.mk [bools (tdB l ((2 : Nat) * j + (1 : Nat))), [I x0, I (↑y : Int), I x2]] [] [] ∧ [AV.sl (trisA l) l.length r, AV.msl 0 0 l.length l.length (1 : Nat), I (↑j : Int), AV.sl (trisA l) l.length r, I (↑l.length : Int), I (↑j : Int), AV.agg [I (↑y : Int), I x2], I 1] = [AV.sl (trisA l) l.length r, AV.msl 0 0 l.length l.length (1 : Nat), I (↑j : Int), AV.sl (trisA l) l.length r, I (↑l.length : Int), I (↑j : Int), AV.agg [I (↑y : Int), I x2], I 1] ∧ ∀ (i : Nat), i < (2 : Nat) * j + (1 : Nat) → okN l i)) (by kernel_rfl) ?_⟩
            refine ⟨by first | with_reducible assumption | omega | assumption, ?_⟩
            refine ⟨by first | with_reducible assumption | omega | assumption, ?_⟩
            refine ⟨ixm0 (by kernel_rfl) hyl, ?_⟩
            refine ⟨hld, ?_⟩
            refine ⟨ixm0 (by kernel_rfl) hyl, ?_⟩
            refine ⟨hst, ?_⟩
            refine ⟨wr _ (by omega) (by omega), ?_⟩
            refine ⟨by first | with_reducible assumption | omega | assumption, ?_⟩
            refine ⟨by first | with_reducible assumption | omega | assumption, ?_⟩
            exact ⟨by rw [tdB_set hnx hyl], rfl, hq1⟩
          · rw [hc] at hld hget
            obtain ⟨q, hq3, hq4⟩ := hget.1 rfl
            have hno : ¬ okN l (2 * j + 0) := by
              rintro (w | ⟨_, _, w⟩)
              · rw [hnx] at w; exact he w
              · exact w q hq3 (by rw [hq4, hnx])
            refine ⟨[Ans.o Orc.dflt, Ans.o Orc.dflt, Ans.o (Orc.b false), Ans.o (Orc.b false), Ans.o (Orc.val 40 (AV.ptr 0 y) H.nil), Ans.o (Orc.val 41 (AV.bool true) H.nil)], fun u => of_eq ((↑j : Int) < (↑y : Int) ∧ (↑y : Int) < (↑l.length : Int) ∧ aIndexAddr Tryd.prog (87 : Nat) (AV.msl 0 0 l.length l.length (1 : Nat)) (I (↑y : Int)) = some (AV.ptr 0 y) ∧ aLoad Tryd.prog (4 : Nat) (List.drop y (bools (tdB l ((2 : Nat) * j + (0 : Nat))))) = some (AV.bool true) ∧ (48 : Nat) = (48 : Nat) ∧ hits [Out.mk Nat AX.ret [(2 : Nat)] (fun x => ¬tdA l) (fun x => [AV.bool false]) (fun k => h61i l x0 (↑y : Int) x2 ((2 : Nat) * j + k)) fun x => [], Out.mk Unit (AX.exit (2 : Nat)) [(0 : Nat), (3 : Nat), (11 : Nat), (12 : Nat), (13 : Nat)] (fun x => ∀ (i : Nat), i < (2 : Nat) * (j + (1 : Nat)) → okN l i) (fun x => [tS l r, mT l, tS l r, I (↑l.length : Int), I (↑j : Int)]) (fun x => h61i l x0 (↑y : Int) x2 ((2 : Nat) * j + (2 : Nat))) fun x => []] AX.ret [AV.sl (trisA l) l.length r, u (1 : Nat), AV.bool false, AV.msl 0 0 l.length l.length (1 : Nat), I (↑j : Int), u (5 : Nat), u (6 : Nat), I (↑y : Int), u (8 : Nat), u (9 : Nat), u (10 : Nat), AV.sl (trisA l) l.length r, I (↑l.length : Int), I (↑j : Int), u (14 : Nat), u (15 : Nat), u (16 : Nat), u (17 : Nat), u (18 : Nat), u (19 : Nat), u (20 : Nat), u (21 : Nat), AV.agg [I (↑y : Int), I x2], I 0, AV.bool true, I (↑y : Int), I (↑y : Int), AV.bool false, I (↑y : Int), I (↑j : Int), AV.bool false, AV.bool false, I (↑y : Int), AV.sl (trisA l) l.length r, I (↑l.length : Int), AV.bool false, AV.bool false, AV.bool false, AV.msl 0 0 l.length l.length (1 : Nat), I (↑y : Int), AV.ptr 0 y, AV.bool true, AV.bool true, u (43 : Nat), u (44 : Nat), u (45 : Nat), u (46 : Nat), u (47 : Nat)] (H.mk [bools (tdB l ((2 : Nat) * j + (0 : Nat))), [I x0, I (↑y : Int), I x2]] [] [])) (by kernel_rfl) ?_⟩
            refine ⟨by first | with_reducible assumption | omega | assumption, ?_⟩
            refine ⟨by first | with_reducible assumption | omega | assumption, ?_⟩
            refine ⟨ixm0 (by kernel_rfl) hyl, ?_⟩
            refine ⟨hld, ?_⟩
            refine ⟨by first | with_reducible assumption | omega | assumption, ?_⟩
            exact .inl ⟨0, fun w => hno (w _ (by omega)), rfl, rfl, rfl⟩
  · have hk2 : (2 : Int) = 2 := rfl
    have hnx : nx l (2 * j + 1) = x2 := by rw [nx_1, hn]
    have hd2 : (2 * j + 1) / 2 = j := by omega
    by_cases he : x2 = -1
    · have ho : okN l (2 * j + 1) := .inl (by rw [hnx, he])
      have hk1 : tdB l (2 * j + 1) = tdB l (2 * j + 2) := (tdB_end (by rw [hnx, he])).symm
      have hq1 : ∀ i, i < 2 * j + 2 → okN l i := fun i hi => by
        by_cases e : i = 2 * j + 1
        · subst e; exact ho
        · exact hq i (by omega)
      skip
      refine ⟨[Ans.o Orc.dflt, Ans.o (Orc.b true)], fun u => of_eq (x2 = (-1 : Int) ∧ IntKind.i64.wrap (2 : Int) = (2 : Int) ∧ (48 : Nat) = (48 : Nat) ∧ (1 : Nat) < (2 : Nat) ∧ Keep (H.mk [bools (tdB l ((2 : Nat) * j + (1 : Nat))), [I x0, I x1, I x2]] [] [] = H.mk [bools (tdB l ((2 : Nat) * j + ((1 : Nat) + (1 : Nat)))), [I x0, I x1, I x2]] [] [] ∧ [AV.sl (trisA l) l.length r, AV.msl 0 0 l.length l.length (1 : Nat), I (↑j : Int), AV.sl (trisA l) l.length r, I (↑l.length : Int), I (↑j : Int), AV.agg [I x1, I x2], I 2] = [AV.sl (trisA l) l.length r, AV.msl 0 0 l.length l.length (1 : Nat), I (↑j : Int), AV.sl (trisA l) l.length r, I (↑l.length : Int), I (↑j : Int), AV.agg [I x1, I x2], I 2] ∧ ∀ (i : Nat), i < (2 : Nat) * j + ((1 : Nat) + (1 : Nat)) → okN l i)) (by kernel_rfl) ?_⟩
      refine ⟨by first | with_reducible assumption | omega | assumption, ?_⟩
      refine ⟨wr _ (by omega) (by omega), ?_⟩
      refine ⟨by first | with_reducible assumption | omega | assumption, ?_⟩
      refine ⟨by first | with_reducible assumption | omega | assumption, ?_⟩
      exact ⟨by rw [hk1], rfl, hq1⟩
    · have he : x2 ≠ -1 := he
      by_cases h1 : x2 ≤ (j : Int)
      · have hno : ¬ okN l (2 * j + 1) := by
          rintro (q | ⟨q, _⟩)
          · rw [hnx] at q; exact he q
          · rw [hnx, hd2] at q; omega
        skip
        refine ⟨[Ans.o Orc.dflt, Ans.o (Orc.b false), Ans.o (Orc.b true)], fun u => of_eq (x2 ≠ (-1 : Int) ∧ x2 ≤ (↑j : Int) ∧ (48 : Nat) = (48 : Nat) ∧ hits [Out.mk Nat AX.ret [(2 : Nat)] (fun x => ¬tdA l) (fun x => [AV.bool false]) (fun k => h61i l x0 x1 x2 ((2 : Nat) * j + k)) fun x => [], Out.mk Unit (AX.exit (2 : Nat)) [(0 : Nat), (3 : Nat), (11 : Nat), (12 : Nat), (13 : Nat)] (fun x => ∀ (i : Nat), i < (2 : Nat) * (j + (1 : Nat)) → okN l i) (fun x => [tS l r, mT l, tS l r, I (↑l.length : Int), I (↑j : Int)]) (fun x => h61i l x0 x1 x2 ((2 : Nat) * j + (2 : Nat))) fun x => []] AX.ret [AV.sl (trisA l) l.length r, u (1 : Nat), AV.bool false, AV.msl 0 0 l.length l.length (1 : Nat), I (↑j : Int), u (5 : Nat), u (6 : Nat), I x2, u (8 : Nat), u (9 : Nat), u (10 : Nat), AV.sl (trisA l) l.length r, I (↑l.length : Int), I (↑j : Int), u (14 : Nat), u (15 : Nat), u (16 : Nat), u (17 : Nat), u (18 : Nat), u (19 : Nat), u (20 : Nat), u (21 : Nat), AV.agg [I x1, I x2], I 1, AV.bool true, I x2, I x2, AV.bool false, I x2, I (↑j : Int), AV.bool true, AV.bool true, AV.tup [], AV.tup [], AV.tup [], AV.tup [], AV.bool true, AV.bool true, AV.tup [], AV.tup [], AV.tup [], AV.tup [], AV.bool true, u (43 : Nat), u (44 : Nat), u (45 : Nat), u (46 : Nat), u (47 : Nat)] (H.mk [bools (tdB l ((2 : Nat) * j + (1 : Nat))), [I x0, I x1, I x2]] [] [])) (by kernel_rfl) ?_⟩
        refine ⟨by first | with_reducible assumption | omega | assumption, ?_⟩
        refine ⟨by first | with_reducible assumption | omega | assumption, ?_⟩
        refine ⟨by first | with_reducible assumption | omega | assumption, ?_⟩
        exact .inl ⟨1, fun w => hno (w _ (by omega)), rfl, rfl, rfl⟩
      · by_cases h2 : (l.length : Int) ≤ x2
        · have h1 : (j : Int) < x2 := by omega
          have hno : ¬ okN l (2 * j + 1) := by
            rintro (q | ⟨_, q, _⟩)
            · rw [hnx] at q; exact he q
            · rw [hnx] at q; omega
          skip
          refine ⟨[Ans.o Orc.dflt, Ans.o (Orc.b false), Ans.o (Orc.b false), Ans.o (Orc.b true)], fun u => of_eq (x2 ≠ (-1 : Int) ∧ (↑j : Int) < x2 ∧ (↑l.length : Int) ≤ x2 ∧ (48 : Nat) = (48 : Nat) ∧ hits [Out.mk Nat AX.ret [(2 : Nat)] (fun x => ¬tdA l) (fun x => [AV.bool false]) (fun k => h61i l x0 x1 x2 ((2 : Nat) * j + k)) fun x => [], Out.mk Unit (AX.exit (2 : Nat)) [(0 : Nat), (3 : Nat), (11 : Nat), (12 : Nat), (13 : Nat)] (fun x => ∀ (i : Nat), i < (2 : Nat) * (j + (1 : Nat)) → okN l i) (fun x => [tS l r, mT l, tS l r, I (↑l.length : Int), I (↑j : Int)]) (fun x => h61i l x0 x1 x2 ((2 : Nat) * j + (2 : Nat))) fun x => []] AX.ret [AV.sl (trisA l) l.length r, u (1 : Nat), AV.bool false, AV.msl 0 0 l.length l.length (1 : Nat), I (↑j : Int), u (5 : Nat), u (6 : Nat), I x2, u (8 : Nat), u (9 : Nat), u (10 : Nat), AV.sl (trisA l) l.length r, I (↑l.length : Int), I (↑j : Int), u (14 : Nat), u (15 : Nat), u (16 : Nat), u (17 : Nat), u (18 : Nat), u (19 : Nat), u (20 : Nat), u (21 : Nat), AV.agg [I x1, I x2], I 1, AV.bool true, I x2, I x2, AV.bool false, I x2, I (↑j : Int), AV.bool false, AV.bool false, I x2, AV.sl (trisA l) l.length r, I (↑l.length : Int), AV.bool true, AV.bool true, AV.bool true, AV.tup [], AV.tup [], AV.tup [], AV.tup [], AV.bool true, u (43 : Nat), u (44 : Nat), u (45 : Nat), u (46 : Nat), u (47 : Nat)] (H.mk [bools (tdB l ((2 : Nat) * j + (1 : Nat))), [I x0, I x1, I x2]] [] [])) (by kernel_rfl) ?_⟩
          refine ⟨by first | with_reducible assumption | omega | assumption, ?_⟩
          refine ⟨by first | with_reducible assumption | omega | assumption, ?_⟩
          refine ⟨by first | with_reducible assumption | omega | assumption, ?_⟩
          refine ⟨by first | with_reducible assumption | omega | assumption, ?_⟩
          exact .inl ⟨1, fun w => hno (w _ (by omega)), rfl, rfl, rfl⟩
        · have h1 : (j : Int) < x2 := by omega
          have h2 : x2 < (l.length : Int) := by omega
          obtain ⟨y, rfl⟩ : ∃ y : Nat, x2 = y := ⟨x2.toNat, by omega⟩
          have hyl : y < l.length := by omega
          have hyl' : y < (tdB l (2 * j + 1)).length := by rw [tdB_len]; exact hyl
          have hget := tdB_get (l := l) (k := 2 * j + 1) hyl
          have hld : aLoad Tryd.prog 4 (List.drop y (bools (tdB l (2 * j + 1)))) = some (.bool ((tdB l (2 * j + 1)).getD y b0)) := ldm_bools (by kernel_rfl) (by kernel_rfl) hyl'
          skip
          cases hc : (tdB l (2 * j + 1)).getD y b0
          · rw [hc] at hld hget
            have ho : okN l (2 * j + 1) := .inr ⟨by rw [hnx, hd2]; exact h1, by rw [hnx]; exact h2, fun q hq3 e => by
              have := hget.2 ⟨q, hq3, by rw [e, hnx]⟩
              cases this⟩
            have hq1 : ∀ i, i < 2 * j + 2 → okN l i := fun i hi => by
              by_cases e : i = 2 * j + 1
              · subst e; exact ho
              · exact hq i (by omega)
            have hst := st_bools (P := Tryd.prog) (t := 4) (β := H.nil.base) (by kernel_rfl) (bs := [bools (tdB l (2 * j + 1)), [I x0, I x1, I (y : Nat)]]) (ts := []) (ms := []) (b := 0) (i := y) (l := tdB l (2 * j + 1)) (x := true) rfl hyl'
            refine ⟨[Ans.o Orc.dflt, Ans.o Orc.dflt, Ans.o (Orc.b false), Ans.o (Orc.b false), Ans.o (Orc.val 40 (AV.ptr 0 y) H.nil), Ans.o (Orc.val 41 (AV.bool false) H.nil), Ans.o (Orc.val 45 (AV.ptr 0 y) H.nil), Ans.o (Orc.val 9999 (AV.tup []) (H.mk ([bools (tdB l ((2 : Nat) * j + (1 : Nat))), [I x0, I x1, I (↑y : Int)]].set (0 : Nat) (bools ((tdB l ((2 : Nat) * j + (1 : Nat))).set y true))) [] []))], fun u => of_eq ((↑j : Int) < (↑y : Int) ∧ (↑y : Int) < (↑l.length : Int) ∧ aIndexAddr Tryd.prog (87 : Nat) (AV.msl 0 0 l.length l.length (1 : Nat)) (I (↑y : Int)) = some (AV.ptr 0 y) ∧ aLoad Tryd.prog (4 : Nat) (List.drop y (bools (tdB l ((2 : Nat) * j + (1 : Nat))))) = some (AV.bool false) ∧ aIndexAddr Tryd.prog (87 : Nat) (AV.msl 0 0 l.length l.length (1 : Nat)) (I (↑y : Int)) = some (AV.ptr 0 y) ∧ aStore Tryd.prog H.nil.base (4 : Nat) (AV.ptr 0 y) (AV.bool true) (H.mk [bools (tdB l ((2 : Nat) * j + (1 : Nat))), [I x0, I x1, I (↑y : Int)]] [] []) = some (H.mk [bools ((tdB l ((2 : Nat) * j + (1 : Nat))).set y true), [I x0, I x1, I (↑y : Int)]] [] []) ∧ IntKind.i64.wrap (2 : Int) = (2 : Int) ∧ (48 : Nat) = (48 : Nat) ∧ (1 : Nat) < (2 : Nat) ∧ Keep (H.mk [bools ((tdB l ((2 : Nat) * j + (1 : Nat))).set y true), [I x0, I x1, I (↑y : Int)]] [] [] = H.mk [bools (tdB l ((2 : Nat) * j + ((1 : Nat) + (1 : Nat)))), [I x0, I x1, I (↑y : Int)]] [] [] ∧ [AV.sl (trisA l) l.length r, AV.msl 0 0 l.length l.length (1 : Nat), I (↑j : Int), AV.sl (trisA l) l.length r, I (↑l.length : Int), I (↑j : Int), AV.agg [I x1, I (↑y : Int)], I 2] = [AV.sl (trisA l) l.length r, AV.msl 0 0 l.length l.length (1 : Nat), I (↑j : Int), AV.sl (trisA l) l.length r, I (↑l.length : Int), I (↑j : Int), AV.agg [I x1, I (↑y : Int)], I 2] ∧ ∀ (i : Nat), i < (2 : Nat) * j + ((1 : Nat) + (1 : Nat)) → okN l i)) (by kernel_rfl) ?_⟩
            refine ⟨by first | with_reducible assumption | omega | assumption, ?_⟩
            refine ⟨by first | with_reducible assumption | omega | assumption, ?_⟩
            refine ⟨ixm0 (by kernel_rfl) hyl, ?_⟩
            refine ⟨hld, ?_⟩
            refine ⟨ixm0 (by kernel_rfl) hyl, ?_⟩
            refine ⟨hst, ?_⟩
            refine ⟨wr _ (by omega) (by omega), ?_⟩
            refine ⟨by first | with_reducible assumption | omega | assumption, ?_⟩
            refine ⟨by first | with_reducible assumption | omega | assumption, ?_⟩
            exact ⟨by rw [tdB_set hnx hyl], rfl, hq1⟩
          · rw [hc] at hld hget
            obtain ⟨q, hq3, hq4⟩ := hget.1 rfl
            have hno : ¬ okN l (2 * j + 1) := by
              rintro (w | ⟨_, _, w⟩)
              · rw [hnx] at w; exact he w
              · exact w q hq3 (by rw [hq4, hnx])
            refine ⟨[Ans.o Orc.dflt, Ans.o Orc.dflt, Ans.o (Orc.b false), Ans.o (Orc.b false), Ans.o (Orc.val 40 (AV.ptr 0 y) H.nil), Ans.o (Orc.val 41 (AV.bool true) H.nil)], fun u => of_eq ((↑j : Int) < (↑y : Int) ∧ (↑y : Int) < (↑l.length : Int) ∧ aIndexAddr Tryd.prog (87 : Nat) (AV.msl 0 0 l.length l.length (1 : Nat)) (I (↑y : Int)) = some (AV.ptr 0 y) ∧ aLoad Tryd.prog (4 : Nat) (List.drop y (bools (tdB l ((2 : Nat) * j + (1 : Nat))))) = some (AV.bool true) ∧ (48 : Nat) = (48 : Nat) ∧ hits [Out.mk Nat AX.ret [(2 : Nat)] (fun x => ¬tdA l) (fun x => [AV.bool false]) (fun k => h61i l x0 x1 (↑y : Int) ((2 : Nat) * j + k)) fun x => [], Out.mk Unit (AX.exit (2 : Nat)) [(0 : Nat), (3 : Nat), (11 : Nat), (12 : Nat), (13 : Nat)] (fun x => ∀ (i : Nat), i < (2 : Nat) * (j + (1 : Nat)) → okN l i) (fun x => [tS l r, mT l, tS l r, I (↑l.length : Int), I (↑j : Int)]) (fun x => h61i l x0 x1 (↑y : Int) ((2 : Nat) * j + (2 : Nat))) fun x => []] AX.ret [AV.sl (trisA l) l.length r, u (1 : Nat), AV.bool false, AV.msl 0 0 l.length l.length (1 : Nat), I (↑j : Int), u (5 : Nat), u (6 : Nat), I (↑y : Int), u (8 : Nat), u (9 : Nat), u (10 : Nat), AV.sl (trisA l) l.length r, I (↑l.length : Int), I (↑j : Int), u (14 : Nat), u (15 : Nat), u (16 : Nat), u (17 : Nat), u (18 : Nat), u (19 : Nat), u (20 : Nat), u (21 : Nat), AV.agg [I x1, I (↑y : Int)], I 1, AV.bool true, I (↑y : Int), I (↑y : Int), AV.bool false, I (↑y : Int), I (↑j : Int), AV.bool false, AV.bool false, I (↑y : Int), AV.sl (trisA l) l.length r, I (↑l.length : Int), AV.bool false, AV.bool false, AV.bool false, AV.msl 0 0 l.length l.length (1 : Nat), I (↑y : Int), AV.ptr 0 y, AV.bool true, AV.bool true, u (43 : Nat), u (44 : Nat), u (45 : Nat), u (46 : Nat), u (47 : Nat)] (H.mk [bools (tdB l ((2 : Nat) * j + (1 : Nat))), [I x0, I x1, I (↑y : Int)]] [] [])) (by kernel_rfl) ?_⟩
            refine ⟨by first | with_reducible assumption | omega | assumption, ?_⟩
            refine ⟨by first | with_reducible assumption | omega | assumption, ?_⟩
            refine ⟨ixm0 (by kernel_rfl) hyl, ?_⟩
            refine ⟨hld, ?_⟩
            refine ⟨by first | with_reducible assumption | omega | assumption, ?_⟩
            exact .inl ⟨1, fun w => hno (w _ (by omega)), rfl, rfl, rfl⟩
  · refine ⟨[Ans.o Orc.dflt], fun u => of_eq ((48 : Nat) = (48 : Nat) ∧ hits [Out.mk Nat AX.ret [(2 : Nat)] (fun x => ¬tdA l) (fun x => [AV.bool false]) (fun k => h61i l x0 x1 x2 ((2 : Nat) * j + k)) fun x => [], Out.mk Unit (AX.exit (2 : Nat)) [(0 : Nat), (3 : Nat), (11 : Nat), (12 : Nat), (13 : Nat)] (fun x => ∀ (i : Nat), i < (2 : Nat) * (j + (1 : Nat)) → okN l i) (fun x => [tS l r, mT l, tS l r, I (↑l.length : Int), I (↑j : Int)]) (fun x => h61i l x0 x1 x2 ((2 : Nat) * j + (2 : Nat))) fun x => []] (AX.exit (2 : Nat)) [AV.sl (trisA l) l.length r, u (1 : Nat), u (2 : Nat), AV.msl 0 0 l.length l.length (1 : Nat), I (↑j : Int), u (5 : Nat), u (6 : Nat), u (7 : Nat), u (8 : Nat), u (9 : Nat), u (10 : Nat), AV.sl (trisA l) l.length r, I (↑l.length : Int), I (↑j : Int), u (14 : Nat), u (15 : Nat), u (16 : Nat), u (17 : Nat), u (18 : Nat), u (19 : Nat), u (20 : Nat), u (21 : Nat), AV.agg [I x1, I x2], I 2, AV.bool false, u (25 : Nat), u (26 : Nat), u (27 : Nat), u (28 : Nat), u (29 : Nat), u (30 : Nat), u (31 : Nat), u (32 : Nat), u (33 : Nat), u (34 : Nat), u (35 : Nat), u (36 : Nat), u (37 : Nat), u (38 : Nat), u (39 : Nat), u (40 : Nat), u (41 : Nat), u (42 : Nat), u (43 : Nat), u (44 : Nat), u (45 : Nat), u (46 : Nat), u (47 : Nat)] (H.mk [bools (tdB l ((2 : Nat) * j + (2 : Nat))), [I x0, I x1, I x2]] [] [])) (by kernel_rfl) ?_⟩
    refine ⟨by first | with_reducible assumption | omega | assumption, ?_⟩
    exact .inr (.inl ⟨(), fun i hi => hq i (by omega), rfl, rfl, rfl⟩)
end Go.Proofs.Lrn

