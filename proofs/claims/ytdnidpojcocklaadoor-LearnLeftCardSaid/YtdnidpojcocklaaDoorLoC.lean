/- Layer 4: the law of what is left. -/
import Derived.Test.YtdnidpojcocklaaDoorLoB2
import Derived.Test.YtdnidpojcocklaaDoorLnV4
import Derived.Test.YtdnidpojcocklaaDoorLnO0
import Derived.Test.YtdnidpojcocklaaDoorLnJ
import Derived.Test.YtdnidpojcocklaaDoorLnD
import Derived.KernelRfl
set_option linter.unusedSimpArgs false
set_option linter.unusedVariables false
set_option linter.unnecessarySimpa false
set_option maxHeartbeats 4000000
set_option maxRecDepth 100000
namespace Go.Proofs.Lrn
open Go Go.VM

theorem leave_bs (bs : List (List AV)) {v : AV} (hb : v.bnd 0 0 0 = true) : leave ⟨0, 0, 0⟩ v ⟨bs, [], []⟩ = (v, .nil) := by
  simp [leave, hb, H.nil]
theorem lsU_list : ∀ (n s : Nat) (m : List Int), m.Pairwise (· < ·) → (∀ c ∈ m, (s : Int) ≤ c ∧ c < (s : Int) + n) → lsU (fun i => decide ((i : Int) ∈ m)) s n = m
  | 0, s, m, _, h => by
    cases m with
    | nil => rfl
    | cons c t => have := h c (by simp); omega
  | n + 1, s, m, hp, h => by
    simp only [lsU]
    by_cases hs : (s : Int) ∈ m
    · cases m with
      | nil => cases hs
      | cons c t =>
        rw [List.pairwise_cons] at hp
        have hc : c = s := by
          rcases List.mem_cons.1 hs with e | e
          · exact e.symm
          · have := hp.1 _ e; have := (h c (by simp)).1; omega
        subst hc
        rw [if_pos (by simp)]
        have e : lsU (fun i => decide ((i : Int) ∈ (s : Int) :: t)) (s + 1) n = lsU (fun i => decide ((i : Int) ∈ t)) (s + 1) n := lsU_congr n (s + 1) (fun i h1 h2 => by
          rw [Bool.eq_iff_iff, decide_eq_true_eq, decide_eq_true_eq, List.mem_cons]
          constructor
          · rintro (e | e)
            · omega
            · exact e
          · exact .inr)
        rw [e, lsU_list n (s + 1) t hp.2 (fun c hc => by have := hp.1 c hc; have := (h c (by simp [hc])).2; omega)]
    · rw [if_neg (by simpa using hs)]
      exact lsU_list n (s + 1) m hp (fun c hc => by
        have h1 := h c hc
        have : c ≠ s := fun e => hs (e ▸ hc)
        omega)
theorem lsO_sOf {m : List Int} (hp : m.Pairwise (· < ·)) (h : inL m) : lsO (sOf m) = m := by
  rw [lsO, lsU_congr 32 0 (g := fun i => decide ((i : Int) ∈ m)) (fun i _ hi => sOf_bit h (by omega))]
  exact lsU_list 32 0 m hp (fun c hc => by have := h c hc; omega)
theorem cls_rise {p : Int} {l : List Int} (h : cls p l) : l.Pairwise (· < ·) := by
  rw [List.pairwise_iff_getElem]
  intro i j hi hj hij
  have := cls_lt h (j - i - 1) i (by omega)
  rw [show i + (j - i - 1) + 1 = j by omega] at this
  have e1 : l.getD i i0 = l[i] := by simp [List.getD_eq_getElem?_getD, List.getElem?_eq_getElem hi]
  have e2 : l.getD j i0 = l[j] := by simp [List.getD_eq_getElem?_getD, List.getElem?_eq_getElem hj]
  rw [e1, e2] at this
  exact this
theorem lfL_rise : ∀ (es : List Pr) (l : List Int), l.Pairwise (· < ·) → (lfL es l).Pairwise (· < ·)
  | [], _, h => h
  | e :: es, l, h => lfL_rise es _ (h.filter _)
abbrev o22 : List Out := [.mk Unit .ret [4] (fun _ => False) (fun _ => [.bool false]) (fun _ => .nil) (fun _ => []), .mk Unit (.exit 0) [] (fun _ => True) (fun _ => []) (fun _ => .nil) (fun _ => [])]
theorem simp22 : allSimpleM none1 (loopAt Tryd.f22 0) = true := by kernel_rfl
theorem lp22 (l : List Int) (r1 r2 : Room) (h0 : lim l.length) (h1 : rok l r1) (h2 : rok l r2) :
    LoopS (En5 []) (loopAt Tryd.f22 0) 26 [0, 1, 12, 13] [ls l r1, ls l r2, I l.length, I 0] .nil o22 := by
  have hR : Rests (En5 []) none1 := rests mixed .nil
  refine loop_s hR simp22 none (by intro _ h; cases h) (fun j vs h => h = .nil ∧ vs = [ls l r1, ls l r2, I l.length, I j]) l.length ⟨rfl, rfl⟩ (by intro _ h; cases h) ?_
  rintro j vs h hj ⟨rfl, rfl⟩
  by_cases hz : (j : Int) < l.length
  · have hz' : j < l.length := by omega
    have hr1 := rok_idx h1 hz'
    have hr2 := rok_idx h2 hz'
    have he : l.getD j i0 = l.getD j i0 := rfl
    refine ⟨[Ans.o (Orc.b true), Ans.o (Orc.val (18 : Nat) (AV.cptr (ints (List.drop j l))) (H.mk [] [] [])), Ans.o (Orc.val (19 : Nat) (I (l.getD j i0)) (H.mk [] [] [])), Ans.o (Orc.val (22 : Nat) (AV.cptr (ints (List.drop j l))) (H.mk [] [] [])), Ans.o (Orc.val (23 : Nat) (I (l.getD j i0)) (H.mk [] [] [])), Ans.o (Orc.b false)], fun u => of_eq ((↑j : Int) < (↑l.length : Int) ∧ aIndexAddr Tryd.prog (22 : Nat) (AV.sl (ints l) l.length r1) (I (↑j : Int)) = some (AV.cptr (ints (List.drop j l))) ∧ aLoad Tryd.prog (3 : Nat) (ints (List.drop j l)) = some (I (l.getD j i0)) ∧ aIndexAddr Tryd.prog (22 : Nat) (AV.sl (ints l) l.length r2) (I (↑j : Int)) = some (AV.cptr (ints (List.drop j l))) ∧ aLoad Tryd.prog (3 : Nat) (ints (List.drop j l)) = some (I (l.getD j i0)) ∧ l.getD j i0 = l.getD j i0 ∧ IntKind.i64.wrap ((↑j : Int) + (1 : Int)) = (↑j : Int) + (1 : Int) ∧ (26 : Nat) = (26 : Nat) ∧ j < l.length ∧ Keep (H.mk [] [] [] = H.mk [] [] [] ∧ [AV.sl (ints l) l.length r1, AV.sl (ints l) l.length r2, I (↑l.length : Int), I ((↑j : Int) + (1 : Int))] = [AV.sl (ints l) l.length r1, AV.sl (ints l) l.length r2, I (↑l.length : Int), I (↑(j + (1 : Nat)) : Int)])) (by kernel_rfl) ?_⟩
    refine And.intro (by first | assumption | omega | (simp only [small, tiny, rng, decide_eq_true_eq, decide_eq_false_iff_not, true_or, or_true, true_and, and_true, Int.reduceEq, Int.reduceNeg, eq_self, reduceIte, if_true, if_false] at *; omega) | (simp [small, tiny, rng, decide_eq_true_eq, decide_eq_false_iff_not, true_or, or_true, true_and, and_true, Int.reduceEq, Int.reduceNeg, eq_self, reduceIte, if_true, if_false] at *; done)) ?_
    refine And.intro (by first | exact ix_ints (by kernel_rfl) (by omega) hr1 | exact ix_ints (by kernel_rfl) (by omega) hr2) ?_
    refine And.intro (by exact ld_ints (by kernel_rfl) (by kernel_rfl) (by omega)) ?_
    refine And.intro (by first | exact ix_ints (by kernel_rfl) (by omega) hr1 | exact ix_ints (by kernel_rfl) (by omega) hr2) ?_
    refine And.intro (by exact ld_ints (by kernel_rfl) (by kernel_rfl) (by omega)) ?_
    refine And.intro (by first | assumption | omega | (simp only [small, tiny, rng, decide_eq_true_eq, decide_eq_false_iff_not, true_or, or_true, true_and, and_true, Int.reduceEq, Int.reduceNeg, eq_self, reduceIte, if_true, if_false] at *; omega) | (simp [small, tiny, rng, decide_eq_true_eq, decide_eq_false_iff_not, true_or, or_true, true_and, and_true, Int.reduceEq, Int.reduceNeg, eq_self, reduceIte, if_true, if_false] at *; done)) ?_
    refine And.intro (by first | exact wr _ (by omega) (by omega) | (refine wr _ ?_ ?_ <;> (simp only [small, tiny, rng, decide_eq_true_eq, decide_eq_false_iff_not, true_or, or_true, true_and, and_true, Int.reduceEq, Int.reduceNeg, eq_self, reduceIte, if_true, if_false] at *; omega))) ?_
    refine And.intro (by first | assumption | omega | (simp only [small, tiny, rng, decide_eq_true_eq, decide_eq_false_iff_not, true_or, or_true, true_and, and_true, Int.reduceEq, Int.reduceNeg, eq_self, reduceIte, if_true, if_false] at *; omega) | (simp [small, tiny, rng, decide_eq_true_eq, decide_eq_false_iff_not, true_or, or_true, true_and, and_true, Int.reduceEq, Int.reduceNeg, eq_self, reduceIte, if_true, if_false] at *; done)) ?_
    refine And.intro (by first | assumption | omega | (simp only [small, tiny, rng, decide_eq_true_eq, decide_eq_false_iff_not, true_or, or_true, true_and, and_true, Int.reduceEq, Int.reduceNeg, eq_self, reduceIte, if_true, if_false] at *; omega) | (simp [small, tiny, rng, decide_eq_true_eq, decide_eq_false_iff_not, true_or, or_true, true_and, and_true, Int.reduceEq, Int.reduceNeg, eq_self, reduceIte, if_true, if_false] at *; done)) ?_
    exact ⟨rfl, rfl⟩
  · have hz : (l.length : Int) ≤ j := by omega
    have e : j = l.length := by omega
    subst e
    refine ⟨[Ans.o (Orc.b false)], fun u => of_eq ((↑l.length : Int) ≤ (↑l.length : Int) ∧ (26 : Nat) = (26 : Nat) ∧ hits [Out.mk Unit AX.ret [(4 : Nat)] (fun x => False) (fun x => [AV.bool false]) (fun x => H.nil) fun x => [], Out.mk Unit (AX.exit (0 : Nat)) [] (fun x => True) (fun x => []) (fun x => H.nil) fun x => []] (AX.exit (0 : Nat)) [AV.sl (ints l) l.length r1, AV.sl (ints l) l.length r2, u (2 : Nat), u (3 : Nat), u (4 : Nat), u (5 : Nat), u (6 : Nat), u (7 : Nat), u (8 : Nat), u (9 : Nat), u (10 : Nat), u (11 : Nat), I (↑l.length : Int), I (↑l.length : Int), AV.bool false, u (15 : Nat), u (16 : Nat), u (17 : Nat), u (18 : Nat), u (19 : Nat), u (20 : Nat), u (21 : Nat), u (22 : Nat), u (23 : Nat), u (24 : Nat), u (25 : Nat)] (H.mk [] [] [])) (by kernel_rfl) ?_⟩
    refine And.intro (by first | assumption | omega | (simp only [small, tiny, rng, decide_eq_true_eq, decide_eq_false_iff_not, true_or, or_true, true_and, and_true, Int.reduceEq, Int.reduceNeg, eq_self, reduceIte, if_true, if_false] at *; omega) | (simp [small, tiny, rng, decide_eq_true_eq, decide_eq_false_iff_not, true_or, or_true, true_and, and_true, Int.reduceEq, Int.reduceNeg, eq_self, reduceIte, if_true, if_false] at *; done)) ?_
    refine And.intro (by first | assumption | omega | (simp only [small, tiny, rng, decide_eq_true_eq, decide_eq_false_iff_not, true_or, or_true, true_and, and_true, Int.reduceEq, Int.reduceNeg, eq_self, reduceIte, if_true, if_false] at *; omega) | (simp [small, tiny, rng, decide_eq_true_eq, decide_eq_false_iff_not, true_or, or_true, true_and, and_true, Int.reduceEq, Int.reduceNeg, eq_self, reduceIte, if_true, if_false] at *; done)) ?_
    exact .inr (.inl ⟨(), trivial, rfl, rfl, rfl⟩)
theorem ok22 : FokM Tryd.prog none1 22 Tryd.f22 := ⟨mixed, by kernel_rfl, by kernel_rfl, by kernel_rfl, by kernel_rfl⟩
theorem r22 (l : List Int) (r1 r2 : Room) (h0 : lim l.length) (h1 : rok l r1) (h2 : rok l r2) : Body (En5 []) none1 Tryd.f22 [ls l r1, ls l r2] .nil (.bool true, .nil) := by
  have he : (l.length : Int) = l.length := rfl
  refine body_s ([Ans.o (Orc.b false), Ans.loop [(0 : Nat), (1 : Nat), (12 : Nat), (13 : Nat)] [Out.mk Unit AX.ret [(4 : Nat)] (fun x => False) (fun x => [AV.bool false]) (fun x => H.nil) fun y => [], Out.mk Unit (AX.exit (0 : Nat)) [] (fun x => True) (fun x => []) (fun x => H.nil) fun y => []]]) ((↑l.length : Int) = (↑l.length : Int) ∧ LoopS (Env.mk Tryd.prog (Sof (P := Tryd.prog) []) (Pof (P := Tryd.prog) []) H.nil.base (300 : Nat)) (loopAt Tryd.f22 (0 : Nat)) (26 : Nat) [(0 : Nat), (1 : Nat), (12 : Nat), (13 : Nat)] [AV.sl (ints l) l.length r1, AV.sl (ints l) l.length r2, I (↑l.length : Int), I (0 : Int)] (H.mk [] [] []) [Out.mk Unit AX.ret [(4 : Nat)] (fun x => False) (fun x => [AV.bool false]) (fun x => H.nil) fun y => [], Out.mk Unit (AX.exit (0 : Nat)) [] (fun x => True) (fun x => []) (fun x => H.nil) fun y => []] ∧ (∀ (y : Unit), False → ∀ (u : Nat → AV), (AV.bool false, H.mk [] [] []) = (AV.bool true, H.mk [] [] [])) ∧ (∀ (y : Unit), True → ∀ (u : Nat → AV), (AV.bool true, H.mk [] [] []) = (AV.bool true, H.mk [] [] [])) ∧ True) (by kernel_rfl) ?_
  refine And.intro (by first | assumption | omega | (simp only [small, tiny, rng, decide_eq_true_eq, decide_eq_false_iff_not, true_or, or_true, true_and, and_true, Int.reduceEq, Int.reduceNeg, eq_self, reduceIte, if_true, if_false] at *; omega) | (simp [small, tiny, rng, decide_eq_true_eq, decide_eq_false_iff_not, true_or, or_true, true_and, and_true, Int.reduceEq, Int.reduceNeg, eq_self, reduceIte, if_true, if_false] at *; done)) ?_
  refine And.intro (by exact lp22 l r1 r2 h0 h1 h2) ?_
  refine And.intro ?_ ?_
  · skip
    intro y
    intro w1
    intro u
    first | rfl | (exfalso; assumption)
  · skip
    refine And.intro ?_ ?_
    · skip
      intro y
      intro w1
      intro u
      first | rfl | (exfalso; assumption)
    · skip
      trivial
/-- two lists that are the same -/
noncomputable def c22 : PCtr Tryd.prog := sctr ok22 (X := List Int × Room × List Int × Room) (fun x => [ls x.1 x.2.1, ls x.2.2.1 x.2.2.2]) (fun x => x.1 = x.2.2.1 ∧ lim x.1.length ∧ rok x.1 x.2.1 ∧ rok x.2.2.1 x.2.2.2) (fun _ => .bool true)
  (by intro x y e _ _; rfl) (fun x => by simp [AV.bnds, AV.bnd, AV.wk, rm_wk_bnd]) (fun _ => rfl) (fun x hx => by
    obtain ⟨l, r1, m, r2⟩ := x
    obtain ⟨e, h0, h1, h2⟩ := hx
    simp only at e h0 h1 h2
    subst e
    exact ⟨_, _, _, .nil, r22 l r1.wk r2.wk h0 (by simpa using h1) (by simpa using h2)⟩)
noncomputable def b17 : PCtr Tryd.prog := up c17
noncomputable def b18 : PCtr Tryd.prog := up c18
noncomputable def b19 : PCtr Tryd.prog := up c19
noncomputable def b20 : PCtr Tryd.prog := up c20
noncomputable def b21 : PCtr Tryd.prog := up c21
noncomputable def b23 : PCtr Tryd.prog := up c23
noncomputable def b52g : PCtr Tryd.prog := up c52g
noncomputable def b52b : PCtr Tryd.prog := up c52b
noncomputable def b53 : PCtr Tryd.prog := up c53
noncomputable def b54 : PCtr Tryd.prog := up c54
theorem ok16c : FokM Tryd.prog none1 16 Tryd.f16 := ⟨mixed, by kernel_rfl, by kernel_rfl, by kernel_rfl, by kernel_rfl⟩
theorem r16c (p : Int) (l : List Int) (r : Room) (es : List Pr) (q : Room) (hp : ((lim l.length ∧ rok l r) ∧ (lim es.length ∧ rok es q)) ∧ ¬ cls p l) : Body ⟨Tryd.prog, Sof (P := Tryd.prog) [b52b.to], Pof (P := Tryd.prog) [], H.nil.base, 300⟩ none1 Tryd.f16 [I p, ls l r, ps es q] .nil (.tup [.sl [] 0 .nil, I 2], .nil) := by
  have z : (lim l.length ∧ rok l r) ∧ ¬ cls p l := ⟨hp.1.1, hp.2⟩
  refine body_s ([Ans.o (Orc.val (13 : Nat) (AV.tup [AV.agg [I (0 : Int), AV.int IntKind.u32 (0 : Int)], AV.bool false]) (H.mk [] [] []))]) (aCall (Sof [b52b.to]) (AV.fn (Fn.func (52 : Nat)) [] []) [I p, AV.sl (ints l) l.length r] (H.mk [] [] []) = some (AV.tup [AV.agg [I (0 : Int), AV.int IntKind.u32 (0 : Int)], AV.bool false], H.mk [] [] []) ∧ (AV.tup [AV.sl [] (0 : Nat) Room.nil, I (2 : Int)], H.mk [] [] []) = (AV.tup [AV.sl [] (0 : Nat) Room.nil, I (2 : Int)], H.mk [] [] [])) (by kernel_rfl) ?_
  refine And.intro (by exact acall_hit (c := b52b.to) (p, l, r) _ rfl z) ?_
  first | with_reducible rfl | (refine bleaf_t ?_; first | omega | (simp only [small, tiny, rng, decide_eq_true_eq, decide_eq_false_iff_not, true_or, or_true, true_and, and_true, Int.reduceEq, Int.reduceNeg, eq_self, reduceIte, if_true, if_false] at *; omega)) | (refine bleaf_f ?_; first | omega | (simp only [small, tiny, rng, decide_eq_true_eq, decide_eq_false_iff_not, true_or, or_true, true_and, and_true, Int.reduceEq, Int.reduceNeg, eq_self, reduceIte, if_true, if_false] at *; omega)) | (refine ileaf ?_; first | omega | (simp only [small, tiny, rng, decide_eq_true_eq, decide_eq_false_iff_not, true_or, or_true, true_and, and_true, Int.reduceEq, Int.reduceNeg, eq_self, reduceIte, if_true, if_false] at *; omega)) | (exfalso; omega) | (simp only [Prod.mk.injEq, AV.agg.injEq, AV.tup.injEq, List.cons.injEq, AV.int.injEq, AV.bool.injEq, and_true, true_and]; (repeat' apply And.intro) <;> first | with_reducible rfl | (simp []; done) | (simp []; omega) | omega | (simp only [small, tiny, rng, decide_eq_true_eq, decide_eq_false_iff_not, true_or, or_true, true_and, and_true, Int.reduceEq, Int.reduceNeg, eq_self, reduceIte, if_true, if_false] at *; omega) | (simp [small, tiny, rng, decide_eq_true_eq, decide_eq_false_iff_not, true_or, or_true, true_and, and_true, Int.reduceEq, Int.reduceNeg, eq_self, reduceIte, if_true, if_false, *]; done) | (simp [small, tiny, rng, decide_eq_true_eq, decide_eq_false_iff_not, true_or, or_true, true_and, and_true, Int.reduceEq, Int.reduceNeg, eq_self, reduceIte, if_true, if_false, *]; omega)) | (exfalso; simp only [small, tiny, rng, decide_eq_true_eq, decide_eq_false_iff_not, true_or, or_true, true_and, and_true, Int.reduceEq, Int.reduceNeg, eq_self, reduceIte, if_true, if_false] at *; omega) | (simp [small, tiny, rng, decide_eq_true_eq, decide_eq_false_iff_not, true_or, or_true, true_and, and_true, Int.reduceEq, Int.reduceNeg, eq_self, reduceIte, if_true, if_false] at *; done) | (simp [small, tiny, rng, decide_eq_true_eq, decide_eq_false_iff_not, true_or, or_true, true_and, and_true, Int.reduceEq, Int.reduceNeg, eq_self, reduceIte, if_true, if_false] at *; omega)
noncomputable def c16c : PCtr Tryd.prog := sctr ok16c (X := Int × List Int × Room × List Pr × Room) (fun x => [I x.1, ls x.2.1 x.2.2.1, ps x.2.2.2.1 x.2.2.2.2]) (fun x => ((lim x.2.1.length ∧ rok x.2.1 x.2.2.1) ∧ (lim x.2.2.2.1.length ∧ rok x.2.2.2.1 x.2.2.2.2)) ∧ ¬ cls x.1 x.2.1) (fun x => .tup [.sl [] 0 .nil, I 2]) (by intro x y e _ _; simp at e; simp [e]) (fun x => by simp [AV.bnds, AV.bnd, AV.wk, rm_wk_bnd]) (fun x => by first | rfl | (simp [AV.bnd, rm_wk_bnd]; done)  | (simp [AV.bnd, AV.bnds, rm_wk_bnd]; done) | simp [AV.bnd, AV.bnds, Room.bnd, rm_wk_bnd]) (fun x hx => ⟨_, _, _, .pure b52b (.nil), r16c (x.1) (x.2.1) (x.2.2.1).wk (x.2.2.2.1) (x.2.2.2.2).wk (by first | exact hx | (simp only [rok_wk]; exact hx) | (simp only [rok_wk, lst_wk]; exact hx) | (simp only [rok_wk, lst_wk, lsn_wk]; exact hx))⟩)
theorem ok16e : FokM Tryd.prog none1 16 Tryd.f16 := ⟨mixed, by kernel_rfl, by kernel_rfl, by kernel_rfl, by kernel_rfl⟩
theorem r16e (p : Int) (l : List Int) (r : Room) (es : List Pr) (q : Room) (hp : ((lim l.length ∧ rok l r) ∧ (lim es.length ∧ rok es q)) ∧ cls p l ∧ ¬ exs p es) : Body ⟨Tryd.prog, Sof (P := Tryd.prog) [b52g.to, b53.to], Pof (P := Tryd.prog) [], H.nil.base, 300⟩ none1 Tryd.f16 [I p, ls l r, ps es q] .nil (.tup [.sl [] 0 .nil, I 2], .nil) := by
  have z : cls p l ∧ rok l r := ⟨hp.2.1, hp.1.1.2⟩
  have zz := hp.1.2
  have hd : decide (exs p es) = false := by rw [decide_eq_false_iff_not]; exact hp.2.2
  refine body_s ([Ans.o (Orc.val (13 : Nat) (AV.tup [AV.agg [I p, AV.int IntKind.u32 (↑(sOf l).toNat : Int)], AV.bool true]) (H.mk [] [] [])), Ans.o (Orc.val (21 : Nat) (AV.bool false) (H.mk [[I p, AV.int IntKind.u32 (↑(sOf l).toNat : Int)]] [] []))]) (aCall (Sof [b52g.to, b53.to]) (AV.fn (Fn.func (52 : Nat)) [] []) [I p, AV.sl (ints l) l.length r] (H.mk [] [] []) = some (AV.tup [AV.agg [I p, AV.int IntKind.u32 (↑(sOf l).toNat : Int)], AV.bool true], H.mk [] [] []) ∧ aCall (Sof [b52g.to, b53.to]) (AV.fn (Fn.func (53 : Nat)) [] []) [AV.agg [I p, AV.int IntKind.u32 (↑(sOf l).toNat : Int)], AV.sl (pairsA es) es.length q] (H.mk [[I p, AV.int IntKind.u32 (↑(sOf l).toNat : Int)]] [] []) = some (AV.bool false, H.mk [[I p, AV.int IntKind.u32 (↑(sOf l).toNat : Int)]] [] []) ∧ (AV.tup [AV.sl [] (0 : Nat) Room.nil, I (2 : Int)], H.mk [] [] []) = (AV.tup [AV.sl [] (0 : Nat) Room.nil, I (2 : Int)], H.mk [] [] [])) (by kernel_rfl) ?_
  refine And.intro (by exact acall_hit (c := b52g.to) (p, l, r) _ rfl z) ?_
  refine And.intro (by exact acall_b (acall_hit (c := b53.to) (p, sOf l, es, q) _ rfl zz) hd) ?_
  first | with_reducible rfl | (refine bleaf_t ?_; first | omega | (simp only [small, tiny, rng, decide_eq_true_eq, decide_eq_false_iff_not, true_or, or_true, true_and, and_true, Int.reduceEq, Int.reduceNeg, eq_self, reduceIte, if_true, if_false] at *; omega)) | (refine bleaf_f ?_; first | omega | (simp only [small, tiny, rng, decide_eq_true_eq, decide_eq_false_iff_not, true_or, or_true, true_and, and_true, Int.reduceEq, Int.reduceNeg, eq_self, reduceIte, if_true, if_false] at *; omega)) | (refine ileaf ?_; first | omega | (simp only [small, tiny, rng, decide_eq_true_eq, decide_eq_false_iff_not, true_or, or_true, true_and, and_true, Int.reduceEq, Int.reduceNeg, eq_self, reduceIte, if_true, if_false] at *; omega)) | (exfalso; omega) | (simp only [Prod.mk.injEq, AV.agg.injEq, AV.tup.injEq, List.cons.injEq, AV.int.injEq, AV.bool.injEq, and_true, true_and]; (repeat' apply And.intro) <;> first | with_reducible rfl | (simp []; done) | (simp []; omega) | omega | (simp only [small, tiny, rng, decide_eq_true_eq, decide_eq_false_iff_not, true_or, or_true, true_and, and_true, Int.reduceEq, Int.reduceNeg, eq_self, reduceIte, if_true, if_false] at *; omega) | (simp [small, tiny, rng, decide_eq_true_eq, decide_eq_false_iff_not, true_or, or_true, true_and, and_true, Int.reduceEq, Int.reduceNeg, eq_self, reduceIte, if_true, if_false, *]; done) | (simp [small, tiny, rng, decide_eq_true_eq, decide_eq_false_iff_not, true_or, or_true, true_and, and_true, Int.reduceEq, Int.reduceNeg, eq_self, reduceIte, if_true, if_false, *]; omega)) | (exfalso; simp only [small, tiny, rng, decide_eq_true_eq, decide_eq_false_iff_not, true_or, or_true, true_and, and_true, Int.reduceEq, Int.reduceNeg, eq_self, reduceIte, if_true, if_false] at *; omega) | (simp [small, tiny, rng, decide_eq_true_eq, decide_eq_false_iff_not, true_or, or_true, true_and, and_true, Int.reduceEq, Int.reduceNeg, eq_self, reduceIte, if_true, if_false] at *; done) | (simp [small, tiny, rng, decide_eq_true_eq, decide_eq_false_iff_not, true_or, or_true, true_and, and_true, Int.reduceEq, Int.reduceNeg, eq_self, reduceIte, if_true, if_false] at *; omega)
noncomputable def c16e : PCtr Tryd.prog := sctr ok16e (X := Int × List Int × Room × List Pr × Room) (fun x => [I x.1, ls x.2.1 x.2.2.1, ps x.2.2.2.1 x.2.2.2.2]) (fun x => ((lim x.2.1.length ∧ rok x.2.1 x.2.2.1) ∧ (lim x.2.2.2.1.length ∧ rok x.2.2.2.1 x.2.2.2.2)) ∧ cls x.1 x.2.1 ∧ ¬ exs x.1 x.2.2.2.1) (fun x => .tup [.sl [] 0 .nil, I 2]) (by intro x y e _ _; simp at e; simp [e]) (fun x => by simp [AV.bnds, AV.bnd, AV.wk, rm_wk_bnd]) (fun x => by first | rfl | (simp [AV.bnd, rm_wk_bnd]; done)  | (simp [AV.bnd, AV.bnds, rm_wk_bnd]; done) | simp [AV.bnd, AV.bnds, Room.bnd, rm_wk_bnd]) (fun x hx => ⟨_, _, _, .pure b52g (.pure b53 (.nil)), r16e (x.1) (x.2.1) (x.2.2.1).wk (x.2.2.2.1) (x.2.2.2.2).wk (by first | exact hx | (simp only [rok_wk]; exact hx) | (simp only [rok_wk, lst_wk]; exact hx) | (simp only [rok_wk, lst_wk, lsn_wk]; exact hx))⟩)
theorem ok16g : FokM Tryd.prog none1 16 Tryd.f16 := ⟨mixed, by kernel_rfl, by kernel_rfl, by kernel_rfl, by kernel_rfl⟩
theorem r16g (p : Int) (l : List Int) (r : Room) (es : List Pr) (q : Room) (hp : ((lim l.length ∧ rok l r) ∧ (lim es.length ∧ rok es q)) ∧ cls p l ∧ exs p es) : Body ⟨Tryd.prog, Sof (P := Tryd.prog) [b52g.to, b53.to, b54.to, c55.to], Pof (P := Tryd.prog) [], H.nil.base, 300⟩ none1 Tryd.f16 [I p, ls l r, ps es q] .nil (.tup [.sl (ints (lsO (lfF es (sOf l)))) (lsO (lfF es (sOf l))).length (rn (lsO (lfF es (sOf l)))), I 0], .nil) := by
  have z : cls p l ∧ rok l r := ⟨hp.2.1, hp.1.1.2⟩
  have zz := hp.1.2
  have z54 : p5 p ∧ exs p es ∧ rok es q := ⟨hp.2.1.1, hp.2.2, zz.2⟩
  have hd : decide (exs p es) = true := by rw [decide_eq_true_eq]; exact hp.2.2
  refine body_s ([Ans.o (Orc.val (13 : Nat) (AV.tup [AV.agg [I p, AV.int IntKind.u32 (↑(sOf l).toNat : Int)], AV.bool true]) (H.mk [] [] [])), Ans.o (Orc.val (21 : Nat) (AV.bool true) (H.mk [[I p, AV.int IntKind.u32 (↑(sOf l).toNat : Int)]] [] [])), Ans.o (Orc.val (26 : Nat) (AV.agg [I p, AV.int IntKind.u32 (↑(lfF es (sOf l)).toNat : Int)]) (H.mk [[I p, AV.int IntKind.u32 (↑(sOf l).toNat : Int)]] [] [])), Ans.o (Orc.val (27 : Nat) (AV.sl (ints (lsO (lfF es (sOf l)))) (lsO (lfF es (sOf l))).length (rn (lsO (lfF es (sOf l))))) (H.mk [[I p, AV.int IntKind.u32 (↑(sOf l).toNat : Int)]] [] []))]) (aCall (Sof [b52g.to, b53.to, b54.to, c55.to]) (AV.fn (Fn.func (52 : Nat)) [] []) [I p, AV.sl (ints l) l.length r] (H.mk [] [] []) = some (AV.tup [AV.agg [I p, AV.int IntKind.u32 (↑(sOf l).toNat : Int)], AV.bool true], H.mk [] [] []) ∧ aCall (Sof [b52g.to, b53.to, b54.to, c55.to]) (AV.fn (Fn.func (53 : Nat)) [] []) [AV.agg [I p, AV.int IntKind.u32 (↑(sOf l).toNat : Int)], AV.sl (pairsA es) es.length q] (H.mk [[I p, AV.int IntKind.u32 (↑(sOf l).toNat : Int)]] [] []) = some (AV.bool true, H.mk [[I p, AV.int IntKind.u32 (↑(sOf l).toNat : Int)]] [] []) ∧ aCall (Sof [b52g.to, b53.to, b54.to, c55.to]) (AV.fn (Fn.func (54 : Nat)) [] []) [AV.agg [I p, AV.int IntKind.u32 (↑(sOf l).toNat : Int)], AV.sl (pairsA es) es.length q] (H.mk [[I p, AV.int IntKind.u32 (↑(sOf l).toNat : Int)]] [] []) = some (AV.agg [I p, AV.int IntKind.u32 (↑(lfF es (sOf l)).toNat : Int)], H.mk [[I p, AV.int IntKind.u32 (↑(sOf l).toNat : Int)]] [] []) ∧ aCall (Sof [b52g.to, b53.to, b54.to, c55.to]) (AV.fn (Fn.func (55 : Nat)) [] []) [AV.agg [I p, AV.int IntKind.u32 (↑(lfF es (sOf l)).toNat : Int)]] (H.mk [[I p, AV.int IntKind.u32 (↑(sOf l).toNat : Int)]] [] []) = some (AV.sl (ints (lsO (lfF es (sOf l)))) (lsO (lfF es (sOf l))).length (rn (lsO (lfF es (sOf l)))), H.mk [[I p, AV.int IntKind.u32 (↑(sOf l).toNat : Int)]] [] []) ∧ leave (Base.mk H.nil.blk.length H.nil.toks.length H.nil.maps.length) (AV.tup [AV.sl (ints (lsO (lfF es (sOf l)))) (lsO (lfF es (sOf l))).length (rn (lsO (lfF es (sOf l)))), I (0 : Int)]) (H.mk [[I p, AV.int IntKind.u32 (↑(sOf l).toNat : Int)]] [] []) = (AV.tup [AV.sl (ints (lsO (lfF es (sOf l)))) (lsO (lfF es (sOf l))).length (rn (lsO (lfF es (sOf l)))), I (0 : Int)], H.mk [] [] [])) (by kernel_rfl) ?_
  refine And.intro (by exact acall_hit (c := b52g.to) (p, l, r) _ rfl z) ?_
  refine And.intro (by exact acall_b (acall_hit (c := b53.to) (p, sOf l, es, q) _ rfl zz) hd) ?_
  refine And.intro (by exact acall_hit (c := b54.to) (p, sOf l, es, q) _ rfl z54) ?_
  refine And.intro (by exact acall_hit (c := c55.to) (p, lfF es (sOf l)) _ rfl trivial) ?_
  exact leave_bs _ (by simp [AV.bnd, AV.bnds, rm_wk_bnd])
noncomputable def c16g : PCtr Tryd.prog := sctr ok16g (X := Int × List Int × Room × List Pr × Room) (fun x => [I x.1, ls x.2.1 x.2.2.1, ps x.2.2.2.1 x.2.2.2.2]) (fun x => ((lim x.2.1.length ∧ rok x.2.1 x.2.2.1) ∧ (lim x.2.2.2.1.length ∧ rok x.2.2.2.1 x.2.2.2.2)) ∧ cls x.1 x.2.1 ∧ exs x.1 x.2.2.2.1) (fun x => .tup [.sl (ints (lsO (lfF x.2.2.2.1 (sOf x.2.1)))) (lsO (lfF x.2.2.2.1 (sOf x.2.1))).length (rn (lsO (lfF x.2.2.2.1 (sOf x.2.1)))), I 0]) (by intro x y e _ _; simp at e; simp [e]) (fun x => by simp [AV.bnds, AV.bnd, AV.wk, rm_wk_bnd]) (fun x => by first | rfl | (simp [AV.bnd, rm_wk_bnd]; done)  | (simp [AV.bnd, AV.bnds, rm_wk_bnd]; done) | simp [AV.bnd, AV.bnds, Room.bnd, rm_wk_bnd]) (fun x hx => ⟨_, _, _, .pure b52g (.pure b53 (.pure b54 (.pure c55 (.nil)))), r16g (x.1) (x.2.1) (x.2.2.1).wk (x.2.2.2.1) (x.2.2.2.2).wk (by first | exact hx | (simp only [rok_wk]; exact hx) | (simp only [rok_wk, lst_wk]; exact hx) | (simp only [rok_wk, lst_wk, lsn_wk]; exact hx))⟩)
theorem ok3 : FokM Tryd.prog none1 3 Tryd.f3 := ⟨mixed, by kernel_rfl, by kernel_rfl, by kernel_rfl, by kernel_rfl⟩
abbrev pp (es : List Pr) (k : RK) : Prop := lim es.length ∧ (k.mt = true → es = [])
theorem cutp_same {es : List Pr} (h : es.length ≤ 20) : cutp es = es := List.take_of_length_le (by omega)
theorem cutp_exs {p : Int} {es : List Pr} : exs p (cutp es) ↔ exs p es := by
  constructor
  · intro h
    have h2 := h.1
    have : (cutp es).length = min 25 es.length := by simp [cutp]
    have e : cutp es = es := List.take_of_length_le (by omega)
    rw [e] at h; exact h
  · intro h
    rw [cutp_same h.1]; exact h
theorem clp_rok {es : List Pr} {k : RK} (h : k.mt = true → es = []) : rok (cutp es) (rr k.cl) := by
  intro hne
  cases k
  · simp [rr, RK.cl]
  · exact absurd (by rw [h rfl]; rfl) hne
  · simp [rr, RK.cl]
theorem rrp_rok {es : List Pr} {k : RK} (h : k.mt = true → es = []) : rok es (rr k) := by
  intro hne
  cases k
  · simp [rr]
  · exact absurd (h rfl) hne
  · simp [rr]
theorem cutp_lim (es : List Pr) : lim (cutp es).length := by simp only [lim, cutp, List.length_take]; omega
theorem r3c (p : Int) (l : List Int) (q : RK) (es : List Pr) (k : RK) (hl : pl l q) (he : pp es k) (hn : ¬ cls p l) : Body (En5 [b17.to, b18.to, c16c.to, b19.to, b20.to, b21.to]) none1 Tryd.f3 [I p, ls l (rr q), ps es (rr k)] .nil (.bool true, .nil) := by
  have zr : (lim (cut l).length ∧ rok (cut l) (rr q.cl)) ∧ (lim (cutp es).length ∧ rok (cutp es) (rr k.cl)) := ⟨⟨cut_lim l, cl_rok hl.2⟩, cutp_lim es, clp_rok he.2⟩
  have z1 : lim l.length ∧ rok l (rr q) := ⟨hl.1, rr_rok' hl.2⟩
  have z0 := (⟨zr, fun h => hn (cut_cls.1 h)⟩ : ((lim (cut l).length ∧ rok (cut l) (rr q.cl)) ∧ (lim (cutp es).length ∧ rok (cutp es) (rr k.cl))) ∧ ¬ cls p (cut l))
  have hd : decide (cls p l) = false := by rw [decide_eq_false_iff_not]; exact hn
  refine body_s ([Ans.o (Orc.val (12 : Nat) (AV.sl (ints (cut l)) (cut l).length (rr q.cl)) (H.mk [] [] [])), Ans.o (Orc.val (14 : Nat) (AV.sl (pairsA (cutp es)) (cutp es).length (rr k.cl)) (H.mk [] [] [])), Ans.o (Orc.val (15 : Nat) (AV.tup [AV.sl [] (0 : Nat) Room.nil, I (2 : Int)]) (H.mk [] [] [])), Ans.o (Orc.val (20 : Nat) (AV.bool false) (H.mk [] [] [])), Ans.o Orc.dflt, Ans.o Orc.dflt, Ans.o (Orc.val (36 : Nat) (AV.bool true) (H.mk [] [] []))]) (aCall (Sof [b17.to, b18.to, c16c.to, b19.to, b20.to, b21.to]) (AV.fn (Fn.func (17 : Nat)) [] []) [AV.sl (ints l) l.length (rr q)] (H.mk [] [] []) = some (AV.sl (ints (cut l)) (cut l).length (rr q.cl), H.mk [] [] []) ∧ aCall (Sof [b17.to, b18.to, c16c.to, b19.to, b20.to, b21.to]) (AV.fn (Fn.func (18 : Nat)) [] []) [AV.sl (pairsA es) es.length (rr k)] (H.mk [] [] []) = some (AV.sl (pairsA (cutp es)) (cutp es).length (rr k.cl), H.mk [] [] []) ∧ aCall (Sof [b17.to, b18.to, c16c.to, b19.to, b20.to, b21.to]) (AV.fn (Fn.func (16 : Nat)) [] []) [I p, AV.sl (ints (cut l)) (cut l).length (rr q.cl), AV.sl (pairsA (cutp es)) (cutp es).length (rr k.cl)] (H.mk [] [] []) = some (AV.tup [AV.sl [] (0 : Nat) Room.nil, I (2 : Int)], H.mk [] [] []) ∧ aCall (Sof [b17.to, b18.to, c16c.to, b19.to, b20.to, b21.to]) (AV.fn (Fn.func (19 : Nat)) [] []) [I p, AV.sl (ints l) l.length (rr q)] (H.mk [] [] []) = some (AV.bool false, H.mk [] [] []) ∧ aCall (Sof [b17.to, b18.to, c16c.to, b19.to, b20.to, b21.to]) (AV.fn (Fn.func (21 : Nat)) [] []) [] (H.mk [] [] []) = some (AV.bool true, H.mk [] [] []) ∧ (AV.bool true, H.mk [] [] []) = (AV.bool true, H.mk [] [] [])) (by kernel_rfl) ?_
  refine And.intro (by exact acall_hit (c := b17.to) (l, q) _ rfl hl) ?_
  refine And.intro (by exact acall_hit (c := b18.to) (es, k) _ rfl he) ?_
  refine And.intro (by exact acall_hit (c := c16c.to) (p, cut l, rr q.cl, cutp es, rr k.cl) _ rfl z0) ?_
  refine And.intro (by exact acall_b (acall_hit (c := b19.to) (p, l, rr q) _ rfl z1) hd) ?_
  refine And.intro (by exact acall_hit (c := b21.to) () _ rfl trivial) ?_
  first | with_reducible rfl | (refine bleaf_t ?_; first | omega | (simp only [small, tiny, rng, decide_eq_true_eq, decide_eq_false_iff_not, true_or, or_true, true_and, and_true, Int.reduceEq, Int.reduceNeg, eq_self, reduceIte, if_true, if_false] at *; omega)) | (refine bleaf_f ?_; first | omega | (simp only [small, tiny, rng, decide_eq_true_eq, decide_eq_false_iff_not, true_or, or_true, true_and, and_true, Int.reduceEq, Int.reduceNeg, eq_self, reduceIte, if_true, if_false] at *; omega)) | (refine ileaf ?_; first | omega | (simp only [small, tiny, rng, decide_eq_true_eq, decide_eq_false_iff_not, true_or, or_true, true_and, and_true, Int.reduceEq, Int.reduceNeg, eq_self, reduceIte, if_true, if_false] at *; omega)) | (exfalso; omega) | (simp only [Prod.mk.injEq, AV.agg.injEq, AV.tup.injEq, List.cons.injEq, AV.int.injEq, AV.bool.injEq, and_true, true_and]; (repeat' apply And.intro) <;> first | with_reducible rfl | (simp []; done) | (simp []; omega) | omega | (simp only [small, tiny, rng, decide_eq_true_eq, decide_eq_false_iff_not, true_or, or_true, true_and, and_true, Int.reduceEq, Int.reduceNeg, eq_self, reduceIte, if_true, if_false] at *; omega) | (simp [small, tiny, rng, decide_eq_true_eq, decide_eq_false_iff_not, true_or, or_true, true_and, and_true, Int.reduceEq, Int.reduceNeg, eq_self, reduceIte, if_true, if_false, *]; done) | (simp [small, tiny, rng, decide_eq_true_eq, decide_eq_false_iff_not, true_or, or_true, true_and, and_true, Int.reduceEq, Int.reduceNeg, eq_self, reduceIte, if_true, if_false, *]; omega)) | (exfalso; simp only [small, tiny, rng, decide_eq_true_eq, decide_eq_false_iff_not, true_or, or_true, true_and, and_true, Int.reduceEq, Int.reduceNeg, eq_self, reduceIte, if_true, if_false] at *; omega) | (simp [small, tiny, rng, decide_eq_true_eq, decide_eq_false_iff_not, true_or, or_true, true_and, and_true, Int.reduceEq, Int.reduceNeg, eq_self, reduceIte, if_true, if_false] at *; done) | (simp [small, tiny, rng, decide_eq_true_eq, decide_eq_false_iff_not, true_or, or_true, true_and, and_true, Int.reduceEq, Int.reduceNeg, eq_self, reduceIte, if_true, if_false] at *; omega)
theorem r3e (p : Int) (l : List Int) (q : RK) (es : List Pr) (k : RK) (hl : pl l q) (he : pp es k) (hc : cls p l) (hn : ¬ exs p es) : Body (En5 [b17.to, b18.to, c16e.to, b19.to, b20.to, b21.to]) none1 Tryd.f3 [I p, ls l (rr q), ps es (rr k)] .nil (.bool true, .nil) := by
  have zr : (lim (cut l).length ∧ rok (cut l) (rr q.cl)) ∧ (lim (cutp es).length ∧ rok (cutp es) (rr k.cl)) := ⟨⟨cut_lim l, cl_rok hl.2⟩, cutp_lim es, clp_rok he.2⟩
  have z1 : lim l.length ∧ rok l (rr q) := ⟨hl.1, rr_rok' hl.2⟩
  have z2 : lim es.length ∧ rok es (rr k) := ⟨he.1, rrp_rok he.2⟩
  have z0 := (⟨zr, cut_cls.2 hc, fun h => hn (cutp_exs.1 h)⟩ : ((lim (cut l).length ∧ rok (cut l) (rr q.cl)) ∧ (lim (cutp es).length ∧ rok (cutp es) (rr k.cl))) ∧ cls p (cut l) ∧ ¬ exs p (cutp es))
  have hd : decide (cls p l) = true := by rw [decide_eq_true_eq]; exact hc
  have hd2 : decide (exs p es) = false := by rw [decide_eq_false_iff_not]; exact hn
  refine body_s ([Ans.o (Orc.val (12 : Nat) (AV.sl (ints (cut l)) (cut l).length (rr q.cl)) (H.mk [] [] [])), Ans.o (Orc.val (14 : Nat) (AV.sl (pairsA (cutp es)) (cutp es).length (rr k.cl)) (H.mk [] [] [])), Ans.o (Orc.val (15 : Nat) (AV.tup [AV.sl [] (0 : Nat) Room.nil, I (2 : Int)]) (H.mk [] [] [])), Ans.o (Orc.val (20 : Nat) (AV.bool true) (H.mk [] [] [])), Ans.o (Orc.val (25 : Nat) (AV.bool false) (H.mk [] [] [])), Ans.o Orc.dflt, Ans.o Orc.dflt, Ans.o (Orc.val (36 : Nat) (AV.bool true) (H.mk [] [] []))]) (aCall (Sof [b17.to, b18.to, c16e.to, b19.to, b20.to, b21.to]) (AV.fn (Fn.func (17 : Nat)) [] []) [AV.sl (ints l) l.length (rr q)] (H.mk [] [] []) = some (AV.sl (ints (cut l)) (cut l).length (rr q.cl), H.mk [] [] []) ∧ aCall (Sof [b17.to, b18.to, c16e.to, b19.to, b20.to, b21.to]) (AV.fn (Fn.func (18 : Nat)) [] []) [AV.sl (pairsA es) es.length (rr k)] (H.mk [] [] []) = some (AV.sl (pairsA (cutp es)) (cutp es).length (rr k.cl), H.mk [] [] []) ∧ aCall (Sof [b17.to, b18.to, c16e.to, b19.to, b20.to, b21.to]) (AV.fn (Fn.func (16 : Nat)) [] []) [I p, AV.sl (ints (cut l)) (cut l).length (rr q.cl), AV.sl (pairsA (cutp es)) (cutp es).length (rr k.cl)] (H.mk [] [] []) = some (AV.tup [AV.sl [] (0 : Nat) Room.nil, I (2 : Int)], H.mk [] [] []) ∧ aCall (Sof [b17.to, b18.to, c16e.to, b19.to, b20.to, b21.to]) (AV.fn (Fn.func (19 : Nat)) [] []) [I p, AV.sl (ints l) l.length (rr q)] (H.mk [] [] []) = some (AV.bool true, H.mk [] [] []) ∧ aCall (Sof [b17.to, b18.to, c16e.to, b19.to, b20.to, b21.to]) (AV.fn (Fn.func (20 : Nat)) [] []) [I p, AV.sl (pairsA es) es.length (rr k)] (H.mk [] [] []) = some (AV.bool false, H.mk [] [] []) ∧ aCall (Sof [b17.to, b18.to, c16e.to, b19.to, b20.to, b21.to]) (AV.fn (Fn.func (21 : Nat)) [] []) [] (H.mk [] [] []) = some (AV.bool true, H.mk [] [] []) ∧ (AV.bool true, H.mk [] [] []) = (AV.bool true, H.mk [] [] [])) (by kernel_rfl) ?_
  refine And.intro (by exact acall_hit (c := b17.to) (l, q) _ rfl hl) ?_
  refine And.intro (by exact acall_hit (c := b18.to) (es, k) _ rfl he) ?_
  refine And.intro (by exact acall_hit (c := c16e.to) (p, cut l, rr q.cl, cutp es, rr k.cl) _ rfl z0) ?_
  refine And.intro (by exact acall_b (acall_hit (c := b19.to) (p, l, rr q) _ rfl z1) hd) ?_
  refine And.intro (by exact acall_b (acall_hit (c := b20.to) (p, es, rr k) _ rfl z2) hd2) ?_
  refine And.intro (by exact acall_hit (c := b21.to) () _ rfl trivial) ?_
  first | with_reducible rfl | (refine bleaf_t ?_; first | omega | (simp only [small, tiny, rng, decide_eq_true_eq, decide_eq_false_iff_not, true_or, or_true, true_and, and_true, Int.reduceEq, Int.reduceNeg, eq_self, reduceIte, if_true, if_false] at *; omega)) | (refine bleaf_f ?_; first | omega | (simp only [small, tiny, rng, decide_eq_true_eq, decide_eq_false_iff_not, true_or, or_true, true_and, and_true, Int.reduceEq, Int.reduceNeg, eq_self, reduceIte, if_true, if_false] at *; omega)) | (refine ileaf ?_; first | omega | (simp only [small, tiny, rng, decide_eq_true_eq, decide_eq_false_iff_not, true_or, or_true, true_and, and_true, Int.reduceEq, Int.reduceNeg, eq_self, reduceIte, if_true, if_false] at *; omega)) | (exfalso; omega) | (simp only [Prod.mk.injEq, AV.agg.injEq, AV.tup.injEq, List.cons.injEq, AV.int.injEq, AV.bool.injEq, and_true, true_and]; (repeat' apply And.intro) <;> first | with_reducible rfl | (simp []; done) | (simp []; omega) | omega | (simp only [small, tiny, rng, decide_eq_true_eq, decide_eq_false_iff_not, true_or, or_true, true_and, and_true, Int.reduceEq, Int.reduceNeg, eq_self, reduceIte, if_true, if_false] at *; omega) | (simp [small, tiny, rng, decide_eq_true_eq, decide_eq_false_iff_not, true_or, or_true, true_and, and_true, Int.reduceEq, Int.reduceNeg, eq_self, reduceIte, if_true, if_false, *]; done) | (simp [small, tiny, rng, decide_eq_true_eq, decide_eq_false_iff_not, true_or, or_true, true_and, and_true, Int.reduceEq, Int.reduceNeg, eq_self, reduceIte, if_true, if_false, *]; omega)) | (exfalso; simp only [small, tiny, rng, decide_eq_true_eq, decide_eq_false_iff_not, true_or, or_true, true_and, and_true, Int.reduceEq, Int.reduceNeg, eq_self, reduceIte, if_true, if_false] at *; omega) | (simp [small, tiny, rng, decide_eq_true_eq, decide_eq_false_iff_not, true_or, or_true, true_and, and_true, Int.reduceEq, Int.reduceNeg, eq_self, reduceIte, if_true, if_false] at *; done) | (simp [small, tiny, rng, decide_eq_true_eq, decide_eq_false_iff_not, true_or, or_true, true_and, and_true, Int.reduceEq, Int.reduceNeg, eq_self, reduceIte, if_true, if_false] at *; omega)
theorem r3g (p : Int) (l : List Int) (q : RK) (es : List Pr) (k : RK) (hl : pl l q) (he : pp es k) (hc : cls p l) (hx : exs p es) : Body (En5 [b17.to, b18.to, c16g.to, b19.to, b20.to, b23.to, c22.to, b21.to]) none1 Tryd.f3 [I p, ls l (rr q), ps es (rr k)] .nil (.bool true, .nil) := by
  have zr : (lim (cut l).length ∧ rok (cut l) (rr q.cl)) ∧ (lim (cutp es).length ∧ rok (cutp es) (rr k.cl)) := ⟨⟨cut_lim l, cl_rok hl.2⟩, cutp_lim es, clp_rok he.2⟩
  have z1 : lim l.length ∧ rok l (rr q) := ⟨hl.1, rr_rok' hl.2⟩
  have z2 : lim es.length ∧ rok es (rr k) := ⟨he.1, rrp_rok he.2⟩
  have z0 := (⟨zr, cut_cls.2 hc, cutp_exs.2 hx⟩ : ((lim (cut l).length ∧ rok (cut l) (rr q.cl)) ∧ (lim (cutp es).length ∧ rok (cutp es) (rr k.cl))) ∧ cls p (cut l) ∧ exs p (cutp es))
  have hd : decide (cls p l) = true := by rw [decide_eq_true_eq]; exact hc
  have hd2 : decide (exs p es) = true := by rw [decide_eq_true_eq]; exact hx
  have e1 := cut_same hc.2.2.1
  have e2 := cutp_same hx.1
  have hls := cls_lsn hc z1.2
  have hlf := lfL_lsn hc.1 es l (rr q) (exs_mem hx) hls
  have z23 : ∃ p, p5 p ∧ exs p es ∧ rok es (rr k) ∧ lst l (rr q) := ⟨p, hc.1, hx, z2.2, hls.1⟩
  have eq : lsO (lfF (cutp es) (sOf (cut l))) = lfL es l := by
    rw [e1, e2, ← hlf.2]
    exact lsO_sOf (lfL_rise es l (cls_rise hc)) hlf.1.1.2
  have hlm : lim (lsO (lfF (cutp es) (sOf (cut l)))).length := by have := lsO_len (lfF (cutp es) (sOf (cut l))); simp only [lim]; omega
  have z22 : lsO (lfF (cutp es) (sOf (cut l))) = lfL es l ∧ lim (lsO (lfF (cutp es) (sOf (cut l)))).length ∧ rok (lsO (lfF (cutp es) (sOf (cut l)))) (rn (lsO (lfF (cutp es) (sOf (cut l))))) ∧ rok (lfL es l) (lfR es (rr q) (lfL es l)) := ⟨eq, hlm, rn_rok _, hlf.1.1.1.2⟩
  refine body_s ([Ans.o (Orc.val (12 : Nat) (AV.sl (ints (cut l)) (cut l).length (rr q.cl)) (H.mk [] [] [])), Ans.o (Orc.val (14 : Nat) (AV.sl (pairsA (cutp es)) (cutp es).length (rr k.cl)) (H.mk [] [] [])), Ans.o (Orc.val (15 : Nat) (AV.tup [AV.sl (ints (lsO (lfF (cutp es) (sOf (cut l))))) (lsO (lfF (cutp es) (sOf (cut l)))).length (rn (lsO (lfF (cutp es) (sOf (cut l))))), I (0 : Int)]) (H.mk [] [] [])), Ans.o (Orc.val (20 : Nat) (AV.bool true) (H.mk [] [] [])), Ans.o (Orc.val (25 : Nat) (AV.bool true) (H.mk [] [] [])), Ans.o (Orc.val (41 : Nat) (AV.sl (ints (lfL es l)) (lfL es l).length (lfR es (rr q) (lfL es l))) (H.mk [] [] [])), Ans.o (Orc.val (42 : Nat) (AV.bool true) (H.mk [] [] [])), Ans.o Orc.dflt, Ans.o (Orc.val (48 : Nat) (AV.bool true) (H.mk [] [] []))]) (aCall (Sof [b17.to, b18.to, c16g.to, b19.to, b20.to, b23.to, c22.to, b21.to]) (AV.fn (Fn.func (17 : Nat)) [] []) [AV.sl (ints l) l.length (rr q)] (H.mk [] [] []) = some (AV.sl (ints (cut l)) (cut l).length (rr q.cl), H.mk [] [] []) ∧ aCall (Sof [b17.to, b18.to, c16g.to, b19.to, b20.to, b23.to, c22.to, b21.to]) (AV.fn (Fn.func (18 : Nat)) [] []) [AV.sl (pairsA es) es.length (rr k)] (H.mk [] [] []) = some (AV.sl (pairsA (cutp es)) (cutp es).length (rr k.cl), H.mk [] [] []) ∧ aCall (Sof [b17.to, b18.to, c16g.to, b19.to, b20.to, b23.to, c22.to, b21.to]) (AV.fn (Fn.func (16 : Nat)) [] []) [I p, AV.sl (ints (cut l)) (cut l).length (rr q.cl), AV.sl (pairsA (cutp es)) (cutp es).length (rr k.cl)] (H.mk [] [] []) = some (AV.tup [AV.sl (ints (lsO (lfF (cutp es) (sOf (cut l))))) (lsO (lfF (cutp es) (sOf (cut l)))).length (rn (lsO (lfF (cutp es) (sOf (cut l))))), I (0 : Int)], H.mk [] [] []) ∧ aCall (Sof [b17.to, b18.to, c16g.to, b19.to, b20.to, b23.to, c22.to, b21.to]) (AV.fn (Fn.func (19 : Nat)) [] []) [I p, AV.sl (ints l) l.length (rr q)] (H.mk [] [] []) = some (AV.bool true, H.mk [] [] []) ∧ aCall (Sof [b17.to, b18.to, c16g.to, b19.to, b20.to, b23.to, c22.to, b21.to]) (AV.fn (Fn.func (20 : Nat)) [] []) [I p, AV.sl (pairsA es) es.length (rr k)] (H.mk [] [] []) = some (AV.bool true, H.mk [] [] []) ∧ aCall (Sof [b17.to, b18.to, c16g.to, b19.to, b20.to, b23.to, c22.to, b21.to]) (AV.fn (Fn.func (23 : Nat)) [] []) [AV.sl (ints l) l.length (rr q), AV.sl (pairsA es) es.length (rr k)] (H.mk [] [] []) = some (AV.sl (ints (lfL es l)) (lfL es l).length (lfR es (rr q) (lfL es l)), H.mk [] [] []) ∧ aCall (Sof [b17.to, b18.to, c16g.to, b19.to, b20.to, b23.to, c22.to, b21.to]) (AV.fn (Fn.func (22 : Nat)) [] []) [AV.sl (ints (lsO (lfF (cutp es) (sOf (cut l))))) (lsO (lfF (cutp es) (sOf (cut l)))).length (rn (lsO (lfF (cutp es) (sOf (cut l))))), AV.sl (ints (lfL es l)) (lfL es l).length (lfR es (rr q) (lfL es l))] (H.mk [] [] []) = some (AV.bool true, H.mk [] [] []) ∧ aCall (Sof [b17.to, b18.to, c16g.to, b19.to, b20.to, b23.to, c22.to, b21.to]) (AV.fn (Fn.func (21 : Nat)) [] []) [] (H.mk [] [] []) = some (AV.bool true, H.mk [] [] []) ∧ (AV.bool true, H.mk [] [] []) = (AV.bool true, H.mk [] [] [])) (by kernel_rfl) ?_
  refine And.intro (by exact acall_hit (c := b17.to) (l, q) _ rfl hl) ?_
  refine And.intro (by exact acall_hit (c := b18.to) (es, k) _ rfl he) ?_
  refine And.intro (by exact acall_hit (c := c16g.to) (p, cut l, rr q.cl, cutp es, rr k.cl) _ rfl z0) ?_
  refine And.intro (by exact acall_b (acall_hit (c := b19.to) (p, l, rr q) _ rfl z1) hd) ?_
  refine And.intro (by exact acall_b (acall_hit (c := b20.to) (p, es, rr k) _ rfl z2) hd2) ?_
  refine And.intro (by exact acall_hit (c := b23.to) (l, rr q, es, rr k) _ rfl z23) ?_
  refine And.intro (by exact acall_hit (c := c22.to) (lsO (lfF (cutp es) (sOf (cut l))), rn (lsO (lfF (cutp es) (sOf (cut l)))), lfL es l, lfR es (rr q) (lfL es l)) _ rfl z22) ?_
  refine And.intro (by exact acall_hit (c := b21.to) () _ rfl trivial) ?_
  first | with_reducible rfl | (refine bleaf_t ?_; first | omega | (simp only [small, tiny, rng, decide_eq_true_eq, decide_eq_false_iff_not, true_or, or_true, true_and, and_true, Int.reduceEq, Int.reduceNeg, eq_self, reduceIte, if_true, if_false] at *; omega)) | (refine bleaf_f ?_; first | omega | (simp only [small, tiny, rng, decide_eq_true_eq, decide_eq_false_iff_not, true_or, or_true, true_and, and_true, Int.reduceEq, Int.reduceNeg, eq_self, reduceIte, if_true, if_false] at *; omega)) | (refine ileaf ?_; first | omega | (simp only [small, tiny, rng, decide_eq_true_eq, decide_eq_false_iff_not, true_or, or_true, true_and, and_true, Int.reduceEq, Int.reduceNeg, eq_self, reduceIte, if_true, if_false] at *; omega)) | (exfalso; omega) | (simp only [Prod.mk.injEq, AV.agg.injEq, AV.tup.injEq, List.cons.injEq, AV.int.injEq, AV.bool.injEq, and_true, true_and]; (repeat' apply And.intro) <;> first | with_reducible rfl | (simp []; done) | (simp []; omega) | omega | (simp only [small, tiny, rng, decide_eq_true_eq, decide_eq_false_iff_not, true_or, or_true, true_and, and_true, Int.reduceEq, Int.reduceNeg, eq_self, reduceIte, if_true, if_false] at *; omega) | (simp [small, tiny, rng, decide_eq_true_eq, decide_eq_false_iff_not, true_or, or_true, true_and, and_true, Int.reduceEq, Int.reduceNeg, eq_self, reduceIte, if_true, if_false, *]; done) | (simp [small, tiny, rng, decide_eq_true_eq, decide_eq_false_iff_not, true_or, or_true, true_and, and_true, Int.reduceEq, Int.reduceNeg, eq_self, reduceIte, if_true, if_false, *]; omega)) | (exfalso; simp only [small, tiny, rng, decide_eq_true_eq, decide_eq_false_iff_not, true_or, or_true, true_and, and_true, Int.reduceEq, Int.reduceNeg, eq_self, reduceIte, if_true, if_false] at *; omega) | (simp [small, tiny, rng, decide_eq_true_eq, decide_eq_false_iff_not, true_or, or_true, true_and, and_true, Int.reduceEq, Int.reduceNeg, eq_self, reduceIte, if_true, if_false] at *; done) | (simp [small, tiny, rng, decide_eq_true_eq, decide_eq_false_iff_not, true_or, or_true, true_and, and_true, Int.reduceEq, Int.reduceNeg, eq_self, reduceIte, if_true, if_false] at *; omega)
theorem left_ok (p : Int) (l : List Int) (q : RK) (es : List Pr) (k : RK) (h1 : lim l.length) (h2 : q.mt = true → l = []) (h3 : lim es.length) (h4 : k.mt = true → es = []) : CallOk Tryd.prog 3 [I p, ls l (rr q), ps es (rr k)] .nil (.bool true) .nil := by
  by_cases hc : cls p l
  · by_cases hx : exs p es
    · exact (r3g p l q es k ⟨h1, h2⟩ ⟨h3, h4⟩ hc hx).run ok3 (.pure _ (.pure _ (.pure _ (.pure _ (.pure _ (.pure _ (.pure _ (.pure _ .nil)))))))) rfl
    · exact (r3e p l q es k ⟨h1, h2⟩ ⟨h3, h4⟩ hc hx).run ok3 (.pure _ (.pure _ (.pure _ (.pure _ (.pure _ (.pure _ .nil)))))) rfl
  · exact (r3c p l q es k ⟨h1, h2⟩ ⟨h3, h4⟩ hc).run ok3 (.pure _ (.pure _ (.pure _ (.pure _ (.pure _ (.pure _ .nil)))))) rfl
end Go.Proofs.Lrn
