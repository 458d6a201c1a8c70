/- Layer 4: examples, and what is left by them. -/
import Derived.Test.YtdnidpojcocklaaDoorLnV3
import Derived.Test.YtdnidpojcocklaaDoorLnV2
import Derived.Test.YtdnidpojcocklaaDoorLnT1
import Derived.KernelRfl
set_option linter.unusedSimpArgs false
set_option linter.unusedVariables false
set_option linter.unnecessarySimpa false
set_option maxHeartbeats 4000000
set_option maxRecDepth 100000
namespace Go.Proofs.Lrn
open Go Go.VM

/-- what is left of a class -/
def lfL : List Pr → List Int → List Int
  | [], l => l
  | e :: es, l => lfL es (spl l e.1 e.2)
theorem lfL_drop {es : List Pr} {j : Nat} (h : j < es.length) (l : List Int) : lfL (es.drop j) l = lfL (es.drop (j + 1)) (spl l (es.getD j pair0).1 (es.getD j pair0).2) := by
  have e : es.getD j pair0 = es[j] := by simp [List.getD_eq_getElem?_getD, List.getElem?_eq_getElem h]
  rw [List.drop_eq_getElem_cons h, e]; rfl
def lfR (es : List Pr) (r : Room) (l : List Int) : Room := match es with
  | [] => r.wk
  | _ :: _ => rn l
theorem lfR_bnd (es : List Pr) (r : Room) (l : List Int) : (lfR es r l).bnd 0 = true := by cases es <;> exact rm_wk_bnd _
abbrev o23 (es : List Pr) (l : List Int) (r : Room) : List Out :=
  [.mk Unit (.exit 0) [0] (fun _ => True) (fun _ => [ls (lfL es l) (lfR es r (lfL es l))]) (fun _ => .nil) (fun _ => [])]
theorem simp23 : allSimpleM none1 (loopAt Tryd.f23 0) = true := by kernel_rfl
theorem lp23 (p : Int) (es : List Pr) (q : Room) (l : List Int) (r : Room) (h0 : p5 p) (h1 : exs p es) (h2 : rok es q) (hl : lst l r) :
    LoopS (En4 [c57.to]) (loopAt Tryd.f23 0) 21 [0, 7, 8, 9] [ls l r.wk, ps es q.wk, I es.length, I 0] .nil (o23 es l r) := by
  have hR : Rests (En4 [c57.to]) none1 := rests mixed (.pure _ .nil)
  refine loop_s hR simp23 (some 0) (by intro nb h; cases h; exact ⟨Nat.zero_le _, Nat.le_refl 0⟩) (fun j vs h => ∃ m : List Int, h = .nil ∧ vs = [ls m (lfR (es.take j) r m), ps es q.wk, I es.length, I j] ∧ lfL es l = lfL (es.drop j) m ∧ lst m (lfR (es.take j) r m)) es.length ⟨l, rfl, rfl, rfl, by simpa [lfR] using hl⟩ (by rintro nb h j vs h' ⟨m, rfl, _⟩; cases h; exact Nat.le_refl 0) ?_
  have h3 : rok es q.wk := by simpa using h2
  have hle := h1.1
  rintro j vs h hj ⟨m, rfl, rfl, ha, hm⟩
  by_cases hz : (j : Int) < es.length
  · have hz' : j < es.length := by omega
    have hr := rok_idx h3 hz'
    have hq := h1.2 j hz'
    have et : es.take (j + 1) = (es.take j) ++ [es[j]] := by rw [List.take_add_one, List.getElem?_eq_getElem hz']; rfl
    have er : lfR (es.take (j + 1)) r (spl m (es.getD j pair0).1 (es.getD j pair0).2) = rn (spl m (es.getD j pair0).1 (es.getD j pair0).2) := by
      rw [et]; cases es.take j <;> rfl
    have hcl : AV.bnds 0 0 0 [ls (spl m (es.getD j pair0).1 (es.getD j pair0).2) (rn (spl m (es.getD j pair0).1 (es.getD j pair0).2)), ps es q.wk, I es.length, I (j + 1 : Nat)] = true := by simp [AV.bnds, AV.bnd, rm_wk_bnd]
    have z : (m.length ≤ 1000 ∧ rok m (lfR (es.take j) r m)) ∧ inL m ∧ is5 (es.getD j pair0).1 := ⟨hm.1, hm.2, hq.1.1, by have := hq.1.2; have := h0.2; omega⟩
    have hm2 := spl_lst hm (es.getD j pair0).1 (es.getD j pair0).2
    rw [lfL_drop hz'] at ha
    refine ⟨[Ans.o (Orc.b true), Ans.o (Orc.val (11 : Nat) (AV.cptr (pairsA (List.drop j es))) H.nil), Ans.o (Orc.val (12 : Nat) (AV.agg [I (es.getD j pair0).fst, I (es.getD j pair0).snd]) H.nil), Ans.o (Orc.val (18 : Nat) (AV.sl (ints (spl m (es.getD j pair0).fst (es.getD j pair0).snd)) (spl m (es.getD j pair0).fst (es.getD j pair0).snd).length (rn (spl m (es.getD j pair0).fst (es.getD j pair0).snd))) (H.mk [[I (es.getD j pair0).fst, I (es.getD j pair0).snd]] [] []))], fun u => of_eq ((↑j : Int) < (↑es.length : Int) ∧ aIndexAddr Tryd.prog (23 : Nat) (AV.sl (pairsA es) es.length q.wk) (I (↑j : Int)) = some (AV.cptr (pairsA (List.drop j es))) ∧ aLoad Tryd.prog (63 : Nat) (pairsA (List.drop j es)) = some (AV.agg [I (es.getD j pair0).fst, I (es.getD j pair0).snd]) ∧ aCall (Sof [c57.to]) (AV.fn (Fn.func (57 : Nat)) [] []) [AV.sl (ints m) m.length (lfR (List.take j es) r m), I (es.getD j pair0).fst, I (es.getD j pair0).snd] (H.mk [[I (es.getD j pair0).fst, I (es.getD j pair0).snd]] [] []) = some (AV.sl (ints (spl m (es.getD j pair0).fst (es.getD j pair0).snd)) (spl m (es.getD j pair0).fst (es.getD j pair0).snd).length (rn (spl m (es.getD j pair0).fst (es.getD j pair0).snd)), H.mk [[I (es.getD j pair0).fst, I (es.getD j pair0).snd]] [] []) ∧ IntKind.i64.wrap ((↑j : Int) + (1 : Int)) = (↑j : Int) + (1 : Int) ∧ (21 : Nat) = (21 : Nat) ∧ j < es.length ∧ Keep (AV.bnds (0 : Nat) (0 : Nat) (0 : Nat) [AV.sl (ints (spl m (es.getD j pair0).fst (es.getD j pair0).snd)) (spl m (es.getD j pair0).fst (es.getD j pair0).snd).length (rn (spl m (es.getD j pair0).fst (es.getD j pair0).snd)), AV.sl (pairsA es) es.length q.wk, I (↑es.length : Int), I ((↑j : Int) + (1 : Int))] = true ∧ (H.mk [[I (es.getD j pair0).fst, I (es.getD j pair0).snd]] [] []).clean (0 : Nat) ∧ ∃ m_1, H.mk [] [] [] = H.mk [] [] [] ∧ [AV.sl (ints (spl m (es.getD j pair0).fst (es.getD j pair0).snd)) (spl m (es.getD j pair0).fst (es.getD j pair0).snd).length (rn (spl m (es.getD j pair0).fst (es.getD j pair0).snd)), AV.sl (pairsA es) es.length q.wk, I (↑es.length : Int), I ((↑j : Int) + (1 : Int))] = [AV.sl (ints m_1) m_1.length (lfR (List.take (j + (1 : Nat)) es) r m_1), AV.sl (pairsA es) es.length q.wk, I (↑es.length : Int), I (↑(j + (1 : Nat)) : Int)] ∧ lfL es l = lfL (List.drop (j + (1 : Nat)) es) m_1 ∧ lst m_1 (lfR (List.take (j + (1 : Nat)) es) r m_1))) (by kernel_rfl) ?_⟩
    refine And.intro (by first | assumption | omega | (simp only [small, tiny, rng, decide_eq_true_eq, decide_eq_false_iff_not, true_or, or_true, true_and, and_true, Int.reduceEq, Int.reduceNeg, eq_self, reduceIte, if_true, if_false] at *; omega) | (simp [small, tiny, rng, decide_eq_true_eq, decide_eq_false_iff_not, true_or, or_true, true_and, and_true, Int.reduceEq, Int.reduceNeg, eq_self, reduceIte, if_true, if_false] at *; done)) ?_
    refine And.intro (by first | exact ix_pairs (by kernel_rfl) (by omega) (by assumption) | exact ix_pairs (by kernel_rfl) (by omega) (rok_idx (by assumption) (by omega))) ?_
    refine And.intro (by exact ld_pairs (by kernel_rfl) (by kernel_rfl) (by kernel_rfl) (by omega)) ?_
    refine And.intro (by exact acall_hit (c := c57.to) (m, lfR (es.take j) r m, (es.getD j pair0).1, (es.getD j pair0).2) _ rfl z) ?_
    refine And.intro (by first | exact wr _ (by omega) (by omega) | (refine wr _ ?_ ?_ <;> (simp only [small, tiny, rng, decide_eq_true_eq, decide_eq_false_iff_not, true_or, or_true, true_and, and_true, Int.reduceEq, Int.reduceNeg, eq_self, reduceIte, if_true, if_false] at *; omega))) ?_
    refine And.intro (by first | assumption | omega | (simp only [small, tiny, rng, decide_eq_true_eq, decide_eq_false_iff_not, true_or, or_true, true_and, and_true, Int.reduceEq, Int.reduceNeg, eq_self, reduceIte, if_true, if_false] at *; omega) | (simp [small, tiny, rng, decide_eq_true_eq, decide_eq_false_iff_not, true_or, or_true, true_and, and_true, Int.reduceEq, Int.reduceNeg, eq_self, reduceIte, if_true, if_false] at *; done)) ?_
    refine And.intro (by first | assumption | omega | (simp only [small, tiny, rng, decide_eq_true_eq, decide_eq_false_iff_not, true_or, or_true, true_and, and_true, Int.reduceEq, Int.reduceNeg, eq_self, reduceIte, if_true, if_false] at *; omega) | (simp [small, tiny, rng, decide_eq_true_eq, decide_eq_false_iff_not, true_or, or_true, true_and, and_true, Int.reduceEq, Int.reduceNeg, eq_self, reduceIte, if_true, if_false] at *; done)) ?_
    exact ⟨hcl, clean0 _, _, rfl, by rw [er]; rfl, ha, by rw [er]; exact hm2⟩
  · have hz : (es.length : Int) ≤ j := by omega
    have e : j = es.length := by omega
    subst e
    rw [List.drop_length] at ha
    have ha : lfL es l = m := ha
    subst ha
    refine ⟨[Ans.o (Orc.b false)], fun u => of_eq ((↑es.length : Int) ≤ (↑es.length : Int) ∧ (21 : Nat) = (21 : Nat) ∧ hits [Out.mk Unit (AX.exit (0 : Nat)) [(0 : Nat)] (fun x => True) (fun x => [ls (lfL es l) (lfR es r (lfL es l))]) (fun x => H.nil) fun x => []] (AX.exit (0 : Nat)) [AV.sl (ints (lfL es l)) (lfL es l).length (lfR (List.take es.length es) r (lfL es l)), u (1 : Nat), u (2 : Nat), u (3 : Nat), u (4 : Nat), u (5 : Nat), u (6 : Nat), AV.sl (pairsA es) es.length q.wk, I (↑es.length : Int), I (↑es.length : Int), AV.bool false, u (11 : Nat), u (12 : Nat), u (13 : Nat), u (14 : Nat), u (15 : Nat), u (16 : Nat), u (17 : Nat), u (18 : Nat), u (19 : Nat), u (20 : Nat)] (H.mk [] [] [])) (by kernel_rfl) ?_⟩
    refine And.intro (by first | assumption | omega | (simp only [small, tiny, rng, decide_eq_true_eq, decide_eq_false_iff_not, true_or, or_true, true_and, and_true, Int.reduceEq, Int.reduceNeg, eq_self, reduceIte, if_true, if_false] at *; omega) | (simp [small, tiny, rng, decide_eq_true_eq, decide_eq_false_iff_not, true_or, or_true, true_and, and_true, Int.reduceEq, Int.reduceNeg, eq_self, reduceIte, if_true, if_false] at *; done)) ?_
    refine And.intro (by first | assumption | omega | (simp only [small, tiny, rng, decide_eq_true_eq, decide_eq_false_iff_not, true_or, or_true, true_and, and_true, Int.reduceEq, Int.reduceNeg, eq_self, reduceIte, if_true, if_false] at *; omega) | (simp [small, tiny, rng, decide_eq_true_eq, decide_eq_false_iff_not, true_or, or_true, true_and, and_true, Int.reduceEq, Int.reduceNeg, eq_self, reduceIte, if_true, if_false] at *; done)) ?_
    exact .inl ⟨(), trivial, rfl, by first | rfl | (rw [List.take_length]; rfl), rfl⟩
theorem ok23 : FokM Tryd.prog none1 23 Tryd.f23 := ⟨mixed, by kernel_rfl, by kernel_rfl, by kernel_rfl, by kernel_rfl⟩
theorem r23 (p : Int) (es : List Pr) (q : Room) (l : List Int) (r : Room) (h0 : p5 p) (h1 : exs p es) (h2 : rok es q) (hl : lst l r) : Body (En4 [c57.to]) none1 Tryd.f23 [ls l r.wk, ps es q.wk] .nil (ls (lfL es l) (lfR es r (lfL es l)), .nil) := by
  refine body_s ([Ans.loop [(0 : Nat), (7 : Nat), (8 : Nat), (9 : Nat)] [Out.mk Unit (AX.exit (0 : Nat)) [(0 : Nat)] (fun x => True) (fun x => [ls (lfL es l) (lfR es r (lfL es l))]) (fun x => H.nil) fun y => []]]) (LoopS (Env.mk Tryd.prog (Sof [c57.to]) (Pof (P := Tryd.prog) []) H.nil.base (300 : Nat)) (loopAt Tryd.f23 (0 : Nat)) (21 : Nat) [(0 : Nat), (7 : Nat), (8 : Nat), (9 : Nat)] [AV.sl (ints l) l.length r.wk, AV.sl (pairsA es) es.length q.wk, I (↑es.length : Int), I (0 : Int)] (H.mk [] [] []) [Out.mk Unit (AX.exit (0 : Nat)) [(0 : Nat)] (fun x => True) (fun x => [ls (lfL es l) (lfR es r (lfL es l))]) (fun x => H.nil) fun y => []] ∧ (∀ (y : Unit), True → ∀ (u : Nat → AV), leave (Base.mk H.nil.blk.length H.nil.toks.length H.nil.maps.length) (AV.sl (ints (lfL es l)) (lfL es l).length (lfR es r (lfL es l))) (H.mk [] [] []) = (AV.sl (ints (lfL es l)) (lfL es l).length (lfR es r (lfL es l)), H.mk [] [] [])) ∧ True) (by kernel_rfl) ?_
  refine And.intro (by exact lp23 p es q l r h0 h1 h2 hl) ?_
  refine And.intro ?_ ?_
  · skip
    intro y
    intro w1
    intro u
    exact leave_same (h := H.nil) (by simp [AV.bnd, lfR_bnd])
  · skip
    trivial
noncomputable def c23 : PCtr Tryd.prog := sctr ok23 (X := List Int × Room × List Pr × Room) (fun x => [ls x.1 x.2.1, ps x.2.2.1 x.2.2.2]) (fun x => ∃ p, p5 p ∧ exs p x.2.2.1 ∧ rok x.2.2.1 x.2.2.2 ∧ lst x.1 x.2.1) (fun x => ls (lfL x.2.2.1 x.1) (lfR x.2.2.1 x.2.1 (lfL x.2.2.1 x.1)))
  (by intro x y e _ _; simp at e; simp [e]) (fun x => by simp [AV.bnds, AV.bnd, AV.wk, rm_wk_bnd]) (fun x => by simp [AV.bnd, lfR_bnd]) (fun x hx => by
    obtain ⟨p, h0, h1, h2, h3⟩ := hx
    exact ⟨_, _, _, .pure c57 .nil, r23 p x.2.2.1 x.2.2.2 x.1 x.2.1 h0 h1 h2 h3⟩)
theorem lfL_lsn {p : Int} (h0 : p5 p) : ∀ (es : List Pr) (l : List Int) (r : Room), (∀ e ∈ es, (0 ≤ e.1 ∧ e.1 < p) ∧ (e.2 = 0 ∨ e.2 = 1)) → lsn l r → lsn (lfL es l) (lfR es r (lfL es l)) ∧ sOf (lfL es l) = lfF es (sOf l)
  | [], l, r, _, h => ⟨by simpa [lfL, lfR] using h, rfl⟩
  | e :: es, l, r, he, h => by
    have hq := he e (by simp)
    have ih := lfL_lsn h0 es (spl l e.1 e.2) (rn (spl l e.1 e.2)) (fun d hd => he d (by simp [hd])) (spl_lsn h e.1 e.2)
    have hx : is5 e.1 := ⟨hq.1.1, by have := hq.1.2; have := h0.2; omega⟩
    rw [sOf_spl h.1.2 hx hq.2] at ih
    refine ⟨⟨⟨⟨ih.1.1.1.1, ?_⟩, ih.1.1.2⟩, ih.1.2⟩, ih.2⟩
    exact rn_rok _
theorem exs_mem {p : Int} {l : List Pr} (h : exs p l) : ∀ e ∈ l, (0 ≤ e.1 ∧ e.1 < p) ∧ (e.2 = 0 ∨ e.2 = 1) := by
  intro e he
  obtain ⟨i, hi, rfl⟩ := List.mem_iff_getElem.1 he
  have := h.2 i hi
  have e2 : l.getD i pair0 = l[i] := by simp [List.getD_eq_getElem?_getD, List.getElem?_eq_getElem hi]
  rw [exq, e2] at this
  exact this
theorem ok33 : FokM Tryd.prog none1 33 Tryd.f33 := ⟨mixed, by kernel_rfl, by kernel_rfl, by kernel_rfl, by kernel_rfl⟩
theorem r33 (l : List Int) (r : Room) (hp : lim l.length) : Body ⟨Tryd.prog, Sof (P := Tryd.prog) [], Pof (P := Tryd.prog) [], H.nil.base, 300⟩ none1 Tryd.f33 [ls l r] .nil (I (if l = [] then 5 else 0), .nil) := by
  by_cases h : l = []
  · subst h
    refine body_s ([Ans.o Orc.dflt]) ((I (5 : Int), H.mk [] [] []) = (I (5 : Int), H.mk [] [] [])) (by kernel_rfl) ?_
    first | with_reducible rfl | (refine bleaf_t ?_; first | omega | (simp only [small, tiny, rng, decide_eq_true_eq, decide_eq_false_iff_not, true_or, or_true, true_and, and_true, Int.reduceEq, Int.reduceNeg, eq_self, reduceIte, if_true, if_false] at *; omega)) | (refine bleaf_f ?_; first | omega | (simp only [small, tiny, rng, decide_eq_true_eq, decide_eq_false_iff_not, true_or, or_true, true_and, and_true, Int.reduceEq, Int.reduceNeg, eq_self, reduceIte, if_true, if_false] at *; omega)) | (refine ileaf ?_; first | omega | (simp only [small, tiny, rng, decide_eq_true_eq, decide_eq_false_iff_not, true_or, or_true, true_and, and_true, Int.reduceEq, Int.reduceNeg, eq_self, reduceIte, if_true, if_false] at *; omega)) | (exfalso; omega) | (simp only [Prod.mk.injEq, AV.agg.injEq, AV.tup.injEq, List.cons.injEq, AV.int.injEq, AV.bool.injEq, and_true, true_and]; (repeat' apply And.intro) <;> first | with_reducible rfl | (simp []; done) | (simp []; omega) | omega | (simp only [small, tiny, rng, decide_eq_true_eq, decide_eq_false_iff_not, true_or, or_true, true_and, and_true, Int.reduceEq, Int.reduceNeg, eq_self, reduceIte, if_true, if_false] at *; omega) | (simp [small, tiny, rng, decide_eq_true_eq, decide_eq_false_iff_not, true_or, or_true, true_and, and_true, Int.reduceEq, Int.reduceNeg, eq_self, reduceIte, if_true, if_false, *]; done) | (simp [small, tiny, rng, decide_eq_true_eq, decide_eq_false_iff_not, true_or, or_true, true_and, and_true, Int.reduceEq, Int.reduceNeg, eq_self, reduceIte, if_true, if_false, *]; omega)) | (exfalso; simp only [small, tiny, rng, decide_eq_true_eq, decide_eq_false_iff_not, true_or, or_true, true_and, and_true, Int.reduceEq, Int.reduceNeg, eq_self, reduceIte, if_true, if_false] at *; omega) | (simp [small, tiny, rng, decide_eq_true_eq, decide_eq_false_iff_not, true_or, or_true, true_and, and_true, Int.reduceEq, Int.reduceNeg, eq_self, reduceIte, if_true, if_false] at *; done) | (simp [small, tiny, rng, decide_eq_true_eq, decide_eq_false_iff_not, true_or, or_true, true_and, and_true, Int.reduceEq, Int.reduceNeg, eq_self, reduceIte, if_true, if_false] at *; omega)
  · have hz : (l.length : Int) ≠ 0 := fun e => h (List.length_eq_zero_iff.1 (by omega))
    refine body_s ([Ans.o (Orc.b false)]) ((↑l.length : Int) ≠ (0 : Int) ∧ (I (0 : Int), H.mk [] [] []) = (I (if l = [] then (5 : Int) else (0 : Int)), H.mk [] [] [])) (by kernel_rfl) ?_
    refine And.intro (by first | assumption | omega | (simp only [small, tiny, rng, decide_eq_true_eq, decide_eq_false_iff_not, true_or, or_true, true_and, and_true, Int.reduceEq, Int.reduceNeg, eq_self, reduceIte, if_true, if_false] at *; omega) | (simp [small, tiny, rng, decide_eq_true_eq, decide_eq_false_iff_not, true_or, or_true, true_and, and_true, Int.reduceEq, Int.reduceNeg, eq_self, reduceIte, if_true, if_false] at *; done)) ?_
    rw [if_neg h]
noncomputable def c33 : PCtr Tryd.prog := sctr ok33 (X := List Int × Room) (fun x => [ls x.1 x.2]) (fun x => lim x.1.length) (fun x => I (if x.1 = [] then 5 else 0)) (by intro x y e _ _; simp at e; simp [e]) (fun x => by simp [AV.bnds, AV.bnd, AV.wk, rm_wk_bnd]) (fun x => by first | rfl | (simp [AV.bnd, rm_wk_bnd]; done) | simp [AV.bnd, AV.bnds, Room.bnd, rm_wk_bnd]) (fun x hx => ⟨_, _, _, .nil, r33 (x.1) (x.2).wk (by first | exact hx | (simp only [rok_wk]; exact hx) | (simp only [rok_wk, lst_wk]; exact hx) | (simp only [rok_wk, lst_wk, lsn_wk]; exact hx))⟩)
end Go.Proofs.Lrn
