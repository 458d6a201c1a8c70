/- Layer 2: pairs of players: whether they are some, by the program. -/
import Derived.Test.YtnnhomkkggkkfaaDoorRkM
import Derived.Test.YtnnhomkkggkkfaaDoorRkC
import Derived.Test.YtnnhomkkggkkfaaDoorVm9
import Derived.Test.YtnnhomkkggkkfaaDoorVm8
import Derived.KernelRfl
set_option linter.unusedSimpArgs false
set_option linter.unusedVariables false
set_option linter.unnecessarySimpa false
set_option maxHeartbeats 4000000
set_option maxRecDepth 100000
namespace Go.Proofs.Rnk
open Go Go.VM
open Go.Proofs.Sur (andn andn_bit andn_le i_wrap i_and i_or i_andn i_shl i_shr bit_01)

abbrev pz (l : List Pr) (r : Room) : AV := .sl (pairsA l) l.length r
/-- the first place of a pair -/
noncomputable def ixP (l : List Pr) (p : Pr) : Int := if p ∈ l then ((l.findIdx (fun q => decide (q = p)) : Nat) : Int) else -1
theorem ixP_none {l : List Pr} {p : Pr} (h : ∀ i, i < l.length → l.getD i pair0 ≠ p) : ixP l p = -1 := by
  rw [ixP, if_neg]
  intro hm
  obtain ⟨i, hi, e⟩ := List.getElem_of_mem hm
  apply h i hi
  rw [List.getD_eq_getElem?_getD, List.getElem?_eq_getElem hi]; exact e
theorem ixP_some {l : List Pr} {p : Pr} {k : Nat} (hk : k < l.length) (e : l.getD k pair0 = p) (h : ∀ i, i < k → l.getD i pair0 ≠ p) : ixP l p = (k : Int) := by
  have hg : ∀ i, (hi : i < l.length) → l.getD i pair0 = l[i] := fun i hi => by rw [List.getD_eq_getElem?_getD, List.getElem?_eq_getElem hi]; rfl
  rw [ixP, if_pos (by rw [← e, hg k hk]; exact List.getElem_mem hk)]
  have : l.findIdx (fun q => decide (q = p)) = k := by
    rw [List.findIdx_eq hk]
    refine ⟨by rw [← hg k hk]; simpa using e, fun j hj => ?_⟩
    have := h j hj
    rw [hg j (by omega)] at this
    simpa using this
  rw [this]
theorem ixP_mem {l : List Pr} {p : Pr} : 0 ≤ ixP l p ↔ p ∈ l := by
  rw [ixP]; split
  · rename_i h; exact ⟨fun _ => h, fun _ => by omega⟩
  · rename_i h; exact ⟨fun q => by omega, fun q => absurd q h⟩
theorem eqP_t {x y : Int} {q : Pr} (h : (x == q.1 && (y == q.2 && true)) = true) : q = (x, y) := by
  simp only [Bool.and_true, Bool.and_eq_true, beq_iff_eq] at h
  exact Prod.ext h.1.symm h.2.symm
theorem eqP_f {x y : Int} {q : Pr} (h : (x == q.1 && (y == q.2 && true)) = false) : q ≠ (x, y) := fun e => by
  subst e; simp at h
abbrev o122 (l : List Pr) (x y : Int) : List Out :=
  [.mk Nat .ret [4] (fun k => ixP l (x, y) = (k : Int)) (fun k => [I (k : Nat)]) (fun _ => ⟨[[I x, I y]], [], []⟩) (fun _ => []), .mk Unit (.exit 0) [] (fun _ => ixP l (x, y) = -1) (fun _ => []) (fun _ => ⟨[[I x, I y]], [], []⟩) (fun _ => [])]
theorem simp122 : allSimpleM none1 (loopAt Tryd.f122 0) = true := by kernel_rfl
theorem lp122 (l : List Pr) (r : Room) (x y : Int) (h1 : lim l.length) (h2 : rok l r) :
    LoopS (En6 []) (loopAt Tryd.f122 0) 19 [0, 3, 7, 8] [pz l r, .ptr 0 0, I l.length, I 0] ⟨[[I x, I y]], [], []⟩ (o122 l x y) := by
  have hR : Rests (En6 []) none1 := rests mixed .nil
  refine loop_s hR simp122 none (by intro _ h; cases h) (fun k vs H => H = ⟨[[I x, I y]], [], []⟩ ∧ vs = [pz l r, .ptr 0 0, I l.length, I k] ∧ ∀ i, i < k → l.getD i pair0 ≠ (x, y)) l.length ⟨rfl, rfl, fun i hi => absurd hi (by omega)⟩ (by intro _ h; cases h) ?_
  rintro k vs H hk ⟨rfl, rfl, ha⟩
  by_cases hz : (k : Int) < l.length
  · have hz' : k < l.length := by omega
    have hr := rok_idx h2 hz'
    have ev0 : IntKind.i64.wrap ((k : Int) + 1) = ((k + 1 : Nat) : Int) := by rw [wr _ (by omega) (by simp only [lim] at h1; omega)]; omega
    refine ⟨[Ans.o (Orc.b true), Ans.o (Orc.val 14 (AV.cptr (pairsA (List.drop k l))) H.nil), Ans.o (Orc.val 15 (AV.agg [I (l.getD k pair0).fst, I (l.getD k pair0).snd]) H.nil), Ans.bfork (16 : Nat) [] [Ans.o (Orc.val 18 (I (↑(k + (1 : Nat)) : Int)) H.nil)]], fun u => of_eq ((↑k : Int) < (↑l.length : Int) ∧ aIndexAddr Tryd.prog (45 : Nat) (AV.sl (pairsA l) l.length r) (I (↑k : Int)) = some (AV.cptr (pairsA (List.drop k l))) ∧ aLoad Tryd.prog (54 : Nat) (pairsA (List.drop k l)) = some (AV.agg [I (l.getD k pair0).fst, I (l.getD k pair0).snd]) ∧ ((x == (l.getD k pair0).fst && (y == (l.getD k pair0).snd && true)) = true → (19 : Nat) = (19 : Nat) ∧ hits [Out.mk Nat AX.ret [(4 : Nat)] (fun k => ixP l (x, y) = (↑k : Int)) (fun k => [I (↑k : Int)]) (fun x_1 => H.mk [[I x, I y]] [] []) fun x => [], Out.mk Unit (AX.exit (0 : Nat)) [] (fun x_1 => ixP l (x, y) = (-1 : Int)) (fun x => []) (fun x_1 => H.mk [[I x, I y]] [] []) fun x => []] AX.ret [AV.sl (pairsA l) l.length r, u (1 : Nat), u (2 : Nat), AV.ptr 0 0, I (↑k : Int), I (↑k : Int), u (6 : Nat), I (↑l.length : Int), I (↑k : Int), AV.bool true, I (↑k : Int), AV.agg [I x, I y], AV.sl (pairsA l) l.length r, I (↑k : Int), AV.cptr (pairsA (List.drop k l)), AV.agg [I (l.getD k pair0).fst, I (l.getD k pair0).snd], AV.bool true, I (↑k : Int), u (18 : Nat)] (H.mk [[I x, I y]] [] [])) ∧ ((x == (l.getD k pair0).fst && (y == (l.getD k pair0).snd && true)) = false → aBin Tryd.prog BinOp.add (3 : Nat) (I (↑k : Int)) (I 1) = some (I (↑(k + (1 : Nat)) : Int)) ∧ (19 : Nat) = (19 : Nat) ∧ k < l.length ∧ Keep (H.mk [[I x, I y]] [] [] = H.mk [[I x, I y]] [] [] ∧ [AV.sl (pairsA l) l.length r, AV.ptr 0 0, I (↑l.length : Int), I (↑(k + (1 : Nat)) : Int)] = [AV.sl (pairsA l) l.length r, AV.ptr 0 0, I (↑l.length : Int), I (↑(k + (1 : Nat)) : Int)] ∧ ∀ (i : Nat), i < k + (1 : Nat) → l.getD i pair0 ≠ (x, y)))) (by kernel_rfl) ?_⟩
    refine ⟨by first | with_reducible assumption | omega | assumption, ?_⟩
    refine ⟨ix_pairs (by kernel_rfl) hz' hr, ?_⟩
    refine ⟨ld_pairs (by kernel_rfl) (by kernel_rfl) (by kernel_rfl) hz', ?_⟩
    refine And.intro ?_ ?_
    · skip
      intro w0
      refine ⟨by first | with_reducible assumption | omega | assumption, ?_⟩
      exact .inl ⟨_, ixP_some hz' (eqP_t (by assumption)) ha, rfl, rfl, rfl⟩
    · skip
      intro w0
      refine ⟨told_add (by with_reducible assumption), ?_⟩
      refine ⟨by first | with_reducible assumption | omega | assumption, ?_⟩
      refine ⟨by first | with_reducible assumption | omega | assumption, ?_⟩
      exact ⟨rfl, rfl, all_succ (q := fun k => l.getD k pair0 ≠ (x, y)) ha (eqP_f (by assumption))⟩
  · have hz : (l.length : Int) ≤ k := by omega
    have hk' : k = l.length := by omega
    subst hk'
    have hn := ixP_none ha
    refine ⟨[Ans.o (Orc.b false)], fun u => of_eq ((↑l.length : Int) ≤ (↑l.length : Int) ∧ (19 : Nat) = (19 : Nat) ∧ hits [Out.mk Nat AX.ret [(4 : Nat)] (fun k => ixP l (x, y) = (↑k : Int)) (fun k => [I (↑k : Int)]) (fun x_1 => H.mk [[I x, I y]] [] []) fun x => [], Out.mk Unit (AX.exit (0 : Nat)) [] (fun x_1 => ixP l (x, y) = (-1 : Int)) (fun x => []) (fun x_1 => H.mk [[I x, I y]] [] []) fun x => []] (AX.exit (0 : Nat)) [AV.sl (pairsA l) l.length r, u (1 : Nat), u (2 : Nat), AV.ptr 0 0, u (4 : Nat), u (5 : Nat), u (6 : Nat), I (↑l.length : Int), I (↑l.length : Int), AV.bool false, u (10 : Nat), u (11 : Nat), u (12 : Nat), u (13 : Nat), u (14 : Nat), u (15 : Nat), u (16 : Nat), u (17 : Nat), u (18 : Nat)] (H.mk [[I x, I y]] [] [])) (by kernel_rfl) ?_⟩
    refine ⟨by first | with_reducible assumption | omega | assumption, ?_⟩
    refine ⟨by first | with_reducible assumption | omega | assumption, ?_⟩
    exact .inr (.inl ⟨(), hn, rfl, rfl, rfl⟩)
theorem ok122 : FokM Tryd.prog none1 122 Tryd.f122 := ⟨mixed, by kernel_rfl, by kernel_rfl, by kernel_rfl, by kernel_rfl⟩
theorem r122 (l : List Pr) (r : Room) (x z : Int) (h1 : lim l.length) (h2 : rok l r) : Body (En6 []) none1 Tryd.f122 [pz l r, .agg [I x, I z]] .nil (I (ixP l (x, z)), .nil) := by
  have hl := lp122 l r x z h1 h2
  refine body_s ([Ans.loop [(0 : Nat), (3 : Nat), (7 : Nat), (8 : Nat)] [Out.mk Nat AX.ret [(4 : Nat)] (fun k => ixP l (x, z) = (↑k : Int)) (fun k => [I (↑k : Int)]) (fun x_1 => H.mk [[I x, I z]] [] []) fun y => [], Out.mk Unit (AX.exit (0 : Nat)) [] (fun x_1 => ixP l (x, z) = (-1 : Int)) (fun x => []) (fun x_1 => H.mk [[I x, I z]] [] []) fun y => []]]) (LoopS (Env.mk Tryd.prog (Sof (P := Tryd.prog) []) (Pof (P := Tryd.prog) []) H.nil.base (300 : Nat)) (loopAt Tryd.f122 (0 : Nat)) (19 : Nat) [(0 : Nat), (3 : Nat), (7 : Nat), (8 : Nat)] [AV.sl (pairsA l) l.length r, AV.ptr 0 0, I (↑l.length : Int), I 0] (H.mk [[I x, I z]] [] []) [Out.mk Nat AX.ret [(4 : Nat)] (fun k => ixP l (x, z) = (↑k : Int)) (fun k => [I (↑k : Int)]) (fun x_1 => H.mk [[I x, I z]] [] []) fun y => [], Out.mk Unit (AX.exit (0 : Nat)) [] (fun x_1 => ixP l (x, z) = (-1 : Int)) (fun x => []) (fun x_1 => H.mk [[I x, I z]] [] []) fun y => []] ∧ (∀ (y : Nat), ixP l (x, z) = (↑y : Int) → ∀ (u : Nat → AV), (I (↑y : Int), H.mk [] [] []) = (I (ixP l (x, z)), H.mk [] [] [])) ∧ (∀ (y : Unit), ixP l (x, z) = (-1 : Int) → ∀ (u : Nat → AV), (I (-1 : Int), H.mk [] [] []) = (I (ixP l (x, z)), H.mk [] [] [])) ∧ True) (by kernel_rfl) ?_
  refine ⟨hl, ?_⟩
  refine And.intro ?_ ?_
  · skip
    intro y
    intro w1
    intro u
    first | (rw [(by assumption : ixP l (x, z) = _)]) | (rw [w1])
  · skip
    refine And.intro ?_ ?_
    · skip
      intro y
      intro w1
      intro u
      first | (rw [(by assumption : ixP l (x, z) = _)]) | (rw [w1])
    · skip
      trivial
theorem pz_in {l l' : List Pr} {r r' : Room} (e : pz l r = pz l' r') : l = l' ∧ r = r' := by
  simp only [AV.sl.injEq] at e
  exact ⟨pairsA_inj e.1, e.2.2⟩
noncomputable def c122 : PCtr Tryd.prog := sctr ok122 (X := List Pr × Room × Int × Int) (fun x => [pz x.1 x.2.1, .agg [I x.2.2.1, I x.2.2.2]]) (fun x => lim x.1.length ∧ rok x.1 x.2.1) (fun x => I (ixP x.1 (x.2.2.1, x.2.2.2)))
  (by rintro ⟨l, r, a, b⟩ ⟨l', r', a', b'⟩ e _ _; simp only [List.cons.injEq, AV.agg.injEq, AV.int.injEq, true_and, and_true] at e; obtain ⟨e, rfl, rfl⟩ := e; rw [(pz_in e).1]) (fun x => by simp [AV.bnds, AV.bnd, AV.wk, rm_wk_bnd]) (fun x => rfl)
  (fun x hx => ⟨_, _, _, .nil, r122 x.1 x.2.1.wk x.2.2.1 x.2.2.2 hx.1 (by simpa using hx.2)⟩)
/-- a pair is in a list -/
noncomputable def inB (l : List Pr) (p : Pr) : Bool := decide (p ∈ l)
theorem ok101 : FokM Tryd.prog none1 101 Tryd.f101 := ⟨mixed, by kernel_rfl, by kernel_rfl, by kernel_rfl, by kernel_rfl⟩
theorem r101 (l : List Pr) (r : Room) (x y : Int) (h1 : lim l.length) (h2 : rok l r) : Body (En6 [c122.to]) none1 Tryd.f101 [pz l r, .agg [I x, I y]] .nil (.bool (inB l (x, y)), .nil) := by
  have p122 : lim l.length ∧ rok l r := ⟨h1, h2⟩
  by_cases c : (x, y) ∈ l
  · have e : inB l (x, y) = true := by simp only [inB, decide_eq_true_eq]; exact c
    have c1 : 0 ≤ ixP l (x, y) := ixP_mem.2 c
    rw [e]
    refine body_s ([Ans.o (Orc.val 7 (I (ixP l (x, y))) (H.mk [[I x, I y]] [] [])), Ans.o (Orc.b true)]) (aCall (Sof [c122.to]) (AV.fn (Fn.func (122 : Nat)) [] []) [AV.sl (pairsA l) l.length r, AV.agg [I x, I y]] (H.mk [[I x, I y]] [] []) = some (I (ixP l (x, y)), H.mk [[I x, I y]] [] []) ∧ (0 : Int) ≤ ixP l (x, y) ∧ (AV.bool true, H.mk [] [] []) = (AV.bool true, H.mk [] [] [])) (by kernel_rfl) ?_
    refine ⟨acall_hit (c := c122.to) (l, r, x, y) _ rfl p122, ?_⟩
    refine ⟨by first | with_reducible assumption | omega | assumption, ?_⟩
    first | with_reducible rfl | (refine bleaf_t ?_; omega) | (refine bleaf_f ?_; omega) | (refine ileaf ?_; omega) | rfl | (exfalso; omega)
  · have e : inB l (x, y) = false := by simp only [inB, decide_eq_false_iff_not]; exact c
    have c1 : ixP l (x, y) < 0 := by
      apply Classical.byContradiction
      intro h; exact c (ixP_mem.1 (by omega))
    rw [e]
    refine body_s ([Ans.o (Orc.val 7 (I (ixP l (x, y))) (H.mk [[I x, I y]] [] [])), Ans.o (Orc.b false)]) (aCall (Sof [c122.to]) (AV.fn (Fn.func (122 : Nat)) [] []) [AV.sl (pairsA l) l.length r, AV.agg [I x, I y]] (H.mk [[I x, I y]] [] []) = some (I (ixP l (x, y)), H.mk [[I x, I y]] [] []) ∧ ixP l (x, y) < (0 : Int) ∧ (AV.bool false, H.mk [] [] []) = (AV.bool false, H.mk [] [] [])) (by kernel_rfl) ?_
    refine ⟨acall_hit (c := c122.to) (l, r, x, y) _ rfl p122, ?_⟩
    refine ⟨by first | with_reducible assumption | omega | assumption, ?_⟩
    first | with_reducible rfl | (refine bleaf_t ?_; omega) | (refine bleaf_f ?_; omega) | (refine ileaf ?_; omega) | rfl | (exfalso; omega)
/-- 'Contains' of pairs -/
noncomputable def c101 : PCtr Tryd.prog where
  f := 101
  X := (List Pr × Room × Nat) × Int × Int
  args x := [.sl (pairsA x.1.1) x.1.2.2 x.1.2.1, .agg [I x.2.1, I x.2.2]]
  pre x := x.1.1.length = x.1.2.2 ∧ lim x.1.2.2 ∧ rok x.1.1 x.1.2.1
  v x := .bool (inB x.1.1 (x.2.1, x.2.2))
  det := by
    rintro ⟨⟨l, r, n⟩, a, b⟩ ⟨⟨l', r', n'⟩, a', b'⟩ e _ _
    simp only [List.cons.injEq, AV.agg.injEq, AV.int.injEq, AV.sl.injEq, true_and, and_true] at e
    obtain ⟨⟨e, _, _⟩, rfl, rfl⟩ := e
    rw [pairsA_inj e]
  ok := by
    rintro ⟨⟨l, r, n⟩, a, b⟩ ⟨hn, h1, h2⟩
    simp only at hn h1 h2
    subst hn
    exact (sctr ok101 (X := List Pr × Room × Int × Int) (fun x => [pz x.1 x.2.1, .agg [I x.2.2.1, I x.2.2.2]]) (fun x => lim x.1.length ∧ rok x.1 x.2.1) (fun x => .bool (inB x.1 (x.2.2.1, x.2.2.2)))
  (by rintro ⟨l, r, a, b⟩ ⟨l', r', a', b'⟩ e _ _; simp only [List.cons.injEq, AV.agg.injEq, AV.int.injEq, true_and, and_true] at e; obtain ⟨e, rfl, rfl⟩ := e; rw [(pz_in e).1]) (fun x => by simp [AV.bnds, AV.bnd, AV.wk, rm_wk_bnd]) (fun x => rfl)
  (fun x hx => ⟨_, _, _, .pure _ .nil, r101 x.1 x.2.1.wk x.2.2.1 x.2.2.2 hx.1 (by simpa using hx.2)⟩)).ok (l, r, a, b) ⟨h1, h2⟩
end Go.Proofs.Rnk

