/- Layer 2: orders, by the program and by the reference. -/
import Derived.Test.YtnnhomkkggkkfaaDoorRkAs
import Derived.KernelRfl
set_option linter.unusedSimpArgs false
set_option linter.unusedVariables false
set_option linter.unnecessarySimpa false
set_option maxHeartbeats 4000000
set_option maxRecDepth 100000
namespace Go.Proofs.Rnk
open Go Go.VM
open Go.Proofs.Sur (andn andn_bit andn_le i_wrap i_and i_or i_andn i_shl i_shr bit_01)

/-- the first place of a number -/
noncomputable def ixI (l : List Int) (p : Int) : Int := if p ∈ l then ((l.findIdx (fun q => decide (q = p)) : Nat) : Int) else -1
theorem ixI_none {l : List Int} {p : Int} (h : ∀ i, i < l.length → l.getD i i0 ≠ p) : ixI l p = -1 := by
  rw [ixI, if_neg]
  intro hm
  obtain ⟨i, hi, e⟩ := List.getElem_of_mem hm
  apply h i hi
  rw [List.getD_eq_getElem?_getD, List.getElem?_eq_getElem hi]; exact e
theorem ixI_some {l : List Int} {p : Int} {k : Nat} (hk : k < l.length) (e : l.getD k i0 = p) (h : ∀ i, i < k → l.getD i i0 ≠ p) : ixI l p = (k : Int) := by
  have hg : ∀ i, (hi : i < l.length) → l.getD i i0 = l[i] := fun i hi => by rw [List.getD_eq_getElem?_getD, List.getElem?_eq_getElem hi]; rfl
  rw [ixI, if_pos (by rw [← e, hg k hk]; exact List.getElem_mem hk)]
  have : l.findIdx (fun q => decide (q = p)) = k := by
    rw [List.findIdx_eq hk]
    refine ⟨by rw [← hg k hk]; simpa using e, fun j hj => ?_⟩
    have := h j hj
    rw [hg j (by omega)] at this
    simpa using this
  rw [this]
theorem ixI_mem {l : List Int} {p : Int} : 0 ≤ ixI l p ↔ p ∈ l := by
  rw [ixI]; split
  · rename_i h; exact ⟨fun _ => h, fun _ => by omega⟩
  · rename_i h; exact ⟨fun q => by omega, fun q => absurd q h⟩
abbrev o121 (l : List Int) (x : Int) : List Out :=
  [.mk Nat .ret [4] (fun k => ixI l x = (k : Int)) (fun k => [I (k : Nat)]) (fun _ => .nil) (fun _ => []), .mk Unit (.exit 0) [] (fun _ => ixI l x = -1) (fun _ => []) (fun _ => .nil) (fun _ => [])]
theorem simp121 : allSimpleM none1 (loopAt Tryd.f121 0) = true := by kernel_rfl
theorem lp121 (l : List Int) (r : Room) (x : Int) (n : Nat) (hn : l.length = n) (h1 : lim n) (h2 : rok l r) :
    LoopS (En6 []) (loopAt Tryd.f121 0) 19 [0, 1, 7, 8] [.sl (ints l) n r, I x, I n, I 0] .nil (o121 l x) := by
  have hR : Rests (En6 []) none1 := rests mixed .nil
  refine loop_s hR simp121 none (by intro _ h; cases h) (fun k vs H => H = .nil ∧ vs = [.sl (ints l) n r, I x, I n, I k] ∧ ∀ i, i < k → l.getD i i0 ≠ x) n ⟨rfl, rfl, fun i hi => absurd hi (by omega)⟩ (by intro _ h; cases h) ?_
  rintro k vs H hk ⟨rfl, rfl, ha⟩
  by_cases hz : (k : Int) < n
  · have hz' : k < n := by omega
    have hzl : k < l.length := by omega
    have hr := rok_idx h2 hzl
    have ev0 : IntKind.i64.wrap ((k : Int) + 1) = ((k + 1 : Nat) : Int) := by rw [wr _ (by omega) (by simp only [lim] at h1; omega)]; omega
    by_cases c : l.getD k i0 = x
    · have c' : x = l.getD k i0 := c.symm
      have hs := ixI_some hzl c ha
      refine ⟨[Ans.o (Orc.b true), Ans.o (Orc.val 14 (AV.cptr (ints (List.drop k l))) H.nil), Ans.o (Orc.val 15 (I (l.getD k i0)) H.nil), Ans.o (Orc.b true)], fun u => of_eq ((↑k : Int) < (↑n : Int) ∧ aIndexAddr Tryd.prog (22 : Nat) (AV.sl (ints l) n r) (I (↑k : Int)) = some (AV.cptr (ints (List.drop k l))) ∧ aLoad Tryd.prog (3 : Nat) (ints (List.drop k l)) = some (I (l.getD k i0)) ∧ x = l.getD k i0 ∧ (19 : Nat) = (19 : Nat) ∧ hits [Out.mk Nat AX.ret [(4 : Nat)] (fun k => ixI l x = (↑k : Int)) (fun k => [I (↑k : Int)]) (fun x => H.nil) fun x => [], Out.mk Unit (AX.exit (0 : Nat)) [] (fun x_1 => ixI l x = (-1 : Int)) (fun x => []) (fun x => H.nil) fun x => []] AX.ret [AV.sl (ints l) n r, I x, u (2 : Nat), u (3 : Nat), I (↑k : Int), I (↑k : Int), u (6 : Nat), I (↑n : Int), I (↑k : Int), AV.bool true, I (↑k : Int), I x, AV.sl (ints l) n r, I (↑k : Int), AV.cptr (ints (List.drop k l)), I (l.getD k i0), AV.bool true, I (↑k : Int), u (18 : Nat)] (H.mk [] [] [])) (by kernel_rfl) ?_⟩
      refine ⟨by first | with_reducible assumption | omega | assumption, ?_⟩
      refine ⟨ix_ints (by kernel_rfl) hz' hr, ?_⟩
      refine ⟨ld_ints (by kernel_rfl) (by kernel_rfl) hzl, ?_⟩
      refine ⟨by first | with_reducible assumption | omega | assumption, ?_⟩
      refine ⟨by first | with_reducible assumption | omega | assumption, ?_⟩
      exact .inl ⟨_, hs, rfl, rfl, rfl⟩
    · have c' : x ≠ l.getD k i0 := fun q => c q.symm
      have hk2 := all_succ (q := fun k => l.getD k i0 ≠ x) ha c
      refine ⟨[Ans.o (Orc.b true), Ans.o (Orc.val 14 (AV.cptr (ints (List.drop k l))) H.nil), Ans.o (Orc.val 15 (I (l.getD k i0)) H.nil), Ans.o (Orc.b false), Ans.o (Orc.val 18 (I (↑(k + (1 : Nat)) : Int)) H.nil)], fun u => of_eq ((↑k : Int) < (↑n : Int) ∧ aIndexAddr Tryd.prog (22 : Nat) (AV.sl (ints l) n r) (I (↑k : Int)) = some (AV.cptr (ints (List.drop k l))) ∧ aLoad Tryd.prog (3 : Nat) (ints (List.drop k l)) = some (I (l.getD k i0)) ∧ x ≠ l.getD k i0 ∧ aBin Tryd.prog BinOp.add (3 : Nat) (I (↑k : Int)) (I 1) = some (I (↑(k + (1 : Nat)) : Int)) ∧ (19 : Nat) = (19 : Nat) ∧ k < n ∧ Keep (H.mk [] [] [] = H.mk [] [] [] ∧ [AV.sl (ints l) n r, I x, I (↑n : Int), I (↑(k + (1 : Nat)) : Int)] = [AV.sl (ints l) n r, I x, I (↑n : Int), I (↑(k + (1 : Nat)) : Int)] ∧ ∀ (i : Nat), i < k + (1 : Nat) → l.getD i i0 ≠ x)) (by kernel_rfl) ?_⟩
      refine ⟨by first | with_reducible assumption | omega | assumption, ?_⟩
      refine ⟨ix_ints (by kernel_rfl) hz' hr, ?_⟩
      refine ⟨ld_ints (by kernel_rfl) (by kernel_rfl) hzl, ?_⟩
      refine ⟨by first | with_reducible assumption | omega | assumption, ?_⟩
      refine ⟨told_add (by with_reducible assumption), ?_⟩
      refine ⟨by first | with_reducible assumption | omega | assumption, ?_⟩
      refine ⟨by first | with_reducible assumption | omega | assumption, ?_⟩
      exact ⟨rfl, rfl, hk2⟩
  · have hz : (n : Int) ≤ k := by omega
    have hk' : k = n := by omega
    subst hk'
    have hnn := ixI_none (by rw [hn]; exact ha)
    refine ⟨[Ans.o (Orc.b false)], fun u => of_eq ((↑k : Int) ≤ (↑k : Int) ∧ (19 : Nat) = (19 : Nat) ∧ hits [Out.mk Nat AX.ret [(4 : Nat)] (fun k => ixI l x = (↑k : Int)) (fun k => [I (↑k : Int)]) (fun x => H.nil) fun x => [], Out.mk Unit (AX.exit (0 : Nat)) [] (fun x_1 => ixI l x = (-1 : Int)) (fun x => []) (fun x => H.nil) fun x => []] (AX.exit (0 : Nat)) [AV.sl (ints l) k r, I x, u (2 : Nat), u (3 : Nat), u (4 : Nat), u (5 : Nat), u (6 : Nat), I (↑k : Int), I (↑k : Int), AV.bool false, u (10 : Nat), u (11 : Nat), u (12 : Nat), u (13 : Nat), u (14 : Nat), u (15 : Nat), u (16 : Nat), u (17 : Nat), u (18 : Nat)] (H.mk [] [] [])) (by kernel_rfl) ?_⟩
    refine ⟨by first | with_reducible assumption | omega | assumption, ?_⟩
    refine ⟨by first | with_reducible assumption | omega | assumption, ?_⟩
    exact .inr (.inl ⟨(), hnn, rfl, rfl, rfl⟩)
theorem ok121 : FokM Tryd.prog none1 121 Tryd.f121 := ⟨mixed, by kernel_rfl, by kernel_rfl, by kernel_rfl, by kernel_rfl⟩
theorem r121 (l : List Int) (r : Room) (x : Int) (n : Nat) (hn : l.length = n) (h1 : lim n) (h2 : rok l r) : Body (En6 []) none1 Tryd.f121 [.sl (ints l) n r, I x] .nil (I (ixI l x), .nil) := by
  have hl := lp121 l r x n hn h1 h2
  refine body_s ([Ans.loop [(0 : Nat), (1 : Nat), (7 : Nat), (8 : Nat)] [Out.mk Nat AX.ret [(4 : Nat)] (fun k => ixI l x = (↑k : Int)) (fun k => [I (↑k : Int)]) (fun x => H.nil) fun y => [], Out.mk Unit (AX.exit (0 : Nat)) [] (fun x_1 => ixI l x = (-1 : Int)) (fun x => []) (fun x => H.nil) fun y => []]]) (LoopS (Env.mk Tryd.prog (Sof (P := Tryd.prog) []) (Pof (P := Tryd.prog) []) H.nil.base (300 : Nat)) (loopAt Tryd.f121 (0 : Nat)) (19 : Nat) [(0 : Nat), (1 : Nat), (7 : Nat), (8 : Nat)] [AV.sl (ints l) n r, I x, I (↑n : Int), I 0] (H.mk [] [] []) [Out.mk Nat AX.ret [(4 : Nat)] (fun k => ixI l x = (↑k : Int)) (fun k => [I (↑k : Int)]) (fun x => H.nil) fun y => [], Out.mk Unit (AX.exit (0 : Nat)) [] (fun x_1 => ixI l x = (-1 : Int)) (fun x => []) (fun x => H.nil) fun y => []] ∧ (∀ (y : Nat), ixI l x = (↑y : Int) → ∀ (u : Nat → AV), (I (↑y : Int), H.mk [] [] []) = (I (ixI l x), H.mk [] [] [])) ∧ (∀ (y : Unit), ixI l x = (-1 : Int) → ∀ (u : Nat → AV), (I (-1 : Int), H.mk [] [] []) = (I (ixI l x), H.mk [] [] [])) ∧ True) (by kernel_rfl) ?_
  refine ⟨hl, ?_⟩
  refine And.intro ?_ ?_
  · skip
    intro y
    intro w1
    intro u
    first | (rw [(by assumption : ixI l x = _)]) | (rw [w1])
  · skip
    refine And.intro ?_ ?_
    · skip
      intro y
      intro w1
      intro u
      first | (rw [(by assumption : ixI l x = _)]) | (rw [w1])
    · skip
      trivial
noncomputable def c121 : PCtr Tryd.prog := sctr ok121 (X := List Int × Room × Nat × Int) (fun x => [.sl (ints x.1) x.2.2.1 x.2.1, I x.2.2.2]) (fun x => x.1.length = x.2.2.1 ∧ lim x.2.2.1 ∧ rok x.1 x.2.1) (fun x => I (ixI x.1 x.2.2.2))
  (by rintro ⟨l, r, n, a⟩ ⟨l', r', n', a'⟩ e _ _; simp only [List.cons.injEq, AV.sl.injEq, AV.int.injEq, true_and, and_true] at e; obtain ⟨⟨e, _, _⟩, rfl⟩ := e; rw [ints_inj e]) (fun x => by simp [AV.bnds, AV.bnd, AV.wk, rm_wk_bnd]) (fun x => rfl)
  (fun x hx => ⟨_, _, _, .nil, r121 x.1 x.2.1.wk x.2.2.2 x.2.2.1 hx.1 hx.2.1 (by simpa using hx.2.2)⟩)
/-- a number is in a list -/
noncomputable def inI2 (l : List Int) (p : Int) : Bool := decide (p ∈ l)
theorem inI2_t {l : List Int} {p : Int} (h : inI2 l p = true) : p ∈ l := by simpa [inI2] using h
theorem inI2_f {l : List Int} {p : Int} (h : inI2 l p = false) : p ∉ l := by simpa [inI2] using h
theorem ok97 : FokM Tryd.prog none1 97 Tryd.f97 := ⟨mixed, by kernel_rfl, by kernel_rfl, by kernel_rfl, by kernel_rfl⟩
theorem r97 (l : List Int) (r : Room) (x : Int) (n : Nat) (hn : l.length = n) (h1 : lim n) (h2 : rok l r) : Body (En6 [c121.to]) none1 Tryd.f97 [.sl (ints l) n r, I x] .nil (.bool (inI2 l x), .nil) := by
  have p121 : l.length = n ∧ lim n ∧ rok l r := ⟨hn, h1, h2⟩
  by_cases c : x ∈ l
  · have e : inI2 l x = true := by simp only [inI2, decide_eq_true_eq]; exact c
    have c1 : 0 ≤ ixI l x := ixI_mem.2 c
    rw [e]
    refine body_s ([Ans.o (Orc.val 7 (I (ixI l x)) (H.mk [] [] [])), Ans.o (Orc.b true)]) (aCall (Sof [c121.to]) (AV.fn (Fn.func (121 : Nat)) [] []) [AV.sl (ints l) n r, I x] (H.mk [] [] []) = some (I (ixI l x), H.mk [] [] []) ∧ (0 : Int) ≤ ixI l x ∧ (AV.bool true, H.mk [] [] []) = (AV.bool true, H.mk [] [] [])) (by kernel_rfl) ?_
    refine ⟨acall_hit (c := c121.to) (l, r, n, x) _ rfl p121, ?_⟩
    refine ⟨by first | with_reducible assumption | omega | assumption, ?_⟩
    first | with_reducible rfl | (refine bleaf_t ?_; omega) | (refine bleaf_f ?_; omega) | (refine ileaf ?_; omega) | rfl | (exfalso; omega)
  · have e : inI2 l x = false := by simp only [inI2, decide_eq_false_iff_not]; exact c
    have c1 : ixI l x < 0 := by
      apply Classical.byContradiction
      intro h; exact c (ixI_mem.1 (by omega))
    rw [e]
    refine body_s ([Ans.o (Orc.val 7 (I (ixI l x)) (H.mk [] [] [])), Ans.o (Orc.b false)]) (aCall (Sof [c121.to]) (AV.fn (Fn.func (121 : Nat)) [] []) [AV.sl (ints l) n r, I x] (H.mk [] [] []) = some (I (ixI l x), H.mk [] [] []) ∧ ixI l x < (0 : Int) ∧ (AV.bool false, H.mk [] [] []) = (AV.bool false, H.mk [] [] [])) (by kernel_rfl) ?_
    refine ⟨acall_hit (c := c121.to) (l, r, n, x) _ rfl p121, ?_⟩
    refine ⟨by first | with_reducible assumption | omega | assumption, ?_⟩
    first | with_reducible rfl | (refine bleaf_t ?_; omega) | (refine bleaf_f ?_; omega) | (refine ileaf ?_; omega) | rfl | (exfalso; omega)
noncomputable def c97 : PCtr Tryd.prog := sctr ok97 (X := List Int × Room × Nat × Int) (fun x => [.sl (ints x.1) x.2.2.1 x.2.1, I x.2.2.2]) (fun x => x.1.length = x.2.2.1 ∧ lim x.2.2.1 ∧ rok x.1 x.2.1) (fun x => .bool (inI2 x.1 x.2.2.2))
  (by rintro ⟨l, r, n, a⟩ ⟨l', r', n', a'⟩ e _ _; simp only [List.cons.injEq, AV.sl.injEq, AV.int.injEq, true_and, and_true] at e; obtain ⟨⟨e, _, _⟩, rfl⟩ := e; rw [ints_inj e]) (fun x => by simp [AV.bnds, AV.bnd, AV.wk, rm_wk_bnd]) (fun x => rfl)
  (fun x hx => ⟨_, _, _, .pure _ .nil, r97 x.1 x.2.1.wk x.2.2.2 x.2.2.1 hx.1 hx.2.1 (by simpa using hx.2.2)⟩)
/-! ### is it an order? -/
structure OD (n : Nat) (l : List Int) (k : Nat) : Prop where
  a : 0 ≤ l.getD k i0
  b : l.getD k i0 < (n : Int)
  d : l.getD k i0 ∉ l.take k
structure OS (n : Nat) (l : List Int) : Prop where
  h : ∀ k, k < l.length → OD n l k
structure OB (n : Nat) (l : List Int) : Prop where
  le : l.length = n
  h : OS n l
open Classical in
noncomputable def odB (n : Nat) (l : List Int) : Bool := decide (OB n l)
theorem odB_t {n : Nat} {l : List Int} (h : OB n l) : odB n l = true := by simp only [odB, decide_eq_true_eq]; exact h
theorem odB_f {n : Nat} {l : List Int} (h : ¬ OB n l) : odB n l = false := by simp only [odB, decide_eq_false_iff_not]; exact h
abbrev o74 (n : Nat) (l : List Int) : List Out :=
  [.mk Unit .ret [4] (fun _ => ¬ OS n l) (fun _ => [.bool false]) (fun _ => .nil) (fun _ => []), .mk Unit (.exit 0) [] (fun _ => OS n l) (fun _ => []) (fun _ => .nil) (fun _ => [])]
theorem simp74 : allSimpleM none1 (loopAt Tryd.f74 0) = true := by kernel_rfl
theorem lp74 (n : Nat) (l : List Int) (h1 : lim l.length) :
    LoopS (En6 [c97.to]) (loopAt Tryd.f74 0) 33 [0, 1, 11, 12, 13] [ls l .no, I n, ls l .no, I l.length, I 0] .nil (o74 n l) := by
  have hR : Rests (En6 [c97.to]) none1 := rests mixed (.pure _ .nil)
  refine loop_s hR simp74 none (by intro _ h; cases h) (fun k vs H => H = .nil ∧ vs = [ls l .no, I n, ls l .no, I l.length, I k] ∧ ∀ i, i < k → OD n l i) l.length ⟨rfl, rfl, fun i hi => absurd hi (by omega)⟩ (by intro _ h; cases h) ?_
  rintro k vs H hk ⟨rfl, rfl, ha⟩
  by_cases hz : (k : Int) < l.length
  · have hz' : k < l.length := by omega
    have ev0 : IntKind.i64.wrap ((k : Int) + 1) = ((k + 1 : Nat) : Int) := by rw [wr _ (by omega) (by simp only [lim] at h1; omega)]; omega
    have bad : ∀ (h : ¬ OD n l k), ¬ OS n l := fun h q => h (q.h k hz')
    have hk0 : (0 : Int) ≤ k := by omega
    have hkl : (k : Int) ≤ l.length := by omega
    have hlt : (l.take k).length = k := by simp; omega
    have p97 : (l.take k).length = k ∧ lim k ∧ rok (l.take k) .no := ⟨hlt, by simp only [lim] at h1 ⊢; omega, fun _ => no_ne⟩
    by_cases x0 : l.getD k i0 < 0
    · have hn := bad (fun h => by have := h.a; omega)
      refine ⟨[Ans.o (Orc.b true), Ans.o (Orc.val 16 (AV.cptr (ints (List.drop k l))) H.nil), Ans.o (Orc.val 17 (I (l.getD k i0)) H.nil), Ans.o (Orc.b true)], fun u => of_eq ((↑k : Int) < (↑l.length : Int) ∧ aIndexAddr Tryd.prog (22 : Nat) (AV.sl (ints l) l.length Room.no) (I (↑k : Int)) = some (AV.cptr (ints (List.drop k l))) ∧ aLoad Tryd.prog (3 : Nat) (ints (List.drop k l)) = some (I (l.getD k i0)) ∧ l.getD k i0 < (0 : Int) ∧ (33 : Nat) = (33 : Nat) ∧ hits [Out.mk Unit AX.ret [(4 : Nat)] (fun x => ¬OS n l) (fun x => [AV.bool false]) (fun x => H.nil) fun x => [], Out.mk Unit (AX.exit (0 : Nat)) [] (fun x => OS n l) (fun x => []) (fun x => H.nil) fun x => []] AX.ret [AV.sl (ints l) l.length Room.no, I (↑n : Int), u (2 : Nat), u (3 : Nat), AV.bool false, I (↑k : Int), I (l.getD k i0), u (7 : Nat), u (8 : Nat), u (9 : Nat), u (10 : Nat), AV.sl (ints l) l.length Room.no, I (↑l.length : Int), I (↑k : Int), AV.bool true, I (↑k : Int), AV.cptr (ints (List.drop k l)), I (l.getD k i0), I (l.getD k i0), AV.bool true, AV.bool true, AV.tup [], AV.tup [], AV.tup [], AV.bool true, AV.bool true, AV.tup [], AV.tup [], AV.tup [], AV.tup [], AV.tup [], AV.bool true, u (32 : Nat)] (H.mk [] [] [])) (by kernel_rfl) ?_⟩
      refine ⟨by first | with_reducible assumption | omega | assumption, ?_⟩
      refine ⟨ix_ints (by kernel_rfl) hz' no_ne, ?_⟩
      refine ⟨ld_ints (by kernel_rfl) (by kernel_rfl) hz', ?_⟩
      refine ⟨by first | with_reducible assumption | omega | assumption, ?_⟩
      refine ⟨by first | with_reducible assumption | omega | assumption, ?_⟩
      exact .inl ⟨(), hn, rfl, rfl, rfl⟩
    have x0 : 0 ≤ l.getD k i0 := by omega
    by_cases x2 : (n : Int) ≤ l.getD k i0
    · have hn := bad (fun h => by have := h.b; omega)
      refine ⟨[Ans.o (Orc.b true), Ans.o (Orc.val 16 (AV.cptr (ints (List.drop k l))) H.nil), Ans.o (Orc.val 17 (I (l.getD k i0)) H.nil), Ans.o (Orc.b false), Ans.o (Orc.b true)], fun u => of_eq ((↑k : Int) < (↑l.length : Int) ∧ aIndexAddr Tryd.prog (22 : Nat) (AV.sl (ints l) l.length Room.no) (I (↑k : Int)) = some (AV.cptr (ints (List.drop k l))) ∧ aLoad Tryd.prog (3 : Nat) (ints (List.drop k l)) = some (I (l.getD k i0)) ∧ (0 : Int) ≤ l.getD k i0 ∧ (↑n : Int) ≤ l.getD k i0 ∧ (33 : Nat) = (33 : Nat) ∧ hits [Out.mk Unit AX.ret [(4 : Nat)] (fun x => ¬OS n l) (fun x => [AV.bool false]) (fun x => H.nil) fun x => [], Out.mk Unit (AX.exit (0 : Nat)) [] (fun x => OS n l) (fun x => []) (fun x => H.nil) fun x => []] AX.ret [AV.sl (ints l) l.length Room.no, I (↑n : Int), u (2 : Nat), u (3 : Nat), AV.bool false, I (↑k : Int), I (l.getD k i0), u (7 : Nat), u (8 : Nat), u (9 : Nat), u (10 : Nat), AV.sl (ints l) l.length Room.no, I (↑l.length : Int), I (↑k : Int), AV.bool true, I (↑k : Int), AV.cptr (ints (List.drop k l)), I (l.getD k i0), I (l.getD k i0), AV.bool false, AV.bool false, I (l.getD k i0), I (↑n : Int), AV.bool true, AV.bool true, AV.bool true, AV.tup [], AV.tup [], AV.tup [], AV.tup [], AV.tup [], AV.bool true, u (32 : Nat)] (H.mk [] [] [])) (by kernel_rfl) ?_⟩
      refine ⟨by first | with_reducible assumption | omega | assumption, ?_⟩
      refine ⟨ix_ints (by kernel_rfl) hz' no_ne, ?_⟩
      refine ⟨ld_ints (by kernel_rfl) (by kernel_rfl) hz', ?_⟩
      refine ⟨by first | with_reducible assumption | omega | assumption, ?_⟩
      refine ⟨by first | with_reducible assumption | omega | assumption, ?_⟩
      refine ⟨by first | with_reducible assumption | omega | assumption, ?_⟩
      exact .inl ⟨(), hn, rfl, rfl, rfl⟩
    have x2 : l.getD k i0 < (n : Int) := by omega
    cases hb : inI2 (l.take k) (l.getD k i0)
    · have hk2 := all_succ (q := OD n l) ha ⟨x0, x2, inI2_f hb⟩
      refine ⟨[Ans.o (Orc.b true), Ans.o (Orc.val 16 (AV.cptr (ints (List.drop k l))) H.nil), Ans.o (Orc.val 17 (I (l.getD k i0)) H.nil), Ans.o (Orc.b false), Ans.o (Orc.b false), Ans.o (Orc.val 28 (AV.sl (ints (List.take k l)) k Room.no) H.nil), Ans.o (Orc.val 30 (AV.bool false) (H.mk [] [] [])), Ans.o (Orc.val 32 (I (↑(k + (1 : Nat)) : Int)) H.nil)], fun u => of_eq ((↑k : Int) < (↑l.length : Int) ∧ aIndexAddr Tryd.prog (22 : Nat) (AV.sl (ints l) l.length Room.no) (I (↑k : Int)) = some (AV.cptr (ints (List.drop k l))) ∧ aLoad Tryd.prog (3 : Nat) (ints (List.drop k l)) = some (I (l.getD k i0)) ∧ (0 : Int) ≤ l.getD k i0 ∧ l.getD k i0 < (↑n : Int) ∧ aSlice Tryd.prog (22 : Nat) (AV.sl (ints l) l.length Room.no) none (some (I (↑k : Int))) none (H.mk [] [] []) = some (AV.sl (ints (List.take k l)) k Room.no) ∧ aCall (Sof [c97.to]) (AV.fn (Fn.func (97 : Nat)) [] []) [AV.sl (ints (List.take k l)) k Room.no, I (l.getD k i0)] (H.mk [] [] []) = some (AV.bool false, H.mk [] [] []) ∧ aBin Tryd.prog BinOp.add (3 : Nat) (I (↑k : Int)) (I 1) = some (I (↑(k + (1 : Nat)) : Int)) ∧ (33 : Nat) = (33 : Nat) ∧ k < l.length ∧ Keep (H.mk [] [] [] = H.mk [] [] [] ∧ [AV.sl (ints l) l.length Room.no, I (↑n : Int), AV.sl (ints l) l.length Room.no, I (↑l.length : Int), I (↑(k + (1 : Nat)) : Int)] = [AV.sl (ints l) l.length Room.no, I (↑n : Int), AV.sl (ints l) l.length Room.no, I (↑l.length : Int), I (↑(k + (1 : Nat)) : Int)] ∧ ∀ (i : Nat), i < k + (1 : Nat) → OD n l i)) (by kernel_rfl) ?_⟩
      refine ⟨by first | with_reducible assumption | omega | assumption, ?_⟩
      refine ⟨ix_ints (by kernel_rfl) hz' no_ne, ?_⟩
      refine ⟨ld_ints (by kernel_rfl) (by kernel_rfl) hz', ?_⟩
      refine ⟨by first | with_reducible assumption | omega | assumption, ?_⟩
      refine ⟨by first | with_reducible assumption | omega | assumption, ?_⟩
      refine ⟨sl_ints (by kernel_rfl) hk0 hkl, ?_⟩
      refine ⟨acall_b (acall_hit (c := c97.to) (l.take k, .no, k, l.getD k i0) _ rfl p97) hb, ?_⟩
      refine ⟨told_add (by with_reducible assumption), ?_⟩
      refine ⟨by first | with_reducible assumption | omega | assumption, ?_⟩
      refine ⟨by first | with_reducible assumption | omega | assumption, ?_⟩
      exact ⟨rfl, rfl, hk2⟩
    · have hn := bad (fun h => h.d (inI2_t hb))
      refine ⟨[Ans.o (Orc.b true), Ans.o (Orc.val 16 (AV.cptr (ints (List.drop k l))) H.nil), Ans.o (Orc.val 17 (I (l.getD k i0)) H.nil), Ans.o (Orc.b false), Ans.o (Orc.b false), Ans.o (Orc.val 28 (AV.sl (ints (List.take k l)) k Room.no) H.nil), Ans.o (Orc.val 30 (AV.bool true) (H.mk [] [] []))], fun u => of_eq ((↑k : Int) < (↑l.length : Int) ∧ aIndexAddr Tryd.prog (22 : Nat) (AV.sl (ints l) l.length Room.no) (I (↑k : Int)) = some (AV.cptr (ints (List.drop k l))) ∧ aLoad Tryd.prog (3 : Nat) (ints (List.drop k l)) = some (I (l.getD k i0)) ∧ (0 : Int) ≤ l.getD k i0 ∧ l.getD k i0 < (↑n : Int) ∧ aSlice Tryd.prog (22 : Nat) (AV.sl (ints l) l.length Room.no) none (some (I (↑k : Int))) none (H.mk [] [] []) = some (AV.sl (ints (List.take k l)) k Room.no) ∧ aCall (Sof [c97.to]) (AV.fn (Fn.func (97 : Nat)) [] []) [AV.sl (ints (List.take k l)) k Room.no, I (l.getD k i0)] (H.mk [] [] []) = some (AV.bool true, H.mk [] [] []) ∧ (33 : Nat) = (33 : Nat) ∧ hits [Out.mk Unit AX.ret [(4 : Nat)] (fun x => ¬OS n l) (fun x => [AV.bool false]) (fun x => H.nil) fun x => [], Out.mk Unit (AX.exit (0 : Nat)) [] (fun x => OS n l) (fun x => []) (fun x => H.nil) fun x => []] AX.ret [AV.sl (ints l) l.length Room.no, I (↑n : Int), u (2 : Nat), u (3 : Nat), AV.bool false, I (↑k : Int), I (l.getD k i0), u (7 : Nat), u (8 : Nat), u (9 : Nat), u (10 : Nat), AV.sl (ints l) l.length Room.no, I (↑l.length : Int), I (↑k : Int), AV.bool true, I (↑k : Int), AV.cptr (ints (List.drop k l)), I (l.getD k i0), I (l.getD k i0), AV.bool false, AV.bool false, I (l.getD k i0), I (↑n : Int), AV.bool false, AV.bool false, AV.bool false, AV.sl (ints l) l.length Room.no, I (↑k : Int), AV.sl (ints (List.take k l)) k Room.no, I (l.getD k i0), AV.bool true, AV.bool true, u (32 : Nat)] (H.mk [] [] [])) (by kernel_rfl) ?_⟩
      refine ⟨by first | with_reducible assumption | omega | assumption, ?_⟩
      refine ⟨ix_ints (by kernel_rfl) hz' no_ne, ?_⟩
      refine ⟨ld_ints (by kernel_rfl) (by kernel_rfl) hz', ?_⟩
      refine ⟨by first | with_reducible assumption | omega | assumption, ?_⟩
      refine ⟨by first | with_reducible assumption | omega | assumption, ?_⟩
      refine ⟨sl_ints (by kernel_rfl) hk0 hkl, ?_⟩
      refine ⟨acall_b (acall_hit (c := c97.to) (l.take k, .no, k, l.getD k i0) _ rfl p97) hb, ?_⟩
      refine ⟨by first | with_reducible assumption | omega | assumption, ?_⟩
      exact .inl ⟨(), hn, rfl, rfl, rfl⟩
  · have hz : (l.length : Int) ≤ k := by omega
    have hk' : k = l.length := by omega
    subst hk'
    refine ⟨[Ans.o (Orc.b false)], fun u => of_eq ((↑l.length : Int) ≤ (↑l.length : Int) ∧ (33 : Nat) = (33 : Nat) ∧ hits [Out.mk Unit AX.ret [(4 : Nat)] (fun x => ¬OS n l) (fun x => [AV.bool false]) (fun x => H.nil) fun x => [], Out.mk Unit (AX.exit (0 : Nat)) [] (fun x => OS n l) (fun x => []) (fun x => H.nil) fun x => []] (AX.exit (0 : Nat)) [AV.sl (ints l) l.length Room.no, I (↑n : Int), u (2 : Nat), u (3 : Nat), u (4 : Nat), u (5 : Nat), u (6 : Nat), u (7 : Nat), u (8 : Nat), u (9 : Nat), u (10 : Nat), AV.sl (ints l) l.length Room.no, I (↑l.length : Int), I (↑l.length : Int), AV.bool false, u (15 : Nat), u (16 : Nat), u (17 : Nat), u (18 : Nat), u (19 : Nat), u (20 : Nat), u (21 : Nat), u (22 : Nat), u (23 : Nat), u (24 : Nat), u (25 : Nat), u (26 : Nat), u (27 : Nat), u (28 : Nat), u (29 : Nat), u (30 : Nat), u (31 : Nat), u (32 : Nat)] (H.mk [] [] [])) (by kernel_rfl) ?_⟩
    refine ⟨by first | with_reducible assumption | omega | assumption, ?_⟩
    refine ⟨by first | with_reducible assumption | omega | assumption, ?_⟩
    exact .inr (.inl ⟨(), ⟨ha⟩, rfl, rfl, rfl⟩)
theorem ok74 : FokM Tryd.prog none1 74 Tryd.f74 := ⟨mixed, by kernel_rfl, by kernel_rfl, by kernel_rfl, by kernel_rfl⟩
theorem r74 (n : Nat) (l : List Int) (hb : lim l.length) : Body (En6 [c97.to]) none1 Tryd.f74 [ls l .no, I n] .nil (.bool (odB n l), .nil) := by
  by_cases h1 : (l.length : Int) = n
  · have hl := lp74 n l hb
    refine body_s ([Ans.o (Orc.b false), Ans.loop [(0 : Nat), (1 : Nat), (11 : Nat), (12 : Nat), (13 : Nat)] [Out.mk Unit AX.ret [(4 : Nat)] (fun x => ¬OS n l) (fun x => [AV.bool false]) (fun x => H.nil) fun y => [], Out.mk Unit (AX.exit (0 : Nat)) [] (fun x => OS n l) (fun x => []) (fun x => H.nil) fun y => []]]) ((↑l.length : Int) = (↑n : Int) ∧ LoopS (Env.mk Tryd.prog (Sof [c97.to]) (Pof (P := Tryd.prog) []) H.nil.base (300 : Nat)) (loopAt Tryd.f74 (0 : Nat)) (33 : Nat) [(0 : Nat), (1 : Nat), (11 : Nat), (12 : Nat), (13 : Nat)] [AV.sl (ints l) l.length Room.no, I (↑n : Int), AV.sl (ints l) l.length Room.no, I (↑l.length : Int), I 0] (H.mk [] [] []) [Out.mk Unit AX.ret [(4 : Nat)] (fun x => ¬OS n l) (fun x => [AV.bool false]) (fun x => H.nil) fun y => [], Out.mk Unit (AX.exit (0 : Nat)) [] (fun x => OS n l) (fun x => []) (fun x => H.nil) fun y => []] ∧ (∀ (y : Unit), ¬OS n l → ∀ (u : Nat → AV), (AV.bool false, H.mk [] [] []) = (AV.bool (odB n l), H.mk [] [] [])) ∧ (∀ (y : Unit), OS n l → ∀ (u : Nat → AV), (AV.bool true, H.mk [] [] []) = (AV.bool (odB n l), H.mk [] [] [])) ∧ True) (by kernel_rfl) ?_
    refine ⟨by first | with_reducible assumption | omega | assumption, ?_⟩
    refine ⟨hl, ?_⟩
    refine And.intro ?_ ?_
    · skip
      intro y
      intro w1
      intro u
      first | rw [odB_t ⟨by omega, by assumption⟩] | rw [odB_f (fun q => w1 q.h)]
    · skip
      refine And.intro ?_ ?_
      · skip
        intro y
        intro w1
        intro u
        first | rw [odB_t ⟨by omega, by assumption⟩] | rw [odB_f (fun q => w1 q.h)]
      · skip
        trivial
  · have h1 : (l.length : Int) ≠ n := h1
    have e : odB n l = false := odB_f fun q => by have := q.le; omega
    rw [e]
    refine body_s ([Ans.o (Orc.b true)]) ((↑l.length : Int) ≠ (↑n : Int) ∧ (AV.bool false, H.mk [] [] []) = (AV.bool false, H.mk [] [] [])) (by kernel_rfl) ?_
    refine ⟨by first | with_reducible assumption | omega | assumption, ?_⟩
    first | with_reducible rfl | (refine bleaf_t ?_; omega) | (refine bleaf_f ?_; omega) | (refine ileaf ?_; omega) | rfl | (exfalso; omega)
theorem r74n (n : Nat) (hn : 1 ≤ n) (q : Room) : Body (En6 [c97.to]) none1 Tryd.f74 [ls [] q, I n] .nil (.bool false, .nil) := by
  have h1 : (0 : Int) ≠ n := by omega
  refine body_s ([Ans.o (Orc.b true)]) ((0 : Int) ≠ (↑n : Int) ∧ (AV.bool false, H.mk [] [] []) = (AV.bool false, H.mk [] [] [])) (by kernel_rfl) ?_
  refine ⟨by first | with_reducible assumption | omega | assumption, ?_⟩
  first | with_reducible rfl | (refine bleaf_t ?_; omega) | (refine bleaf_f ?_; omega) | (refine ileaf ?_; omega) | rfl | (exfalso; omega)
theorem odB_nil {n : Nat} (hn : 1 ≤ n) : odB n [] = false := odB_f fun q => by have := q.le; simp at this; omega
/-- 'isOrder' -/
noncomputable def c74 : PCtr Tryd.prog where
  f := 74
  X := (List Int × Room) × Nat
  args x := [ls x.1.1 x.1.2, I x.2]
  pre x := (lim x.1.1.length ∧ rok x.1.1 x.1.2 ∧ em x.1.1 x.1.2) ∧ 1 ≤ x.2
  v x := .bool (odB x.2 x.1.1)
  det := by
    rintro ⟨⟨l, r⟩, n⟩ ⟨⟨l', r'⟩, n'⟩ e _ _
    simp only [List.cons.injEq, AV.int.injEq, AV.sl.injEq, true_and, and_true, Int.natCast_inj] at e
    obtain ⟨⟨e, _, _⟩, rfl⟩ := e
    rw [ints_inj e]
  ok := by
    rintro ⟨⟨l, r⟩, n⟩ ⟨⟨hb, hr, he⟩, hn⟩
    refine ⟨ok74.call, fun H => ?_⟩
    have hno : CallOk Tryd.prog 74 [ls l .no, I n] H (.bool (odB n l)) H := pure_call ((r74 n l hb).run ok74 (.pure _ .nil) rfl) (by simp [AV.bnds, AV.bnd, Room.bnd]) rfl H
    cases r with
    | nil =>
      have : l = [] := Classical.byContradiction fun h => hr h rfl
      subst this
      have := pure_call ((r74n n hn .nil).run ok74 (.pure _ .nil) rfl) (by simp [AV.bnds, AV.bnd, Room.bnd]) rfl H
      rw [odB_nil hn]; exact this
    | e =>
      have := he rfl
      subst this
      have := pure_call ((r74n n hn .e).run ok74 (.pure _ .nil) rfl) (by simp [AV.bnds, AV.bnd, Room.bnd]) rfl H
      rw [odB_nil hn]; exact this
    | no => exact hno
    | full => exact CallOk.wk (args := [ls l .full, I n]) hno
    | tok t z => exact CallOk.wk (args := [ls l (.tok t z), I n]) hno
end Go.Proofs.Rnk

