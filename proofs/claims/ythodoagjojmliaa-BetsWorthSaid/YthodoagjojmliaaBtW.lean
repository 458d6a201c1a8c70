/- Layer 9: what a race is, by the program. -/
import Derived.Test.YthodoagjojmliaaBtV
import Derived.Test.YthodoagjojmliaaVm9
import Derived.KernelRfl
set_option linter.unusedSimpArgs false
set_option linter.unusedVariables false
set_option linter.unnecessarySimpa false
set_option maxHeartbeats 4000000
set_option maxRecDepth 100000
namespace Go.Proofs.Bts
open Go Go.VM

abbrev wiP (a b : Int) (x : Int) : Prop := a ≤ x ∧ x ≤ b
theorem ok123 : FokM Try.prog none1 123 Try.f123 := ⟨mixed, by kernel_rfl, by kernel_rfl, by kernel_rfl, by kernel_rfl⟩
theorem r123 (x : Int) (a : Int) (b : Int) (hp : True) : Body ⟨Try.prog, Sof (P := Try.prog) [], Pof (P := Try.prog) [], H.nil.base, 300⟩ none1 Try.f123 [I x, .cptr [I a], .cptr [I b]] .nil (.bool (decide (wiP a b x)), .nil) := by
  by_cases h1 : a ≤ x
  · by_cases h2 : x ≤ b
    · rw [decide_eq_true (show wiP a b x from ⟨h1, h2⟩)]
      refine body_s ([Ans.o (Orc.b true), Ans.o (Orc.b true)]) (a ≤ x ∧ x ≤ b ∧ (AV.bool true, H.mk [] [] []) = (AV.bool true, H.mk [] [] [])) (by kernel_rfl) ?_
      refine ⟨by first | with_reducible assumption | omega | assumption, ?_⟩
      refine ⟨by first | with_reducible assumption | omega | assumption, ?_⟩
      rfl
    · rw [decide_eq_false (fun q : wiP a b x => h2 q.2)]
      have h2 : b < x := by omega
      refine body_s ([Ans.o (Orc.b true), Ans.o (Orc.b false)]) (a ≤ x ∧ b < x ∧ (AV.bool false, H.mk [] [] []) = (AV.bool false, H.mk [] [] [])) (by kernel_rfl) ?_
      refine ⟨by first | with_reducible assumption | omega | assumption, ?_⟩
      refine ⟨by first | with_reducible assumption | omega | assumption, ?_⟩
      rfl
  · rw [decide_eq_false (fun q : wiP a b x => h1 q.1)]
    have h1 : x < a := by omega
    refine body_s ([Ans.o (Orc.b false)]) (x < a ∧ (AV.bool false, H.mk [] [] []) = (AV.bool false, H.mk [] [] [])) (by kernel_rfl) ?_
    refine ⟨by first | with_reducible assumption | omega | assumption, ?_⟩
    rfl
noncomputable def c123 : PCtr Try.prog := sctr ok123 (X := Int × Int × Int) (fun x => [I x.1, .cptr [I x.2.1], .cptr [I x.2.2]]) (fun x => True) (fun x => .bool (decide (wiP x.2.1 x.2.2 x.1))) (by intro x y e _ _; simp [Int.natCast_inj] at e; simp [e]) (fun x => by simp [AV.bnds, AV.bnd, AV.wk, rm_wk_bnd]) (fun x => by first | rfl | (simp [AV.bnd, rm_wk_bnd]; done)  | (simp [AV.bnd, AV.bnds, rm_wk_bnd]; done) | simp [AV.bnd, AV.bnds, Room.bnd, rm_wk_bnd]) (fun x hx => ⟨_, _, _, .nil, r123 (x.1) (x.2.1) (x.2.2) hx⟩)
noncomputable def c123v : Ctr Try.prog where
  f := 123
  X := (Int × Int × Int) × Nat × Nat
  args x := [I x.1.1, .ptr x.2.1 0, .ptr x.2.2 0]
  pre x h := h.blk[x.2.1]? = some [I x.1.2.1] ∧ h.blk[x.2.2]? = some [I x.1.2.2]
  res x h := (.bool (decide (wiP x.1.2.1 x.1.2.2 x.1.1)), h)
  det := by
    rintro ⟨⟨x, a, b⟩, p, q⟩ ⟨⟨x', a', b'⟩, p', q'⟩ h e ⟨h1, h2⟩ ⟨h3, h4⟩
    simp only [List.cons.injEq, and_true, AV.int.injEq, AV.ptr.injEq, true_and] at e
    obtain ⟨rfl, rfl, rfl⟩ := e
    have e1 := h1.symm.trans h3
    have e2 := h2.symm.trans h4
    simp only [Option.some.injEq, List.cons.injEq, AV.int.injEq, true_and, and_true] at e1 e2
    subst e1 e2
    rfl
  ok := by
    rintro ⟨⟨x, a, b⟩, p, q⟩ h ⟨h1, h2⟩
    have hc := c123.ok (x, a, b) trivial
    refine ⟨hc.1, (hc.2 .nil).view rfl (.cons (.same _ rfl) (.cons ?_ (.cons ?_ .nil)))⟩
    · exact View.ptr (h := h) p 0 [I a] h1 rfl
    · exact View.ptr (h := h) q 0 [I b] h2 rfl
theorem c123v_reads : c123v.Reads := ⟨fun _ _ _ => rfl, fun x h zs hp => by
  have l1 := (List.getElem?_eq_some_iff.1 hp.1).1
  have l2 := (List.getElem?_eq_some_iff.1 hp.2).1
  refine ⟨⟨?_, ?_⟩, rfl⟩
  · show (h.blk ++ zs)[x.2.1]? = _
    rw [List.getElem?_append_left l1]; exact hp.1
  · show (h.blk ++ zs)[x.2.2]? = _
    rw [List.getElem?_append_left l2]; exact hp.2⟩
abbrev wiL (a b : Int) (l : List Int) : Prop := ∀ i, i < l.length → wiP a b (ia l i)
open Classical in
noncomputable def wiB (a b : Int) (l : List Int) : Bool := decide (wiL a b l)
theorem wiB_t {a b : Int} {l : List Int} (h : wiL a b l) : wiB a b l = true := by simp only [wiB, decide_eq_true_eq]; exact h
theorem wiB_f {a b : Int} {l : List Int} (h : ¬ wiL a b l) : wiB a b l = false := by simp only [wiB, decide_eq_false_iff_not]; exact h
theorem simp84 : allSimpleM none1 (loopAt Try.f84 0) = true := by kernel_rfl
theorem ok84 : FokM Try.prog none1 84 Try.f84 := ⟨mixed, by kernel_rfl, by kernel_rfl, by kernel_rfl, by kernel_rfl⟩
abbrev hWa : H := ⟨[[I 0], [I 12]], [], []⟩
abbrev fWa : AV := .fn (.func 123) [] [.ptr 0 0, .ptr 1 0]
noncomputable abbrev Ewa : Env := ⟨Try.prog, Sof (P := Try.prog) [c123v], Pof (P := Try.prog) [], hWa.base, 300⟩
abbrev o84a (l : List Int) : List Out :=
  [.mk Unit .ret [4] (fun _ => ¬ wiL 0 12 l) (fun _ => [.bool false]) (fun _ => hWa) (fun _ => []),
   .mk Unit (.exit 0) [] (fun _ => wiL 0 12 l) (fun _ => []) (fun _ => hWa) (fun _ => [])]
theorem lp84a (l : List Int) (r : Room) (h0 : lim l.length) (h1 : rok l r) :
    LoopS Ewa (loopAt Try.f84 0) 18 [1, 7, 8, 9] [fWa, ls l r, I l.length, I 0] hWa (o84a l) := by
  have hR : Rests Ewa none1 := rests mixed (.rd _ c123v_reads .nil)
  refine loop_s hR simp84 none (by intro _ h; cases h) (fun j vs h => h = hWa ∧ vs = [fWa, ls l r, I l.length, I (j : Nat)] ∧ ∀ i, i < j → wiP 0 12 (ia l i)) l.length ⟨rfl, rfl, fun i hi => absurd hi (by omega)⟩ (by intro _ h; cases h) ?_
  rintro j vs h hj ⟨rfl, rfl, ha⟩
  by_cases hz : (j : Int) < l.length
  · have hz' : j < l.length := by omega
    have hr := rok_idx h1 hz'
    have ev0 := wj1 (j := j) (by simp only [lim] at h0; omega)
    by_cases hw : wiP 0 12 (ia l j)
    · have hb := decide_eq_true hw
      have hk := all_succ (q := fun i => wiP 0 12 (ia l i)) ha hw
      refine ⟨[Ans.o (Orc.b true), Ans.o (Orc.val 11 (AV.cptr (ints (List.drop j l))) H.nil), Ans.o (Orc.val 12 (I (l.getD j i0)) H.nil), Ans.o (Orc.val 15 (AV.bool true) (H.mk [[I 0], [I 12]] [] [])), Ans.o (Orc.val 17 (I (↑(j + (1 : Nat)) : Int)) H.nil)], fun u => of_eq ((↑j : Int) < (↑l.length : Int) ∧ aIndexAddr Try.prog (36 : Nat) (AV.sl (ints l) l.length r) (I (↑j : Int)) = some (AV.cptr (ints (List.drop j l))) ∧ aLoad Try.prog (3 : Nat) (ints (List.drop j l)) = some (I (l.getD j i0)) ∧ aCall (Sof [c123v]) (AV.fn (Fn.func (123 : FuncId)) [] [AV.ptr 0 0, AV.ptr 1 0]) [I (l.getD j i0)] (H.mk [[I 0], [I 12]] [] []) = some (AV.bool true, H.mk [[I 0], [I 12]] [] []) ∧ aBin Try.prog BinOp.add (3 : Nat) (I (↑j : Int)) (I 1) = some (I (↑(j + (1 : Nat)) : Int)) ∧ (18 : Nat) = (18 : Nat) ∧ j < l.length ∧ Keep (H.mk [[I 0], [I 12]] [] [] = H.mk [[I 0], [I 12]] [] [] ∧ [AV.fn (Fn.func (123 : FuncId)) [] [AV.ptr 0 0, AV.ptr 1 0], AV.sl (ints l) l.length r, I (↑l.length : Int), I (↑(j + (1 : Nat)) : Int)] = [AV.fn (Fn.func (123 : FuncId)) [] [AV.ptr 0 0, AV.ptr 1 0], AV.sl (ints l) l.length r, I (↑l.length : Int), I (↑(j + (1 : Nat)) : Int)] ∧ ∀ (i : Nat), i < j + (1 : Nat) → wiP (0 : Int) (12 : Int) (ia l i))) (by kernel_rfl) ?_⟩
      refine ⟨by first | with_reducible assumption | omega | assumption, ?_⟩
      refine ⟨by first | exact ix_ints (by kernel_rfl) (by omega) (by assumption) | exact ix_ints (by kernel_rfl) (by omega) (rok_idx (by assumption) (by omega)), ?_⟩
      refine ⟨by first | exact ld_ints (by kernel_rfl) (by kernel_rfl) (by omega) | exact ldm_ints (by kernel_rfl) (by kernel_rfl) (by first | omega | (simp; omega)), ?_⟩
      refine ⟨acall_b (acall_hit (c := c123v) ((ia l j, 0, 12), 0, 1) _ rfl ⟨rfl, rfl⟩) hb, ?_⟩
      refine ⟨told_add (by with_reducible assumption), ?_⟩
      refine ⟨by first | with_reducible assumption | omega | assumption, ?_⟩
      refine ⟨by first | with_reducible assumption | omega | assumption, ?_⟩
      exact ⟨rfl, rfl, hk⟩
    · have hb := decide_eq_false hw
      have hn : ¬ wiL 0 12 l := fun q => hw (q j hz')
      refine ⟨[Ans.o (Orc.b true), Ans.o (Orc.val 11 (AV.cptr (ints (List.drop j l))) H.nil), Ans.o (Orc.val 12 (I (l.getD j i0)) H.nil), Ans.o (Orc.val 15 (AV.bool false) (H.mk [[I 0], [I 12]] [] []))], fun u => of_eq ((↑j : Int) < (↑l.length : Int) ∧ aIndexAddr Try.prog (36 : Nat) (AV.sl (ints l) l.length r) (I (↑j : Int)) = some (AV.cptr (ints (List.drop j l))) ∧ aLoad Try.prog (3 : Nat) (ints (List.drop j l)) = some (I (l.getD j i0)) ∧ aCall (Sof [c123v]) (AV.fn (Fn.func (123 : FuncId)) [] [AV.ptr 0 0, AV.ptr 1 0]) [I (l.getD j i0)] (H.mk [[I 0], [I 12]] [] []) = some (AV.bool false, H.mk [[I 0], [I 12]] [] []) ∧ (18 : Nat) = (18 : Nat) ∧ hits [Out.mk Unit AX.ret [(4 : Nat)] (fun x => ¬wiL (0 : Int) (12 : Int) l) (fun x => [AV.bool false]) (fun x => hWa) fun x => [], Out.mk Unit (AX.exit (0 : Nat)) [] (fun x => wiL (0 : Int) (12 : Int) l) (fun x => []) (fun x => hWa) fun x => []] AX.ret [u (0 : Nat), AV.fn (Fn.func (123 : FuncId)) [] [AV.ptr 0 0, AV.ptr 1 0], u (2 : Nat), u (3 : Nat), AV.bool false, u (5 : Nat), I (l.getD j i0), AV.sl (ints l) l.length r, I (↑l.length : Int), I (↑j : Int), AV.bool true, AV.cptr (ints (List.drop j l)), I (l.getD j i0), AV.fn (Fn.func (123 : FuncId)) [] [AV.ptr 0 0, AV.ptr 1 0], I (l.getD j i0), AV.bool false, AV.bool true, u (17 : Nat)] (H.mk [[I 0], [I 12]] [] [])) (by kernel_rfl) ?_⟩
      refine ⟨by first | with_reducible assumption | omega | assumption, ?_⟩
      refine ⟨by first | exact ix_ints (by kernel_rfl) (by omega) (by assumption) | exact ix_ints (by kernel_rfl) (by omega) (rok_idx (by assumption) (by omega)), ?_⟩
      refine ⟨by first | exact ld_ints (by kernel_rfl) (by kernel_rfl) (by omega) | exact ldm_ints (by kernel_rfl) (by kernel_rfl) (by first | omega | (simp; omega)), ?_⟩
      refine ⟨acall_b (acall_hit (c := c123v) ((ia l j, 0, 12), 0, 1) _ rfl ⟨rfl, rfl⟩) hb, ?_⟩
      refine ⟨by first | with_reducible assumption | omega | assumption, ?_⟩
      exact .inl ⟨(), hn, rfl, rfl, rfl⟩
  · have hz : (l.length : Int) ≤ j := by omega
    have hk : wiL 0 12 l := fun i hi => ha i (by omega)
    refine ⟨[Ans.o (Orc.b false)], fun u => of_eq ((↑l.length : Int) ≤ (↑j : Int) ∧ (18 : Nat) = (18 : Nat) ∧ hits [Out.mk Unit AX.ret [(4 : Nat)] (fun x => ¬wiL (0 : Int) (12 : Int) l) (fun x => [AV.bool false]) (fun x => hWa) fun x => [], Out.mk Unit (AX.exit (0 : Nat)) [] (fun x => wiL (0 : Int) (12 : Int) l) (fun x => []) (fun x => hWa) fun x => []] (AX.exit (0 : Nat)) [u (0 : Nat), AV.fn (Fn.func (123 : FuncId)) [] [AV.ptr 0 0, AV.ptr 1 0], u (2 : Nat), u (3 : Nat), u (4 : Nat), u (5 : Nat), u (6 : Nat), AV.sl (ints l) l.length r, I (↑l.length : Int), I (↑j : Int), AV.bool false, u (11 : Nat), u (12 : Nat), u (13 : Nat), u (14 : Nat), u (15 : Nat), u (16 : Nat), u (17 : Nat)] (H.mk [[I 0], [I 12]] [] [])) (by kernel_rfl) ?_⟩
    refine ⟨by first | with_reducible assumption | omega | assumption, ?_⟩
    refine ⟨by first | with_reducible assumption | omega | assumption, ?_⟩
    exact .inr (.inl ⟨(), hk, rfl, rfl, rfl⟩)
theorem r84a (l : List Int) (r : Room) (h0 : lim l.length) (h1 : rok l r) : Body Ewa none1 Try.f84 [ls l r, fWa] hWa (.bool (wiB 0 12 l), hWa) := by
  have hl := lp84a l r h0 h1
  refine body_s ([Ans.loop [(1 : Nat), (7 : Nat), (8 : Nat), (9 : Nat)] [Out.mk Unit AX.ret [(4 : Nat)] (fun x => ¬wiL (0 : Int) (12 : Int) l) (fun x => [AV.bool false]) (fun x => hWa) fun y => [], Out.mk Unit (AX.exit (0 : Nat)) [] (fun x => wiL (0 : Int) (12 : Int) l) (fun x => []) (fun x => hWa) fun y => []]]) (LoopS (Env.mk Try.prog (Sof [c123v]) (Pof (P := Try.prog) []) hWa.base (300 : Nat)) (loopAt Try.f84 (0 : Nat)) (18 : Nat) [(1 : Nat), (7 : Nat), (8 : Nat), (9 : Nat)] [AV.fn (Fn.func (123 : FuncId)) [] [AV.ptr 0 0, AV.ptr 1 0], AV.sl (ints l) l.length r, I (↑l.length : Int), I 0] (H.mk [[I 0], [I 12]] [] []) [Out.mk Unit AX.ret [(4 : Nat)] (fun x => ¬wiL (0 : Int) (12 : Int) l) (fun x => [AV.bool false]) (fun x => hWa) fun y => [], Out.mk Unit (AX.exit (0 : Nat)) [] (fun x => wiL (0 : Int) (12 : Int) l) (fun x => []) (fun x => hWa) fun y => []] ∧ (∀ (y : Unit), ¬wiL (0 : Int) (12 : Int) l → ∀ (u : Nat → AV), (AV.bool false, H.mk [[I 0], [I 12]] [] []) = (AV.bool (wiB (0 : Int) (12 : Int) l), H.mk [[I 0], [I 12]] [] [])) ∧ (∀ (y : Unit), (∀ (i : Nat), i < l.length → (0 : Int) ≤ ia l i ∧ ia l i ≤ (12 : Int)) → ∀ (u : Nat → AV), (AV.bool true, H.mk [[I 0], [I 12]] [] []) = (AV.bool (wiB (0 : Int) (12 : Int) l), H.mk [[I 0], [I 12]] [] [])) ∧ True) (by kernel_rfl) ?_
  refine ⟨hl, ?_⟩
  refine And.intro ?_ ?_
  · skip
    intro y
    intro w1
    intro u
    first | exact congrArg (fun b => (AV.bool b, hWa)) (wiB_f (by with_reducible assumption)).symm | exact congrArg (fun b => (AV.bool b, hWa)) (wiB_t (by with_reducible assumption)).symm
  · skip
    refine And.intro ?_ ?_
    · skip
      intro y
      intro w1
      intro u
      first | exact congrArg (fun b => (AV.bool b, hWa)) (wiB_f (by with_reducible assumption)).symm | exact congrArg (fun b => (AV.bool b, hWa)) (wiB_t (by with_reducible assumption)).symm
    · skip
      trivial
abbrev hWb : H := ⟨[[I 0], [I 12], [I 1], [I 12]], [], []⟩
abbrev fWb : AV := .fn (.func 123) [] [.ptr 2 0, .ptr 3 0]
noncomputable abbrev Ewb : Env := ⟨Try.prog, Sof (P := Try.prog) [c123v], Pof (P := Try.prog) [], hWb.base, 300⟩
abbrev o84b (l : List Int) : List Out :=
  [.mk Unit .ret [4] (fun _ => ¬ wiL 1 12 l) (fun _ => [.bool false]) (fun _ => hWb) (fun _ => []),
   .mk Unit (.exit 0) [] (fun _ => wiL 1 12 l) (fun _ => []) (fun _ => hWb) (fun _ => [])]
theorem lp84b (l : List Int) (r : Room) (h0 : lim l.length) (h1 : rok l r) :
    LoopS Ewb (loopAt Try.f84 0) 18 [1, 7, 8, 9] [fWb, ls l r, I l.length, I 0] hWb (o84b l) := by
  have hR : Rests Ewb none1 := rests mixed (.rd _ c123v_reads .nil)
  refine loop_s hR simp84 none (by intro _ h; cases h) (fun j vs h => h = hWb ∧ vs = [fWb, ls l r, I l.length, I (j : Nat)] ∧ ∀ i, i < j → wiP 1 12 (ia l i)) l.length ⟨rfl, rfl, fun i hi => absurd hi (by omega)⟩ (by intro _ h; cases h) ?_
  rintro j vs h hj ⟨rfl, rfl, ha⟩
  by_cases hz : (j : Int) < l.length
  · have hz' : j < l.length := by omega
    have hr := rok_idx h1 hz'
    have ev0 := wj1 (j := j) (by simp only [lim] at h0; omega)
    by_cases hw : wiP 1 12 (ia l j)
    · have hb := decide_eq_true hw
      have hk := all_succ (q := fun i => wiP 1 12 (ia l i)) ha hw
      refine ⟨[Ans.o (Orc.b true), Ans.o (Orc.val 11 (AV.cptr (ints (List.drop j l))) H.nil), Ans.o (Orc.val 12 (I (l.getD j i0)) H.nil), Ans.o (Orc.val 15 (AV.bool true) (H.mk [[I 0], [I 12], [I 1], [I 12]] [] [])), Ans.o (Orc.val 17 (I (↑(j + (1 : Nat)) : Int)) H.nil)], fun u => of_eq ((↑j : Int) < (↑l.length : Int) ∧ aIndexAddr Try.prog (36 : Nat) (AV.sl (ints l) l.length r) (I (↑j : Int)) = some (AV.cptr (ints (List.drop j l))) ∧ aLoad Try.prog (3 : Nat) (ints (List.drop j l)) = some (I (l.getD j i0)) ∧ aCall (Sof [c123v]) (AV.fn (Fn.func (123 : FuncId)) [] [AV.ptr 2 0, AV.ptr 3 0]) [I (l.getD j i0)] (H.mk [[I 0], [I 12], [I 1], [I 12]] [] []) = some (AV.bool true, H.mk [[I 0], [I 12], [I 1], [I 12]] [] []) ∧ aBin Try.prog BinOp.add (3 : Nat) (I (↑j : Int)) (I 1) = some (I (↑(j + (1 : Nat)) : Int)) ∧ (18 : Nat) = (18 : Nat) ∧ j < l.length ∧ Keep (H.mk [[I 0], [I 12], [I 1], [I 12]] [] [] = H.mk [[I 0], [I 12], [I 1], [I 12]] [] [] ∧ [AV.fn (Fn.func (123 : FuncId)) [] [AV.ptr 2 0, AV.ptr 3 0], AV.sl (ints l) l.length r, I (↑l.length : Int), I (↑(j + (1 : Nat)) : Int)] = [AV.fn (Fn.func (123 : FuncId)) [] [AV.ptr 2 0, AV.ptr 3 0], AV.sl (ints l) l.length r, I (↑l.length : Int), I (↑(j + (1 : Nat)) : Int)] ∧ ∀ (i : Nat), i < j + (1 : Nat) → wiP (1 : Int) (12 : Int) (ia l i))) (by kernel_rfl) ?_⟩
      refine ⟨by first | with_reducible assumption | omega | assumption, ?_⟩
      refine ⟨by first | exact ix_ints (by kernel_rfl) (by omega) (by assumption) | exact ix_ints (by kernel_rfl) (by omega) (rok_idx (by assumption) (by omega)), ?_⟩
      refine ⟨by first | exact ld_ints (by kernel_rfl) (by kernel_rfl) (by omega) | exact ldm_ints (by kernel_rfl) (by kernel_rfl) (by first | omega | (simp; omega)), ?_⟩
      refine ⟨acall_b (acall_hit (c := c123v) ((ia l j, 1, 12), 2, 3) _ rfl ⟨rfl, rfl⟩) hb, ?_⟩
      refine ⟨told_add (by with_reducible assumption), ?_⟩
      refine ⟨by first | with_reducible assumption | omega | assumption, ?_⟩
      refine ⟨by first | with_reducible assumption | omega | assumption, ?_⟩
      exact ⟨rfl, rfl, hk⟩
    · have hb := decide_eq_false hw
      have hn : ¬ wiL 1 12 l := fun q => hw (q j hz')
      refine ⟨[Ans.o (Orc.b true), Ans.o (Orc.val 11 (AV.cptr (ints (List.drop j l))) H.nil), Ans.o (Orc.val 12 (I (l.getD j i0)) H.nil), Ans.o (Orc.val 15 (AV.bool false) (H.mk [[I 0], [I 12], [I 1], [I 12]] [] []))], fun u => of_eq ((↑j : Int) < (↑l.length : Int) ∧ aIndexAddr Try.prog (36 : Nat) (AV.sl (ints l) l.length r) (I (↑j : Int)) = some (AV.cptr (ints (List.drop j l))) ∧ aLoad Try.prog (3 : Nat) (ints (List.drop j l)) = some (I (l.getD j i0)) ∧ aCall (Sof [c123v]) (AV.fn (Fn.func (123 : FuncId)) [] [AV.ptr 2 0, AV.ptr 3 0]) [I (l.getD j i0)] (H.mk [[I 0], [I 12], [I 1], [I 12]] [] []) = some (AV.bool false, H.mk [[I 0], [I 12], [I 1], [I 12]] [] []) ∧ (18 : Nat) = (18 : Nat) ∧ hits [Out.mk Unit AX.ret [(4 : Nat)] (fun x => ¬wiL (1 : Int) (12 : Int) l) (fun x => [AV.bool false]) (fun x => hWb) fun x => [], Out.mk Unit (AX.exit (0 : Nat)) [] (fun x => wiL (1 : Int) (12 : Int) l) (fun x => []) (fun x => hWb) fun x => []] AX.ret [u (0 : Nat), AV.fn (Fn.func (123 : FuncId)) [] [AV.ptr 2 0, AV.ptr 3 0], u (2 : Nat), u (3 : Nat), AV.bool false, u (5 : Nat), I (l.getD j i0), AV.sl (ints l) l.length r, I (↑l.length : Int), I (↑j : Int), AV.bool true, AV.cptr (ints (List.drop j l)), I (l.getD j i0), AV.fn (Fn.func (123 : FuncId)) [] [AV.ptr 2 0, AV.ptr 3 0], I (l.getD j i0), AV.bool false, AV.bool true, u (17 : Nat)] (H.mk [[I 0], [I 12], [I 1], [I 12]] [] [])) (by kernel_rfl) ?_⟩
      refine ⟨by first | with_reducible assumption | omega | assumption, ?_⟩
      refine ⟨by first | exact ix_ints (by kernel_rfl) (by omega) (by assumption) | exact ix_ints (by kernel_rfl) (by omega) (rok_idx (by assumption) (by omega)), ?_⟩
      refine ⟨by first | exact ld_ints (by kernel_rfl) (by kernel_rfl) (by omega) | exact ldm_ints (by kernel_rfl) (by kernel_rfl) (by first | omega | (simp; omega)), ?_⟩
      refine ⟨acall_b (acall_hit (c := c123v) ((ia l j, 1, 12), 2, 3) _ rfl ⟨rfl, rfl⟩) hb, ?_⟩
      refine ⟨by first | with_reducible assumption | omega | assumption, ?_⟩
      exact .inl ⟨(), hn, rfl, rfl, rfl⟩
  · have hz : (l.length : Int) ≤ j := by omega
    have hk : wiL 1 12 l := fun i hi => ha i (by omega)
    refine ⟨[Ans.o (Orc.b false)], fun u => of_eq ((↑l.length : Int) ≤ (↑j : Int) ∧ (18 : Nat) = (18 : Nat) ∧ hits [Out.mk Unit AX.ret [(4 : Nat)] (fun x => ¬wiL (1 : Int) (12 : Int) l) (fun x => [AV.bool false]) (fun x => hWb) fun x => [], Out.mk Unit (AX.exit (0 : Nat)) [] (fun x => wiL (1 : Int) (12 : Int) l) (fun x => []) (fun x => hWb) fun x => []] (AX.exit (0 : Nat)) [u (0 : Nat), AV.fn (Fn.func (123 : FuncId)) [] [AV.ptr 2 0, AV.ptr 3 0], u (2 : Nat), u (3 : Nat), u (4 : Nat), u (5 : Nat), u (6 : Nat), AV.sl (ints l) l.length r, I (↑l.length : Int), I (↑j : Int), AV.bool false, u (11 : Nat), u (12 : Nat), u (13 : Nat), u (14 : Nat), u (15 : Nat), u (16 : Nat), u (17 : Nat)] (H.mk [[I 0], [I 12], [I 1], [I 12]] [] [])) (by kernel_rfl) ?_⟩
    refine ⟨by first | with_reducible assumption | omega | assumption, ?_⟩
    refine ⟨by first | with_reducible assumption | omega | assumption, ?_⟩
    exact .inr (.inl ⟨(), hk, rfl, rfl, rfl⟩)
theorem r84b (l : List Int) (r : Room) (h0 : lim l.length) (h1 : rok l r) : Body Ewb none1 Try.f84 [ls l r, fWb] hWb (.bool (wiB 1 12 l), hWb) := by
  have hl := lp84b l r h0 h1
  refine body_s ([Ans.loop [(1 : Nat), (7 : Nat), (8 : Nat), (9 : Nat)] [Out.mk Unit AX.ret [(4 : Nat)] (fun x => ¬wiL (1 : Int) (12 : Int) l) (fun x => [AV.bool false]) (fun x => hWb) fun y => [], Out.mk Unit (AX.exit (0 : Nat)) [] (fun x => wiL (1 : Int) (12 : Int) l) (fun x => []) (fun x => hWb) fun y => []]]) (LoopS (Env.mk Try.prog (Sof [c123v]) (Pof (P := Try.prog) []) hWb.base (300 : Nat)) (loopAt Try.f84 (0 : Nat)) (18 : Nat) [(1 : Nat), (7 : Nat), (8 : Nat), (9 : Nat)] [AV.fn (Fn.func (123 : FuncId)) [] [AV.ptr 2 0, AV.ptr 3 0], AV.sl (ints l) l.length r, I (↑l.length : Int), I 0] (H.mk [[I 0], [I 12], [I 1], [I 12]] [] []) [Out.mk Unit AX.ret [(4 : Nat)] (fun x => ¬wiL (1 : Int) (12 : Int) l) (fun x => [AV.bool false]) (fun x => hWb) fun y => [], Out.mk Unit (AX.exit (0 : Nat)) [] (fun x => wiL (1 : Int) (12 : Int) l) (fun x => []) (fun x => hWb) fun y => []] ∧ (∀ (y : Unit), ¬wiL (1 : Int) (12 : Int) l → ∀ (u : Nat → AV), (AV.bool false, H.mk [[I 0], [I 12], [I 1], [I 12]] [] []) = (AV.bool (wiB (1 : Int) (12 : Int) l), H.mk [[I 0], [I 12], [I 1], [I 12]] [] [])) ∧ (∀ (y : Unit), (∀ (i : Nat), i < l.length → (1 : Int) ≤ ia l i ∧ ia l i ≤ (12 : Int)) → ∀ (u : Nat → AV), (AV.bool true, H.mk [[I 0], [I 12], [I 1], [I 12]] [] []) = (AV.bool (wiB (1 : Int) (12 : Int) l), H.mk [[I 0], [I 12], [I 1], [I 12]] [] [])) ∧ True) (by kernel_rfl) ?_
  refine ⟨hl, ?_⟩
  refine And.intro ?_ ?_
  · skip
    intro y
    intro w1
    intro u
    first | exact congrArg (fun b => (AV.bool b, hWb)) (wiB_f (by with_reducible assumption)).symm | exact congrArg (fun b => (AV.bool b, hWb)) (wiB_t (by with_reducible assumption)).symm
  · skip
    refine And.intro ?_ ?_
    · skip
      intro y
      intro w1
      intro u
      first | exact congrArg (fun b => (AV.bool b, hWb)) (wiB_f (by with_reducible assumption)).symm | exact congrArg (fun b => (AV.bool b, hWb)) (wiB_t (by with_reducible assumption)).symm
    · skip
      trivial
end Go.Proofs.Bts

