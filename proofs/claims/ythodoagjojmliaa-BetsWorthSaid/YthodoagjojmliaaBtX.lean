/- Layer 9: what a race and a staking are, by the program and by the reference. -/
import Derived.Test.YthodoagjojmliaaBtW
import Derived.Test.YthodoagjojmliaaBtT
import Derived.KernelRfl
set_option linter.unusedSimpArgs false
set_option linter.unusedVariables false
set_option linter.unnecessarySimpa false
set_option maxHeartbeats 4000000
set_option maxRecDepth 100000
namespace Go.Proofs.Bts
open Go Go.VM
open Go.Proofs.Sur (i_and i_shl i_shr bit_01)

theorem hWa_closed : hWa.closed := ⟨rfl, rfl, fun x hx => by
  simp at hx
  rcases hx with rfl | rfl <;> rfl⟩
theorem hWb_closed : hWb.closed := ⟨rfl, rfl, fun x hx => by
  simp at hx
  rcases hx with rfl | rfl | rfl | rfl <;> rfl⟩
abbrev pI0 (l : List Int) (r : Room) : Prop := lim l.length ∧ rok l r
noncomputable def c84a : Ctr Try.prog where
  f := 84
  X := List Int × Room
  args x := [ls x.1 x.2, fWa]
  pre x H := pI0 x.1 x.2 ∧ ∃ zs, H.blk = hWa.blk ++ zs
  res x H := (.bool (wiB 0 12 x.1), H)
  det := by
    rintro ⟨l, r⟩ ⟨m, s⟩ H e _ _
    simp only [List.cons.injEq, AV.sl.injEq, and_true] at e
    rw [ints_inj e.1]
  ok := by
    rintro ⟨l, r⟩ H ⟨⟨h1, h2⟩, zs, hz⟩
    refine ⟨ok84.call, ?_⟩
    have hc := (r84a l r.wk h1 (by simpa using h2)).run ok84 (.rd _ c123v_reads .nil) rfl
    have := CallOk.frame hWa_closed (by simp [AV.bnds, AV.bnd, rm_wk_bnd]) (by simp [AV.bnd]) hc zs H.toks H.maps
    rw [← hz] at this
    exact CallOk.wk (args := [ls l r, fWa]) this
theorem c84a_reads : c84a.Reads := ⟨fun _ _ _ => rfl, fun x H zs hx => ⟨⟨hx.1, by
    obtain ⟨_, z1, hz⟩ := hx
    exact ⟨z1 ++ zs, by show H.blk ++ zs = _; rw [hz, List.append_assoc]⟩⟩, rfl⟩⟩
noncomputable def c84b : Ctr Try.prog where
  f := 84
  X := List Int × Room
  args x := [ls x.1 x.2, fWb]
  pre x H := pI0 x.1 x.2 ∧ ∃ zs, H.blk = hWb.blk ++ zs
  res x H := (.bool (wiB 1 12 x.1), H)
  det := by
    rintro ⟨l, r⟩ ⟨m, s⟩ H e _ _
    simp only [List.cons.injEq, AV.sl.injEq, and_true] at e
    rw [ints_inj e.1]
  ok := by
    rintro ⟨l, r⟩ H ⟨⟨h1, h2⟩, zs, hz⟩
    refine ⟨ok84.call, ?_⟩
    have hc := (r84b l r.wk h1 (by simpa using h2)).run ok84 (.rd _ c123v_reads .nil) rfl
    have := CallOk.frame hWb_closed (by simp [AV.bnds, AV.bnd, rm_wk_bnd]) (by simp [AV.bnd]) hc zs H.toks H.maps
    rw [← hz] at this
    exact CallOk.wk (args := [ls l r, fWb]) this
theorem c84b_reads : c84b.Reads := ⟨fun _ _ _ => rfl, fun x H zs hx => ⟨⟨hx.1, by
    obtain ⟨_, z1, hz⟩ := hx
    exact ⟨z1 ++ zs, by show H.blk ++ zs = _; rw [hz, List.append_assoc]⟩⟩, rfl⟩⟩
noncomputable def c84w : Ctr Try.prog := Ctr.or c84a c84b rfl (by
  rintro ⟨l, r⟩ ⟨m, s⟩ h e _ _
  exact absurd (List.cons.inj (List.cons.inj e).2).1 (by intro q; cases q))
abbrev M85 : FuncId → Bool := fun f => f == 85
theorem ok85 : FokM Try.prog none1 85 Try.f85 := ⟨mixed, by kernel_rfl, by kernel_rfl, by kernel_rfl, by kernel_rfl⟩
noncomputable abbrev Ew0 (h : H) : Env := ⟨Try.prog, Sof (P := Try.prog) [], Pof (P := Try.prog) [], h.base, 300⟩
theorem r85a : Body (Ew0 .nil) none1 Try.f85 [I 0, I 12] .nil (fWa, hWa) := by
  refine body_s ([]) ((AV.fn (Fn.func (123 : Nat)) [] [AV.ptr 0 0, AV.ptr 1 0], H.mk [[I 0], [I 12]] [] []) = (AV.fn (Fn.func (123 : FuncId)) [] [AV.ptr 0 0, AV.ptr 1 0], H.mk [[I 0], [I 12]] [] [])) (by kernel_rfl) ?_
  rfl
theorem r85b : Body (Ew0 hWa) none1 Try.f85 [I 1, I 12] hWa (fWb, hWb) := by
  refine body_s ([]) ((AV.fn (Fn.func (123 : Nat)) [] [AV.ptr 2 0, AV.ptr 3 0], H.mk [[I 0], [I 12], [I 1], [I 12]] [] []) = (AV.fn (Fn.func (123 : FuncId)) [] [AV.ptr 2 0, AV.ptr 3 0], H.mk [[I 0], [I 12], [I 1], [I 12]] [] [])) (by kernel_rfl) ?_
  rfl
noncomputable def c85a : Ctr Try.prog where
  f := 85
  X := Unit
  args _ := [I 0, I 12]
  pre _ h := h = .nil
  res _ _ := (fWa, hWa)
  det _ _ _ _ _ _ := rfl
  ok _ h hp := by subst hp; exact ⟨ok85.call, r85a.run ok85 .nil rfl⟩
noncomputable def c85b : Ctr Try.prog where
  f := 85
  X := Unit
  args _ := [I 1, I 12]
  pre _ h := h = hWa
  res _ _ := (fWb, hWb)
  det _ _ _ _ _ _ := rfl
  ok _ h hp := by subst hp; exact ⟨ok85.call, r85b.run ok85 .nil rfl⟩
noncomputable def c85w : Ctr Try.prog := Ctr.or c85a c85b rfl (by
  rintro _ _ h e _ _
  exact absurd (List.cons.inj e).1 (by intro q; cases q))
/-- the sum, as the program adds -/
def ws (l : List Int) : Nat → Int
  | 0 => 0
  | j + 1 => IntKind.i64.wrap (ws l j + ia l j)
theorem ws_in {l : List Int} (h : wiL 0 12 l) (h5 : l.length ≤ 5) : ∀ {j : Nat}, j ≤ l.length → ws l j = sI (ia l) j ∧ 0 ≤ sI (ia l) j ∧ sI (ia l) j ≤ j * 12
  | 0, _ => ⟨rfl, by simp [sI], by simp [sI]⟩
  | j + 1, hj => by
    obtain ⟨h1, h2, h3⟩ := ws_in h h5 (j := j) (by omega)
    have := h j (by omega)
    simp only [wiP] at this
    refine ⟨?_, by simp only [sI]; omega, by simp only [sI]; omega⟩
    rw [ws, h1, sI]; exact wr _ (by omega) (by omega)
abbrev raO (ch od : List Int) : Prop := ((2 ≤ ch.length ∧ ch.length ≤ 5) ∧ od.length = ch.length) ∧ wiL 0 12 ch ∧ sI (ia ch) ch.length = 12 ∧ wiL 1 12 od
open Classical in
noncomputable def raB (ch od : List Int) : Bool := decide (raO ch od)
theorem raB_t {ch od : List Int} (h : raO ch od) : raB ch od = true := by simp only [raB, decide_eq_true_eq]; exact h
theorem raB_f {ch od : List Int} (h : ¬ raO ch od) : raB ch od = false := by simp only [raB, decide_eq_false_iff_not]; exact h
noncomputable abbrev E95 : Env := ⟨Try.prog, Sof (P := Try.prog) [c112.to, c85w, c84w], Pof (P := Try.prog) [], H.nil.base, 300⟩
theorem ct95 : Ctrs Try.prog M85 [c112.to, c85w, c84w] := .pure _ (.eff _ rfl (.rd _ (or_reads c84a_reads c84b_reads) .nil))
abbrev o95 (l m : List Int) (r q : Room) : List Out := [.mk Unit (.exit 0) [0, 1, 5] (fun _ => True) (fun _ => [ls l r, ls m q, I (ws l l.length)]) (fun _ => .nil) (fun _ => [])]
theorem simp95 : allSimpleM M85 (loopAt Try.f95 0) = true := by kernel_rfl
theorem lp95 (l m : List Int) (r q : Room) (h0 : lim l.length) (h1 : rok l r) :
    LoopS E95 (loopAt Try.f95 0) 41 [0, 1, 5, 19, 20, 21] [ls l r, ls m q, I 0, ls l r, I l.length, I 0] .nil (o95 l m r q) := by
  have hR : Rests E95 M85 := rests mixed ct95
  refine loop_s hR simp95 none (by intro _ h; cases h) (fun j vs h => h = .nil ∧ vs = [ls l r, ls m q, I (ws l j), ls l r, I l.length, I (j : Nat)]) l.length ⟨rfl, rfl⟩ (by intro _ h; cases h) ?_
  rintro j vs h hj ⟨rfl, rfl⟩
  by_cases hz : (j : Int) < l.length
  · have hz' : j < l.length := by omega
    have hr := rok_idx h1 hz'
    have ev0 := wj1 (j := j) (by simp only [lim] at h0; omega)
    have ev1 : IntKind.i64.wrap (ws l j + ia l j) = ws l (j + 1) := rfl
    refine ⟨[Ans.o (Orc.b true), Ans.o (Orc.val 23 (AV.cptr (ints (List.drop j l))) H.nil), Ans.o (Orc.val 24 (I (l.getD j i0)) H.nil), Ans.o (Orc.val 27 (I (ws l (j + (1 : Nat)))) H.nil), Ans.o (Orc.val 28 (I (↑(j + (1 : Nat)) : Int)) H.nil)], fun u => of_eq ((↑j : Int) < (↑l.length : Int) ∧ aIndexAddr Try.prog (36 : Nat) (AV.sl (ints l) l.length r) (I (↑j : Int)) = some (AV.cptr (ints (List.drop j l))) ∧ aLoad Try.prog (3 : Nat) (ints (List.drop j l)) = some (I (l.getD j i0)) ∧ aBin Try.prog BinOp.add (3 : Nat) (I (ws l j)) (I (l.getD j i0)) = some (I (ws l (j + (1 : Nat)))) ∧ aBin Try.prog BinOp.add (3 : Nat) (I (↑j : Int)) (I 1) = some (I (↑(j + (1 : Nat)) : Int)) ∧ (41 : Nat) = (41 : Nat) ∧ j < l.length ∧ Keep (H.mk [] [] [] = H.mk [] [] [] ∧ [AV.sl (ints l) l.length r, AV.sl (ints m) m.length q, I (ws l (j + (1 : Nat))), AV.sl (ints l) l.length r, I (↑l.length : Int), I (↑(j + (1 : Nat)) : Int)] = [AV.sl (ints l) l.length r, AV.sl (ints m) m.length q, I (ws l (j + (1 : Nat))), AV.sl (ints l) l.length r, I (↑l.length : Int), I (↑(j + (1 : Nat)) : Int)])) (by kernel_rfl) ?_⟩
    refine ⟨by first | with_reducible assumption | omega | assumption, ?_⟩
    refine ⟨by first | exact ix_ints (by kernel_rfl) (by omega) (by assumption) | exact ix_ints (by kernel_rfl) (by omega) (rok_idx (by assumption) (by omega)), ?_⟩
    refine ⟨by first | exact ld_ints (by kernel_rfl) (by kernel_rfl) (by omega) | exact ldm_ints (by kernel_rfl) (by kernel_rfl) (by first | omega | (simp; omega)), ?_⟩
    refine ⟨told_add (by with_reducible assumption), ?_⟩
    refine ⟨told_add (by with_reducible assumption), ?_⟩
    refine ⟨by first | with_reducible assumption | omega | assumption, ?_⟩
    refine ⟨by first | with_reducible assumption | omega | assumption, ?_⟩
    exact ⟨rfl, rfl⟩
  · have hz : (l.length : Int) ≤ j := by omega
    have e : j = l.length := by omega
    subst e
    refine ⟨[Ans.o (Orc.b false)], fun u => of_eq ((↑l.length : Int) ≤ (↑l.length : Int) ∧ (41 : Nat) = (41 : Nat) ∧ hits [Out.mk Unit (AX.exit (0 : Nat)) [(0 : Nat), (1 : Nat), (5 : Nat)] (fun x => True) (fun x => [ls l r, ls m q, I (ws l l.length)]) (fun x => H.nil) fun x => []] (AX.exit (0 : Nat)) [AV.sl (ints l) l.length r, AV.sl (ints m) m.length q, u (2 : Nat), u (3 : Nat), u (4 : Nat), I (ws l l.length), u (6 : Nat), u (7 : Nat), u (8 : Nat), u (9 : Nat), u (10 : Nat), u (11 : Nat), u (12 : Nat), u (13 : Nat), u (14 : Nat), u (15 : Nat), u (16 : Nat), u (17 : Nat), u (18 : Nat), AV.sl (ints l) l.length r, I (↑l.length : Int), I (↑l.length : Int), AV.bool false, u (23 : Nat), u (24 : Nat), u (25 : Nat), u (26 : Nat), u (27 : Nat), u (28 : Nat), u (29 : Nat), u (30 : Nat), u (31 : Nat), u (32 : Nat), u (33 : Nat), u (34 : Nat), u (35 : Nat), u (36 : Nat), u (37 : Nat), u (38 : Nat), u (39 : Nat), u (40 : Nat)] (H.mk [] [] [])) (by kernel_rfl) ?_⟩
    refine ⟨by first | with_reducible assumption | omega | assumption, ?_⟩
    refine ⟨by first | with_reducible assumption | omega | assumption, ?_⟩
    exact .inl ⟨(), trivial, rfl, rfl, rfl⟩
theorem ok95 : FokM Try.prog M85 95 Try.f95 := ⟨mixed, by kernel_rfl, by kernel_rfl, by kernel_rfl, by kernel_rfl⟩
abbrev p95 (ch : List Int) (r : Room) (od : List Int) (q : Room) : Prop := pI0 ch r ∧ pI0 od q
theorem r95 (ch : List Int) (r : Room) (od : List Int) (q : Room) (hp : p95 ch r od q) : Body E95 M85 Try.f95 [ls ch r, ls od q] .nil (.bool (raB ch od), .nil) := by
  have hl := lp95 ch od r q hp.1.1 hp.1.2
  have p112 := hp.1.1
  by_cases h1 : 2 ≤ ch.length ∧ ch.length ≤ 5
  · have e1 : szB ch.length = true := by simp only [szB, decide_eq_true_eq]; omega
    by_cases h2 : (od.length : Int) = ch.length
    · by_cases h3 : wiL 0 12 ch
      · have hb1 := wiB_t h3
        have hw := (ws_in h3 h1.2 (Nat.le_refl _)).1
        by_cases h4 : ws ch ch.length = 12
        · by_cases h5 : wiL 1 12 od
          · have hb2 := wiB_t h5
            rw [raB_t ⟨⟨h1, by omega⟩, h3, by rw [← hw]; exact h4, h5⟩]
            refine body_s ([Ans.o (Orc.val 10 (AV.bool true) (H.mk [] [] [])), Ans.o (Orc.b false), Ans.loop [(0 : Nat), (1 : Nat), (5 : Nat), (19 : Nat), (20 : Nat), (21 : Nat)] [Out.mk Unit (AX.exit (0 : Nat)) [(0 : Nat), (1 : Nat), (5 : Nat)] (fun x => True) (fun x => [ls ch r, ls od q, I (ws ch ch.length)]) (fun x => H.nil) fun y => [Ans.o (Orc.val 30 (AV.fn (Fn.func (123 : FuncId)) [] [AV.ptr 0 0, AV.ptr 1 0]) (H.mk [[I 0], [I 12]] [] [])), Ans.o (Orc.val 31 (AV.bool true) (H.mk [[I 0], [I 12]] [] [])), Ans.o (Orc.b true), Ans.o (Orc.val 38 (AV.fn (Fn.func (123 : FuncId)) [] [AV.ptr 2 0, AV.ptr 3 0]) (H.mk [[I 0], [I 12], [I 1], [I 12]] [] [])), Ans.o (Orc.val 39 (AV.bool true) (H.mk [[I 0], [I 12], [I 1], [I 12]] [] []))]]]) (aCall (Sof [c112.to, c85w, c84w]) (AV.fn (Fn.func (112 : Nat)) [] []) [I (↑ch.length : Int)] (H.mk [] [] []) = some (AV.bool true, H.mk [] [] []) ∧ (↑od.length : Int) = (↑ch.length : Int) ∧ LoopS (Env.mk Try.prog (Sof [c112.to, c85w, c84w]) (Pof (P := Try.prog) []) H.nil.base (300 : Nat)) (loopAt Try.f95 (0 : Nat)) (41 : Nat) [(0 : Nat), (1 : Nat), (5 : Nat), (19 : Nat), (20 : Nat), (21 : Nat)] [AV.sl (ints ch) ch.length r, AV.sl (ints od) od.length q, I 0, AV.sl (ints ch) ch.length r, I (↑ch.length : Int), I 0] (H.mk [] [] []) [Out.mk Unit (AX.exit (0 : Nat)) [(0 : Nat), (1 : Nat), (5 : Nat)] (fun x => True) (fun x => [ls ch r, ls od q, I (ws ch ch.length)]) (fun x => H.nil) fun y => [Ans.o (Orc.val 30 (AV.fn (Fn.func (123 : FuncId)) [] [AV.ptr 0 0, AV.ptr 1 0]) (H.mk [[I 0], [I 12]] [] [])), Ans.o (Orc.val 31 (AV.bool true) (H.mk [[I 0], [I 12]] [] [])), Ans.o (Orc.b true), Ans.o (Orc.val 38 (AV.fn (Fn.func (123 : FuncId)) [] [AV.ptr 2 0, AV.ptr 3 0]) (H.mk [[I 0], [I 12], [I 1], [I 12]] [] [])), Ans.o (Orc.val 39 (AV.bool true) (H.mk [[I 0], [I 12], [I 1], [I 12]] [] []))]] ∧ (∀ (y : Unit), True → ∀ (u : Nat → AV), aCall (Sof [c112.to, c85w, c84w]) (AV.fn (Fn.func (85 : Nat)) [] []) [I 0, I 12] (H.mk [] [] []) = some (AV.fn (Fn.func (123 : FuncId)) [] [AV.ptr 0 0, AV.ptr 1 0], H.mk [[I 0], [I 12]] [] []) ∧ aCall (Sof [c112.to, c85w, c84w]) (AV.fn (Fn.func (84 : Nat)) [] []) [AV.sl (ints ch) ch.length r, AV.fn (Fn.func (123 : FuncId)) [] [AV.ptr 0 0, AV.ptr 1 0]] (H.mk [[I 0], [I 12]] [] []) = some (AV.bool true, H.mk [[I 0], [I 12]] [] []) ∧ ws ch ch.length = (12 : Int) ∧ aCall (Sof [c112.to, c85w, c84w]) (AV.fn (Fn.func (85 : Nat)) [] []) [I 1, I 12] (H.mk [[I 0], [I 12]] [] []) = some (AV.fn (Fn.func (123 : FuncId)) [] [AV.ptr 2 0, AV.ptr 3 0], H.mk [[I 0], [I 12], [I 1], [I 12]] [] []) ∧ aCall (Sof [c112.to, c85w, c84w]) (AV.fn (Fn.func (84 : Nat)) [] []) [AV.sl (ints od) od.length q, AV.fn (Fn.func (123 : FuncId)) [] [AV.ptr 2 0, AV.ptr 3 0]] (H.mk [[I 0], [I 12], [I 1], [I 12]] [] []) = some (AV.bool true, H.mk [[I 0], [I 12], [I 1], [I 12]] [] []) ∧ (AV.bool true, H.mk [] [] []) = (AV.bool true, H.mk [] [] [])) ∧ True) (by kernel_rfl) ?_
            refine ⟨acall_b (acall_hit (c := c112.to) ch.length _ rfl p112) e1, ?_⟩
            refine ⟨by first | with_reducible assumption | omega | assumption, ?_⟩
            refine ⟨hl, ?_⟩
            refine And.intro ?_ ?_
            · skip
              intro y
              intro w1
              intro u
              refine ⟨by first | exact acall_hit (c := c85w) (.inl ()) _ rfl rfl | exact acall_hit (c := c85w) (.inr ()) _ rfl rfl, ?_⟩
              refine ⟨by first | exact acall_b (acall_hit (c := c84w) (.inl (ch, r)) _ rfl ⟨hp.1, [], rfl⟩) hb1 | exact acall_b (acall_hit (c := c84w) (.inr (od, q)) _ rfl ⟨hp.2, [], rfl⟩) hb2, ?_⟩
              refine ⟨by first | with_reducible assumption | omega | assumption, ?_⟩
              refine ⟨by first | exact acall_hit (c := c85w) (.inl ()) _ rfl rfl | exact acall_hit (c := c85w) (.inr ()) _ rfl rfl, ?_⟩
              refine ⟨by first | exact acall_b (acall_hit (c := c84w) (.inl (ch, r)) _ rfl ⟨hp.1, [], rfl⟩) hb1 | exact acall_b (acall_hit (c := c84w) (.inr (od, q)) _ rfl ⟨hp.2, [], rfl⟩) hb2, ?_⟩
              rfl
            · skip
              trivial
          · have hb2 := wiB_f h5
            rw [raB_f (fun q => h5 q.2.2.2)]
            refine body_s ([Ans.o (Orc.val 10 (AV.bool true) (H.mk [] [] [])), Ans.o (Orc.b false), Ans.loop [(0 : Nat), (1 : Nat), (5 : Nat), (19 : Nat), (20 : Nat), (21 : Nat)] [Out.mk Unit (AX.exit (0 : Nat)) [(0 : Nat), (1 : Nat), (5 : Nat)] (fun x => True) (fun x => [ls ch r, ls od q, I (ws ch ch.length)]) (fun x => H.nil) fun y => [Ans.o (Orc.val 30 (AV.fn (Fn.func (123 : FuncId)) [] [AV.ptr 0 0, AV.ptr 1 0]) (H.mk [[I 0], [I 12]] [] [])), Ans.o (Orc.val 31 (AV.bool true) (H.mk [[I 0], [I 12]] [] [])), Ans.o (Orc.b true), Ans.o (Orc.val 38 (AV.fn (Fn.func (123 : FuncId)) [] [AV.ptr 2 0, AV.ptr 3 0]) (H.mk [[I 0], [I 12], [I 1], [I 12]] [] [])), Ans.o (Orc.val 39 (AV.bool false) (H.mk [[I 0], [I 12], [I 1], [I 12]] [] []))]]]) (aCall (Sof [c112.to, c85w, c84w]) (AV.fn (Fn.func (112 : Nat)) [] []) [I (↑ch.length : Int)] (H.mk [] [] []) = some (AV.bool true, H.mk [] [] []) ∧ (↑od.length : Int) = (↑ch.length : Int) ∧ LoopS (Env.mk Try.prog (Sof [c112.to, c85w, c84w]) (Pof (P := Try.prog) []) H.nil.base (300 : Nat)) (loopAt Try.f95 (0 : Nat)) (41 : Nat) [(0 : Nat), (1 : Nat), (5 : Nat), (19 : Nat), (20 : Nat), (21 : Nat)] [AV.sl (ints ch) ch.length r, AV.sl (ints od) od.length q, I 0, AV.sl (ints ch) ch.length r, I (↑ch.length : Int), I 0] (H.mk [] [] []) [Out.mk Unit (AX.exit (0 : Nat)) [(0 : Nat), (1 : Nat), (5 : Nat)] (fun x => True) (fun x => [ls ch r, ls od q, I (ws ch ch.length)]) (fun x => H.nil) fun y => [Ans.o (Orc.val 30 (AV.fn (Fn.func (123 : FuncId)) [] [AV.ptr 0 0, AV.ptr 1 0]) (H.mk [[I 0], [I 12]] [] [])), Ans.o (Orc.val 31 (AV.bool true) (H.mk [[I 0], [I 12]] [] [])), Ans.o (Orc.b true), Ans.o (Orc.val 38 (AV.fn (Fn.func (123 : FuncId)) [] [AV.ptr 2 0, AV.ptr 3 0]) (H.mk [[I 0], [I 12], [I 1], [I 12]] [] [])), Ans.o (Orc.val 39 (AV.bool false) (H.mk [[I 0], [I 12], [I 1], [I 12]] [] []))]] ∧ (∀ (y : Unit), True → ∀ (u : Nat → AV), aCall (Sof [c112.to, c85w, c84w]) (AV.fn (Fn.func (85 : Nat)) [] []) [I 0, I 12] (H.mk [] [] []) = some (AV.fn (Fn.func (123 : FuncId)) [] [AV.ptr 0 0, AV.ptr 1 0], H.mk [[I 0], [I 12]] [] []) ∧ aCall (Sof [c112.to, c85w, c84w]) (AV.fn (Fn.func (84 : Nat)) [] []) [AV.sl (ints ch) ch.length r, AV.fn (Fn.func (123 : FuncId)) [] [AV.ptr 0 0, AV.ptr 1 0]] (H.mk [[I 0], [I 12]] [] []) = some (AV.bool true, H.mk [[I 0], [I 12]] [] []) ∧ ws ch ch.length = (12 : Int) ∧ aCall (Sof [c112.to, c85w, c84w]) (AV.fn (Fn.func (85 : Nat)) [] []) [I 1, I 12] (H.mk [[I 0], [I 12]] [] []) = some (AV.fn (Fn.func (123 : FuncId)) [] [AV.ptr 2 0, AV.ptr 3 0], H.mk [[I 0], [I 12], [I 1], [I 12]] [] []) ∧ aCall (Sof [c112.to, c85w, c84w]) (AV.fn (Fn.func (84 : Nat)) [] []) [AV.sl (ints od) od.length q, AV.fn (Fn.func (123 : FuncId)) [] [AV.ptr 2 0, AV.ptr 3 0]] (H.mk [[I 0], [I 12], [I 1], [I 12]] [] []) = some (AV.bool false, H.mk [[I 0], [I 12], [I 1], [I 12]] [] []) ∧ (AV.bool false, H.mk [] [] []) = (AV.bool false, H.mk [] [] [])) ∧ True) (by kernel_rfl) ?_
            refine ⟨acall_b (acall_hit (c := c112.to) ch.length _ rfl p112) e1, ?_⟩
            refine ⟨by first | with_reducible assumption | omega | assumption, ?_⟩
            refine ⟨hl, ?_⟩
            refine And.intro ?_ ?_
            · skip
              intro y
              intro w1
              intro u
              refine ⟨by first | exact acall_hit (c := c85w) (.inl ()) _ rfl rfl | exact acall_hit (c := c85w) (.inr ()) _ rfl rfl, ?_⟩
              refine ⟨by first | exact acall_b (acall_hit (c := c84w) (.inl (ch, r)) _ rfl ⟨hp.1, [], rfl⟩) hb1 | exact acall_b (acall_hit (c := c84w) (.inr (od, q)) _ rfl ⟨hp.2, [], rfl⟩) hb2, ?_⟩
              refine ⟨by first | with_reducible assumption | omega | assumption, ?_⟩
              refine ⟨by first | exact acall_hit (c := c85w) (.inl ()) _ rfl rfl | exact acall_hit (c := c85w) (.inr ()) _ rfl rfl, ?_⟩
              refine ⟨by first | exact acall_b (acall_hit (c := c84w) (.inl (ch, r)) _ rfl ⟨hp.1, [], rfl⟩) hb1 | exact acall_b (acall_hit (c := c84w) (.inr (od, q)) _ rfl ⟨hp.2, [], rfl⟩) hb2, ?_⟩
              rfl
            · skip
              trivial
        · have h4 : ws ch ch.length ≠ 12 := h4
          rw [raB_f (fun q => h4 (by rw [hw]; exact q.2.2.1))]
          refine body_s ([Ans.o (Orc.val 10 (AV.bool true) (H.mk [] [] [])), Ans.o (Orc.b false), Ans.loop [(0 : Nat), (1 : Nat), (5 : Nat), (19 : Nat), (20 : Nat), (21 : Nat)] [Out.mk Unit (AX.exit (0 : Nat)) [(0 : Nat), (1 : Nat), (5 : Nat)] (fun x => True) (fun x => [ls ch r, ls od q, I (ws ch ch.length)]) (fun x => H.nil) fun y => [Ans.o (Orc.val 30 (AV.fn (Fn.func (123 : FuncId)) [] [AV.ptr 0 0, AV.ptr 1 0]) (H.mk [[I 0], [I 12]] [] [])), Ans.o (Orc.val 31 (AV.bool true) (H.mk [[I 0], [I 12]] [] [])), Ans.o (Orc.b false)]]]) (aCall (Sof [c112.to, c85w, c84w]) (AV.fn (Fn.func (112 : Nat)) [] []) [I (↑ch.length : Int)] (H.mk [] [] []) = some (AV.bool true, H.mk [] [] []) ∧ (↑od.length : Int) = (↑ch.length : Int) ∧ LoopS (Env.mk Try.prog (Sof [c112.to, c85w, c84w]) (Pof (P := Try.prog) []) H.nil.base (300 : Nat)) (loopAt Try.f95 (0 : Nat)) (41 : Nat) [(0 : Nat), (1 : Nat), (5 : Nat), (19 : Nat), (20 : Nat), (21 : Nat)] [AV.sl (ints ch) ch.length r, AV.sl (ints od) od.length q, I 0, AV.sl (ints ch) ch.length r, I (↑ch.length : Int), I 0] (H.mk [] [] []) [Out.mk Unit (AX.exit (0 : Nat)) [(0 : Nat), (1 : Nat), (5 : Nat)] (fun x => True) (fun x => [ls ch r, ls od q, I (ws ch ch.length)]) (fun x => H.nil) fun y => [Ans.o (Orc.val 30 (AV.fn (Fn.func (123 : FuncId)) [] [AV.ptr 0 0, AV.ptr 1 0]) (H.mk [[I 0], [I 12]] [] [])), Ans.o (Orc.val 31 (AV.bool true) (H.mk [[I 0], [I 12]] [] [])), Ans.o (Orc.b false)]] ∧ (∀ (y : Unit), True → ∀ (u : Nat → AV), aCall (Sof [c112.to, c85w, c84w]) (AV.fn (Fn.func (85 : Nat)) [] []) [I 0, I 12] (H.mk [] [] []) = some (AV.fn (Fn.func (123 : FuncId)) [] [AV.ptr 0 0, AV.ptr 1 0], H.mk [[I 0], [I 12]] [] []) ∧ aCall (Sof [c112.to, c85w, c84w]) (AV.fn (Fn.func (84 : Nat)) [] []) [AV.sl (ints ch) ch.length r, AV.fn (Fn.func (123 : FuncId)) [] [AV.ptr 0 0, AV.ptr 1 0]] (H.mk [[I 0], [I 12]] [] []) = some (AV.bool true, H.mk [[I 0], [I 12]] [] []) ∧ ws ch ch.length ≠ (12 : Int) ∧ (AV.bool false, H.mk [] [] []) = (AV.bool false, H.mk [] [] [])) ∧ True) (by kernel_rfl) ?_
          refine ⟨acall_b (acall_hit (c := c112.to) ch.length _ rfl p112) e1, ?_⟩
          refine ⟨by first | with_reducible assumption | omega | assumption, ?_⟩
          refine ⟨hl, ?_⟩
          refine And.intro ?_ ?_
          · skip
            intro y
            intro w1
            intro u
            refine ⟨by first | exact acall_hit (c := c85w) (.inl ()) _ rfl rfl | exact acall_hit (c := c85w) (.inr ()) _ rfl rfl, ?_⟩
            refine ⟨acall_b (acall_hit (c := c84w) (.inl (ch, r)) _ rfl ⟨hp.1, [], rfl⟩) hb1, ?_⟩
            refine ⟨by first | with_reducible assumption | omega | assumption, ?_⟩
            rfl
          · skip
            trivial
      · have hb1 := wiB_f h3
        rw [raB_f (fun q => h3 q.2.1)]
        refine body_s ([Ans.o (Orc.val 10 (AV.bool true) (H.mk [] [] [])), Ans.o (Orc.b false), Ans.loop [(0 : Nat), (1 : Nat), (5 : Nat), (19 : Nat), (20 : Nat), (21 : Nat)] [Out.mk Unit (AX.exit (0 : Nat)) [(0 : Nat), (1 : Nat), (5 : Nat)] (fun x => True) (fun x => [ls ch r, ls od q, I (ws ch ch.length)]) (fun x => H.nil) fun y => [Ans.o (Orc.val 30 (AV.fn (Fn.func (123 : FuncId)) [] [AV.ptr 0 0, AV.ptr 1 0]) (H.mk [[I 0], [I 12]] [] [])), Ans.o (Orc.val 31 (AV.bool false) (H.mk [[I 0], [I 12]] [] []))]]]) (aCall (Sof [c112.to, c85w, c84w]) (AV.fn (Fn.func (112 : Nat)) [] []) [I (↑ch.length : Int)] (H.mk [] [] []) = some (AV.bool true, H.mk [] [] []) ∧ (↑od.length : Int) = (↑ch.length : Int) ∧ LoopS (Env.mk Try.prog (Sof [c112.to, c85w, c84w]) (Pof (P := Try.prog) []) H.nil.base (300 : Nat)) (loopAt Try.f95 (0 : Nat)) (41 : Nat) [(0 : Nat), (1 : Nat), (5 : Nat), (19 : Nat), (20 : Nat), (21 : Nat)] [AV.sl (ints ch) ch.length r, AV.sl (ints od) od.length q, I 0, AV.sl (ints ch) ch.length r, I (↑ch.length : Int), I 0] (H.mk [] [] []) [Out.mk Unit (AX.exit (0 : Nat)) [(0 : Nat), (1 : Nat), (5 : Nat)] (fun x => True) (fun x => [ls ch r, ls od q, I (ws ch ch.length)]) (fun x => H.nil) fun y => [Ans.o (Orc.val 30 (AV.fn (Fn.func (123 : FuncId)) [] [AV.ptr 0 0, AV.ptr 1 0]) (H.mk [[I 0], [I 12]] [] [])), Ans.o (Orc.val 31 (AV.bool false) (H.mk [[I 0], [I 12]] [] []))]] ∧ (∀ (y : Unit), True → ∀ (u : Nat → AV), aCall (Sof [c112.to, c85w, c84w]) (AV.fn (Fn.func (85 : Nat)) [] []) [I 0, I 12] (H.mk [] [] []) = some (AV.fn (Fn.func (123 : FuncId)) [] [AV.ptr 0 0, AV.ptr 1 0], H.mk [[I 0], [I 12]] [] []) ∧ aCall (Sof [c112.to, c85w, c84w]) (AV.fn (Fn.func (84 : Nat)) [] []) [AV.sl (ints ch) ch.length r, AV.fn (Fn.func (123 : FuncId)) [] [AV.ptr 0 0, AV.ptr 1 0]] (H.mk [[I 0], [I 12]] [] []) = some (AV.bool false, H.mk [[I 0], [I 12]] [] []) ∧ (AV.bool false, H.mk [] [] []) = (AV.bool false, H.mk [] [] [])) ∧ True) (by kernel_rfl) ?_
        refine ⟨acall_b (acall_hit (c := c112.to) ch.length _ rfl p112) e1, ?_⟩
        refine ⟨by first | with_reducible assumption | omega | assumption, ?_⟩
        refine ⟨hl, ?_⟩
        refine And.intro ?_ ?_
        · skip
          intro y
          intro w1
          intro u
          refine ⟨by first | exact acall_hit (c := c85w) (.inl ()) _ rfl rfl | exact acall_hit (c := c85w) (.inr ()) _ rfl rfl, ?_⟩
          refine ⟨acall_b (acall_hit (c := c84w) (.inl (ch, r)) _ rfl ⟨hp.1, [], rfl⟩) hb1, ?_⟩
          rfl
        · skip
          trivial
    · have h2 : (od.length : Int) ≠ ch.length := h2
      rw [raB_f (fun q => h2 (by have := q.1.2; omega))]
      refine body_s ([Ans.o (Orc.val 10 (AV.bool true) (H.mk [] [] [])), Ans.o (Orc.b true)]) (aCall (Sof [c112.to, c85w, c84w]) (AV.fn (Fn.func (112 : Nat)) [] []) [I (↑ch.length : Int)] (H.mk [] [] []) = some (AV.bool true, H.mk [] [] []) ∧ (↑od.length : Int) ≠ (↑ch.length : Int) ∧ (AV.bool false, H.mk [] [] []) = (AV.bool false, H.mk [] [] [])) (by kernel_rfl) ?_
      refine ⟨acall_b (acall_hit (c := c112.to) ch.length _ rfl p112) e1, ?_⟩
      refine ⟨by first | with_reducible assumption | omega | assumption, ?_⟩
      rfl
  · have e1 : szB ch.length = false := by simp only [szB, decide_eq_false_iff_not]; omega
    rw [raB_f (fun q => h1 q.1.1)]
    refine body_s ([Ans.o (Orc.val 10 (AV.bool false) (H.mk [] [] []))]) (aCall (Sof [c112.to, c85w, c84w]) (AV.fn (Fn.func (112 : Nat)) [] []) [I (↑ch.length : Int)] (H.mk [] [] []) = some (AV.bool false, H.mk [] [] []) ∧ (AV.bool false, H.mk [] [] []) = (AV.bool false, H.mk [] [] [])) (by kernel_rfl) ?_
    refine ⟨acall_b (acall_hit (c := c112.to) ch.length _ rfl p112) e1, ?_⟩
    rfl
theorem ls_det {a b : List Int} {r s : Room} (h : ls a r = ls b s) : a = b := by
  simp only [AV.sl.injEq] at h
  exact ints_inj h.1
noncomputable def c95 : PCtr Try.prog := sctr ok95 (X := (List Int × Room) × List Int × Room) (fun x => [ls x.1.1 x.1.2, ls x.2.1 x.2.2]) (fun x => p95 x.1.1 x.1.2 x.2.1 x.2.2) (fun x => .bool (raB x.1.1 x.2.1))
  (by
    rintro ⟨⟨l, r⟩, m, s⟩ ⟨⟨l', r'⟩, m', s'⟩ e _ _
    simp only [List.cons.injEq, and_true] at e
    simp only [ls_det e.1, ls_det e.2]) (fun x => by simp [AV.bnds, AV.bnd, AV.wk, rm_wk_bnd]) (fun x => rfl)
  (fun x hx => ⟨_, _, _, ct95, r95 x.1.1 x.1.2.wk x.2.1 x.2.2.wk ⟨⟨hx.1.1, by simpa using hx.1.2⟩, hx.2.1, by simpa using hx.2.2⟩⟩)
end Go.Proofs.Bts

