/- Layer 5: the most words of a set; the first greatest code. -/
import Derived.Test.YtlomlnkafakloaaDoorSuD
import Derived.KernelRfl
set_option linter.unusedSimpArgs false
set_option linter.unusedVariables false
set_option linter.unnecessarySimpa false
set_option maxHeartbeats 4000000
set_option maxRecDepth 100000
namespace Go.Proofs.Sur
open Go Go.VM

abbrev w92 (w : List W) (r : Room) (s : W) : Prop := (rok w r ∧ rfx w) ∧ sub s w.length
abbrev C92ok (n : Nat) : Prop := ∀ w r s, w92 w r s ∧ (bits s).length < n → CallOk Tryd.prog 92 [ws w r, u64A s] .nil (I (msV w s : Nat)) .nil
theorem ok92 : FokM Tryd.prog none1 92 Tryd.f92 := ⟨mixed, by kernel_rfl, by kernel_rfl, by kernel_rfl, by kernel_rfl⟩
noncomputable def C92 (n : Nat) (ih : C92ok n) : PCtr Tryd.prog where
  f := 92
  X := List W × Room × W
  args q := [ws q.1 q.2.1, u64A q.2.2]
  pre q := w92 q.1 q.2.1 q.2.2 ∧ (bits q.2.2).length < n
  v q := I (msV q.1 q.2.2 : Nat)
  det := by
    rintro ⟨w, r, s⟩ ⟨w', r', s'⟩ e _ _
    simp at e
    simp [e]
  ok := by
    rintro ⟨w, r, s⟩ h
    have h' : w92 w r.wk s ∧ (bits s).length < n := ⟨⟨⟨(rok_wk _ _).2 h.1.1.1, h.1.1.2⟩, h.1.2⟩, h.2⟩
    exact ⟨ok92.call, fun H => (pure_call (ih w r.wk s h') (by simp [AV.bnds, AV.bnd, rm_wk_bnd]) rfl H).wk⟩
theorem i_add1 {n : Nat} (h : n ≤ 64) : IntKind.i64.wrap (1 + (n : Int)) = ((1 + n : Nat) : Int) := by
  have : 1 + (n : Int) = ((1 + n : Nat) : Int) := by simp
  rw [this]; exact i_wrap (by omega)
theorem mx_nat (a b : Nat) : pick2 true (a : Int) (b : Int) = ((max a b : Nat) : Int) := by
  simp only [pick2, if_true]
  split <;> omega
abbrev o92 (w : List W) (r : Room) (s : W) : List Out :=
  [.mk Nat .ret [4] (fun i => (bits s).find? (enB w s) = some i) (fun i => [I (1 + msV w (s &&& ~~~wt_ w i) : Nat)]) (fun _ => .nil) (fun _ => []), .mk Unit (.exit 0) [0, 1] (fun _ => (bits s).find? (enB w s) = none) (fun _ => [ws w r, u64A s]) (fun _ => .nil) (fun _ => [])]
theorem simp92 : allSimpleM none1 (loopAt Tryd.f92 0) = true := by kernel_rfl
theorem lp92 (n : Nat) (ih : C92ok n) (w : List W) (r : Room) (s : W) (h0 : w92 w r s) (hn : (bits s).length < n + 1) :
    LoopS (En6 [c97.to, c108.to, (C92 n ih).to]) (loopAt Tryd.f92 0) 50 [0, 1, 5] [ws w r, u64A s, u64A s] .nil (o92 w r s) := by
  have hR : Rests (En6 [c97.to, c108.to, (C92 n ih).to]) none1 := rests mixed (.pure _ (.pure _ (.pure _ .nil)))
  obtain ⟨⟨hr, hw⟩, hs⟩ := h0
  refine loop_s hR simp92 none (by intro _ h; cases h) (fun j vs h => ∃ t : W, h = .nil ∧ vs = [ws w r, u64A s, u64A t] ∧ (bits s).find? (enB w s) = (bits t).find? (enB w s) ∧ (∀ k, t.getLsbD k = true → s.getLsbD k = true) ∧ (bits t).length + j ≤ 64) 64 ⟨s, rfl, rfl, rfl, fun _ h => h, by have := bits_len s; omega⟩ (by intro _ h; cases h) ?_
  rintro j vs h hj ⟨t, rfl, rfl, ha, hb, hc⟩
  by_cases hz : t = 0#64
  · have hu : (t.toNat : Int) = 0 := (w_eq0 t).2 hz
    have he : (bits s).find? (enB w s) = none := by rw [ha, hz, bits_0]; rfl
    refine ⟨[Ans.o (Orc.b false)], fun u => of_eq ((↑(BitVec.toNat t) : Int) = (0 : Int) ∧ (50 : Nat) = (50 : Nat) ∧ hits [Out.mk Nat AX.ret [4] (fun i => List.find? (enB w s) (bits s) = some i) (fun i => [I (↑((1 : Nat) + msV w (s &&& ~~~wt_ w i)) : Int)]) (fun x => H.nil) fun x => [], Out.mk Unit (AX.exit 0) [0, 1] (fun x => List.find? (enB w s) (bits s) = none) (fun x => [ws w r, u64A s]) (fun x => H.nil) fun x => []] (AX.exit 0) [AV.sl (u64s w) w.length r, u64A s, u (2 : Nat), u (3 : Nat), u (4 : Nat), u64A t, u (6 : Nat), u (7 : Nat), u (8 : Nat), u (9 : Nat), u (10 : Nat), u64A t, AV.bool false, u (13 : Nat), u (14 : Nat), u (15 : Nat), u (16 : Nat), u (17 : Nat), u (18 : Nat), u (19 : Nat), u (20 : Nat), u (21 : Nat), u (22 : Nat), u (23 : Nat), u (24 : Nat), u (25 : Nat), u (26 : Nat), u (27 : Nat), u (28 : Nat), u (29 : Nat), u (30 : Nat), u (31 : Nat), u (32 : Nat), u (33 : Nat), u (34 : Nat), u (35 : Nat), u (36 : Nat), u (37 : Nat), u (38 : Nat), u (39 : Nat), u (40 : Nat), u (41 : Nat), u (42 : Nat), u (43 : Nat), u (44 : Nat), u (45 : Nat), u (46 : Nat), u (47 : Nat), u (48 : Nat), u (49 : Nat)] (H.mk [] [] [])) (by kernel_rfl) ?_⟩
    refine ⟨by first | with_reducible assumption | omega | assumption, ?_⟩
    refine ⟨by first | with_reducible assumption | omega | assumption, ?_⟩
    exact .inr (.inl ⟨(), he, rfl, rfl, rfl⟩)
  · have hu : (t.toNat : Int) ≠ 0 := fun h => hz ((w_eq0 t).1 h)
    obtain ⟨t1, t2, _⟩ := tz_ok hz
    have hst := hb _ t1
    have htn := hs _ hst
    have hr' := rok_idx hr htn
    have p108 : rok w r ∧ w.length ≤ 64 ∧ (0 ≤ ((tz t : Nat) : Int) ∧ ((tz t : Nat) : Int).toNat < w.length) ∧ sub s w.length := ⟨hr, hw.1, ⟨by omega, by omega⟩, hs⟩
    have ev0 := w_andn s (wt_ w (tz t))
    have ev1 := i_add1 (msV_le w (s &&& ~~~wt_ w (tz t)))
    have ev2 := sub_nat t
    have ev3 := w_and t (t - 1#64)
    have hq := bits_cons hz
    rw [hq] at ha hc
    have hc : (bits (cl t)).length + (j + 1) ≤ 64 := by rw [List.length_cons] at hc; omega
    have hj2 : j < 64 := by omega
    have hb' : ∀ k, (cl t).getLsbD k = true → s.getLsbD k = true := fun k hk => hb k (cl_0 t k hk)
    have hlt := andn_lt hst (hw.2 _ htn)
    have p92 : w92 w r (s &&& ~~~wt_ w (tz t)) ∧ (bits (s &&& ~~~wt_ w (tz t))).length < n := ⟨⟨⟨hr, hw⟩, sub_andn hs⟩, by omega⟩
    clear hq hb
    cases hE : enB w s ((tz t : Nat) : Int).toNat
    · have hE' : enB w s (tz t) = false := hE
      have ha : (bits s).find? (enB w s) = (bits (cl t)).find? (enB w s) := by rw [ha, List.find?_cons_of_neg (by rw [hE']; simp)]
      refine ⟨[Ans.o (Orc.b true), Ans.o (Orc.val 18 (I (↑(tz t) : Int)) (H.mk [] [] [])), Ans.o (Orc.val 22 (AV.bool false) (H.mk [] [] [])), Ans.o (Orc.val 15 (AV.int IntKind.u64 (↑(BitVec.toNat (t - BitVec.ofNat (64 : Nat) (1 : Nat))) : Int)) H.nil), Ans.o (Orc.val 16 (AV.int IntKind.u64 (↑(BitVec.toNat (t &&& t - BitVec.ofNat (64 : Nat) (1 : Nat))) : Int)) H.nil)], fun u => of_eq ((↑(BitVec.toNat t) : Int) ≠ (0 : Int) ∧ aCall (Sof [c97.to, c108.to, (C92 n ih).to]) (AV.fn (Fn.func 97) [] []) [u64A t] (H.mk [] [] []) = some (I (↑(tz t) : Int), H.mk [] [] []) ∧ aCall (Sof [c97.to, c108.to, (C92 n ih).to]) (AV.fn (Fn.func 108) [] []) [AV.sl (u64s w) w.length r, I (↑(tz t) : Int), u64A s] (H.mk [] [] []) = some (AV.bool false, H.mk [] [] []) ∧ aBin Tryd.prog BinOp.sub (71 : Nat) (u64A t) (AV.int IntKind.u64 (1 : Int)) = some (AV.int IntKind.u64 (↑(BitVec.toNat (t - BitVec.ofNat (64 : Nat) (1 : Nat))) : Int)) ∧ aBin Tryd.prog BinOp.and (71 : Nat) (u64A t) (AV.int IntKind.u64 (↑(BitVec.toNat (t - BitVec.ofNat (64 : Nat) (1 : Nat))) : Int)) = some (AV.int IntKind.u64 (↑(BitVec.toNat (t &&& t - BitVec.ofNat (64 : Nat) (1 : Nat))) : Int)) ∧ (50 : Nat) = (50 : Nat) ∧ j < (64 : Nat) ∧ Keep (∃ t_1, H.mk [] [] [] = H.mk [] [] [] ∧ [AV.sl (u64s w) w.length r, u64A s, AV.int IntKind.u64 (↑(BitVec.toNat (t &&& t - BitVec.ofNat (64 : Nat) (1 : Nat))) : Int)] = [AV.sl (u64s w) w.length r, u64A s, u64A t_1] ∧ List.find? (enB w s) (bits s) = List.find? (enB w s) (bits t_1) ∧ (∀ (k : Nat), BitVec.getLsbD t_1 k = true → BitVec.getLsbD s k = true) ∧ (bits t_1).length + (j + (1 : Nat)) ≤ (64 : Nat))) (by kernel_rfl) ?_⟩
      refine ⟨by first | with_reducible assumption | omega | assumption, ?_⟩
      refine ⟨acall_hit (c := c97.to) t _ rfl hz, ?_⟩
      refine ⟨acall_b (acall_hit (c := c108.to) (w, r, ((tz t : Nat) : Int), s) _ rfl p108) hE, ?_⟩
      refine ⟨told_sub (by with_reducible assumption), ?_⟩
      refine ⟨told_and (by with_reducible assumption), ?_⟩
      refine ⟨by first | with_reducible assumption | omega | assumption, ?_⟩
      refine ⟨by first | with_reducible assumption | omega | assumption, ?_⟩
      exact ⟨cl t, rfl, rfl, ha, hb', hc⟩
    · have hE' : enB w s (tz t) = true := hE
      have ha : (bits s).find? (enB w s) = some (tz t) := by rw [ha, List.find?_cons_of_pos hE']
      refine ⟨[Ans.o (Orc.b true), Ans.o (Orc.val 18 (I (↑(tz t) : Int)) (H.mk [] [] [])), Ans.o (Orc.val 22 (AV.bool true) (H.mk [] [] [])), Ans.o (Orc.val 27 (AV.cptr (u64s (List.drop (tz t) w))) H.nil), Ans.o (Orc.val 28 (AV.int IntKind.u64 (↑(BitVec.toNat (w.getD (tz t) w0)) : Int)) H.nil), Ans.o (Orc.val 29 (AV.int IntKind.u64 (↑(BitVec.toNat (s &&& ~~~wt_ w (tz t))) : Int)) H.nil), Ans.o (Orc.val 30 (I (↑(msV w (s &&& ~~~wt_ w (tz t))) : Int)) (H.mk [] [] [])), Ans.o (Orc.val 31 (I (↑((1 : Nat) + msV w (s &&& ~~~wt_ w (tz t))) : Int)) H.nil)], fun u => of_eq ((↑(BitVec.toNat t) : Int) ≠ (0 : Int) ∧ aCall (Sof [c97.to, c108.to, (C92 n ih).to]) (AV.fn (Fn.func 97) [] []) [u64A t] (H.mk [] [] []) = some (I (↑(tz t) : Int), H.mk [] [] []) ∧ aCall (Sof [c97.to, c108.to, (C92 n ih).to]) (AV.fn (Fn.func 108) [] []) [AV.sl (u64s w) w.length r, I (↑(tz t) : Int), u64A s] (H.mk [] [] []) = some (AV.bool true, H.mk [] [] []) ∧ aIndexAddr Tryd.prog 67 (AV.sl (u64s w) w.length r) (I (↑(tz t) : Int)) = some (AV.cptr (u64s (List.drop (tz t) w))) ∧ aLoad Tryd.prog 71 (u64s (List.drop (tz t) w)) = some (AV.int IntKind.u64 (↑(BitVec.toNat (w.getD (tz t) w0)) : Int)) ∧ aBin Tryd.prog BinOp.andNot (71 : Nat) (u64A s) (AV.int IntKind.u64 (↑(BitVec.toNat (w.getD (tz t) w0)) : Int)) = some (AV.int IntKind.u64 (↑(BitVec.toNat (s &&& ~~~wt_ w (tz t))) : Int)) ∧ aCall (Sof [c97.to, c108.to, (C92 n ih).to]) (AV.fn (Fn.func 92) [] []) [AV.sl (u64s w) w.length r, AV.int IntKind.u64 (↑(BitVec.toNat (s &&& ~~~wt_ w (tz t))) : Int)] (H.mk [] [] []) = some (I (↑(msV w (s &&& ~~~wt_ w (tz t))) : Int), H.mk [] [] []) ∧ aBin Tryd.prog BinOp.add (3 : Nat) (I 1) (I (↑(msV w (s &&& ~~~wt_ w (tz t))) : Int)) = some (I (↑((1 : Nat) + msV w (s &&& ~~~wt_ w (tz t))) : Int)) ∧ (50 : Nat) = (50 : Nat) ∧ hits [Out.mk Nat AX.ret [4] (fun i => List.find? (enB w s) (bits s) = some i) (fun i => [I (↑((1 : Nat) + msV w (s &&& ~~~wt_ w i)) : Int)]) (fun x => H.nil) fun x => [], Out.mk Unit (AX.exit 0) [0, 1] (fun x => List.find? (enB w s) (bits s) = none) (fun x => [ws w r, u64A s]) (fun x => H.nil) fun x => []] AX.ret [AV.sl (u64s w) w.length r, u64A s, u (2 : Nat), u (3 : Nat), I (↑((1 : Nat) + msV w (s &&& ~~~wt_ w (tz t))) : Int), u64A t, I (↑(tz t) : Int), u (7 : Nat), u (8 : Nat), u (9 : Nat), u (10 : Nat), u64A t, AV.bool true, u (13 : Nat), u (14 : Nat), u (15 : Nat), u (16 : Nat), u64A t, I (↑(tz t) : Int), AV.sl (u64s w) w.length r, I (↑(tz t) : Int), u64A s, AV.bool true, AV.sl (u64s w) w.length r, u64A s, AV.sl (u64s w) w.length r, I (↑(tz t) : Int), AV.cptr (u64s (List.drop (tz t) w)), AV.int IntKind.u64 (↑(BitVec.toNat (w.getD (tz t) w0)) : Int), AV.int IntKind.u64 (↑(BitVec.toNat (s &&& ~~~wt_ w (tz t))) : Int), I (↑(msV w (s &&& ~~~wt_ w (tz t))) : Int), I (↑((1 : Nat) + msV w (s &&& ~~~wt_ w (tz t))) : Int), u (32 : Nat), u (33 : Nat), u (34 : Nat), u (35 : Nat), u (36 : Nat), u (37 : Nat), u (38 : Nat), u (39 : Nat), u (40 : Nat), u (41 : Nat), u (42 : Nat), u (43 : Nat), u (44 : Nat), u (45 : Nat), u (46 : Nat), u (47 : Nat), u (48 : Nat), u (49 : Nat)] (H.mk [] [] [])) (by kernel_rfl) ?_⟩
      refine ⟨by first | with_reducible assumption | omega | assumption, ?_⟩
      refine ⟨acall_hit (c := c97.to) t _ rfl hz, ?_⟩
      refine ⟨acall_b (acall_hit (c := c108.to) (w, r, ((tz t : Nat) : Int), s) _ rfl p108) hE, ?_⟩
      refine ⟨by first | exact ix_u64s (by kernel_rfl) (by omega) (by assumption) | exact ix_u64s (by kernel_rfl) (by omega) (rok_idx (by assumption) (by omega)), ?_⟩
      refine ⟨by first | exact ld_u64s (by kernel_rfl) (by kernel_rfl) (by omega) | exact ldm_u64s (by kernel_rfl) (by kernel_rfl) (by first | omega | (simp; omega)), ?_⟩
      refine ⟨told_andn (by with_reducible assumption), ?_⟩
      refine ⟨acall_hit (c := (C92 n ih).to) (w, r, s &&& ~~~wt_ w (tz t)) _ rfl p92, ?_⟩
      refine ⟨told_add (by with_reducible assumption), ?_⟩
      refine ⟨by first | with_reducible assumption | omega | assumption, ?_⟩
      exact .inl ⟨tz t, ha, rfl, rfl, rfl⟩
theorem r92 (n : Nat) (ih : C92ok n) (w : List W) (r : Room) (s : W) (hp : w92 w r s ∧ (bits s).length < n + 1) : Body (En6 [c97.to, c108.to, (C92 n ih).to]) none1 Tryd.f92 [ws w r, u64A s] .nil (I (msV w s : Nat), .nil) := by
  obtain ⟨h0, hn⟩ := hp
  by_cases hz : s = 0#64
  · have hu : (s.toNat : Int) = 0 := (w_eq0 s).2 hz
    have hm : msV w s = 0 := by rw [hz]; exact msV_0 w
    rw [hm]
    refine body_s ([Ans.o (Orc.b true)]) ((↑(BitVec.toNat s) : Int) = (0 : Int) ∧ (I 0, H.mk [] [] []) = (I 0, H.mk [] [] [])) (by kernel_rfl) ?_
    refine ⟨by first | with_reducible assumption | omega | assumption, ?_⟩
    rfl
  · have hu : (s.toNat : Int) ≠ 0 := fun h => hz ((w_eq0 s).1 h)
    have hm := msV_eq h0.1.2 h0.2 hz
    obtain ⟨t1, t2, _⟩ := tz_ok hz
    have htn := h0.2 _ t1
    have hr' := rok_idx h0.1.1 htn
    have ev0 := w_andn s (wt_ w (tz s))
    have ev1 := i_add1 (msV_le w (s &&& ~~~wt_ w (tz s)))
    have ev2 := w_one (n := tz s) (by omega)
    have ev3 := w_andn s (1#64 <<< tz s)
    have hlt := andn_lt t1 (h0.1.2.2 _ htn)
    have hlt2 := andn_lt (a := 1#64 <<< tz s) t1 (by rw [one_bit t2]; simp)
    have p92a : w92 w r (s &&& ~~~wt_ w (tz s)) ∧ (bits (s &&& ~~~wt_ w (tz s))).length < n := ⟨⟨h0.1, sub_andn h0.2⟩, by omega⟩
    have p92b : w92 w r (s &&& ~~~(1#64 <<< tz s)) ∧ (bits (s &&& ~~~(1#64 <<< tz s))).length < n := ⟨⟨h0.1, sub_andn h0.2⟩, by omega⟩
    refine body_s ([Ans.o (Orc.b false), Ans.loop [0, 1, 5] [Out.mk Nat AX.ret [4] (fun i => List.find? (enB w s) (bits s) = some i) (fun i => [I (↑((1 : Nat) + msV w (s &&& ~~~wt_ w i)) : Int)]) (fun x => H.nil) fun y => [], Out.mk Unit (AX.exit 0) [0, 1] (fun x => List.find? (enB w s) (bits s) = none) (fun x => [ws w r, u64A s]) (fun x => H.nil) fun y => [Ans.o (Orc.val 33 (I (↑(tz s) : Int)) (H.mk [] [] [])), Ans.o (Orc.val 38 (AV.cptr (u64s (List.drop (tz s) w))) H.nil), Ans.o (Orc.val 39 (AV.int IntKind.u64 (↑(BitVec.toNat (w.getD (tz s) w0)) : Int)) H.nil), Ans.o (Orc.val 40 (AV.int IntKind.u64 (↑(BitVec.toNat (s &&& ~~~wt_ w (tz s))) : Int)) H.nil), Ans.o (Orc.val 41 (I (↑(msV w (s &&& ~~~wt_ w (tz s))) : Int)) (H.mk [] [] [])), Ans.o (Orc.val 42 (I (↑((1 : Nat) + msV w (s &&& ~~~wt_ w (tz s))) : Int)) H.nil), Ans.o (Orc.val 46 (AV.int IntKind.u64 (↑(BitVec.ofNat (64 : Nat) (1 : Nat) <<< tz s).toNat : Int)) H.nil), Ans.o (Orc.val 47 (AV.int IntKind.u64 (↑(BitVec.toNat (s &&& ~~~(BitVec.ofNat (64 : Nat) (1 : Nat) <<< tz s))) : Int)) H.nil), Ans.o (Orc.val 48 (I (↑(msV w (s &&& ~~~(BitVec.ofNat (64 : Nat) (1 : Nat) <<< tz s))) : Int)) (H.mk [] [] []))]]]) ((↑(BitVec.toNat s) : Int) ≠ (0 : Int) ∧ LoopS (En6 [c97.to, c108.to, (C92 n ih).to]) (loopAt Tryd.f92 0) 50 [0, 1, 5] [AV.sl (u64s w) w.length r, u64A s, u64A s] (H.mk [] [] []) [Out.mk Nat AX.ret [4] (fun i => List.find? (enB w s) (bits s) = some i) (fun i => [I (↑((1 : Nat) + msV w (s &&& ~~~wt_ w i)) : Int)]) (fun x => H.nil) fun y => [], Out.mk Unit (AX.exit 0) [0, 1] (fun x => List.find? (enB w s) (bits s) = none) (fun x => [ws w r, u64A s]) (fun x => H.nil) fun y => [Ans.o (Orc.val 33 (I (↑(tz s) : Int)) (H.mk [] [] [])), Ans.o (Orc.val 38 (AV.cptr (u64s (List.drop (tz s) w))) H.nil), Ans.o (Orc.val 39 (AV.int IntKind.u64 (↑(BitVec.toNat (w.getD (tz s) w0)) : Int)) H.nil), Ans.o (Orc.val 40 (AV.int IntKind.u64 (↑(BitVec.toNat (s &&& ~~~wt_ w (tz s))) : Int)) H.nil), Ans.o (Orc.val 41 (I (↑(msV w (s &&& ~~~wt_ w (tz s))) : Int)) (H.mk [] [] [])), Ans.o (Orc.val 42 (I (↑((1 : Nat) + msV w (s &&& ~~~wt_ w (tz s))) : Int)) H.nil), Ans.o (Orc.val 46 (AV.int IntKind.u64 (↑(BitVec.ofNat (64 : Nat) (1 : Nat) <<< tz s).toNat : Int)) H.nil), Ans.o (Orc.val 47 (AV.int IntKind.u64 (↑(BitVec.toNat (s &&& ~~~(BitVec.ofNat (64 : Nat) (1 : Nat) <<< tz s))) : Int)) H.nil), Ans.o (Orc.val 48 (I (↑(msV w (s &&& ~~~(BitVec.ofNat (64 : Nat) (1 : Nat) <<< tz s))) : Int)) (H.mk [] [] []))]] ∧ (∀ (y : Nat), List.find? (enB w s) (bits s) = some y → ∀ (u : Nat → AV), (I (↑((1 : Nat) + msV w (s &&& ~~~wt_ w y)) : Int), H.mk [] [] []) = (I (↑(msV w s) : Int), H.mk [] [] [])) ∧ (∀ (y : Unit), List.find? (enB w s) (bits s) = none → ∀ (u : Nat → AV), aCall (Sof [c97.to, c108.to, (C92 n ih).to]) (AV.fn (Fn.func 97) [] []) [u64A s] (H.mk [] [] []) = some (I (↑(tz s) : Int), H.mk [] [] []) ∧ aIndexAddr Tryd.prog 67 (AV.sl (u64s w) w.length r) (I (↑(tz s) : Int)) = some (AV.cptr (u64s (List.drop (tz s) w))) ∧ aLoad Tryd.prog 71 (u64s (List.drop (tz s) w)) = some (AV.int IntKind.u64 (↑(BitVec.toNat (w.getD (tz s) w0)) : Int)) ∧ aBin Tryd.prog BinOp.andNot (71 : Nat) (u64A s) (AV.int IntKind.u64 (↑(BitVec.toNat (w.getD (tz s) w0)) : Int)) = some (AV.int IntKind.u64 (↑(BitVec.toNat (s &&& ~~~wt_ w (tz s))) : Int)) ∧ aCall (Sof [c97.to, c108.to, (C92 n ih).to]) (AV.fn (Fn.func 92) [] []) [AV.sl (u64s w) w.length r, AV.int IntKind.u64 (↑(BitVec.toNat (s &&& ~~~wt_ w (tz s))) : Int)] (H.mk [] [] []) = some (I (↑(msV w (s &&& ~~~wt_ w (tz s))) : Int), H.mk [] [] []) ∧ aBin Tryd.prog BinOp.add (3 : Nat) (I 1) (I (↑(msV w (s &&& ~~~wt_ w (tz s))) : Int)) = some (I (↑((1 : Nat) + msV w (s &&& ~~~wt_ w (tz s))) : Int)) ∧ aBin Tryd.prog BinOp.shl (71 : Nat) (AV.int IntKind.u64 (1 : Int)) (I (↑(tz s) : Int)) = some (AV.int IntKind.u64 (↑(BitVec.ofNat (64 : Nat) (1 : Nat) <<< tz s).toNat : Int)) ∧ aBin Tryd.prog BinOp.andNot (71 : Nat) (u64A s) (AV.int IntKind.u64 (↑(BitVec.ofNat (64 : Nat) (1 : Nat) <<< tz s).toNat : Int)) = some (AV.int IntKind.u64 (↑(BitVec.toNat (s &&& ~~~(BitVec.ofNat (64 : Nat) (1 : Nat) <<< tz s))) : Int)) ∧ aCall (Sof [c97.to, c108.to, (C92 n ih).to]) (AV.fn (Fn.func 92) [] []) [AV.sl (u64s w) w.length r, AV.int IntKind.u64 (↑(BitVec.toNat (s &&& ~~~(BitVec.ofNat (64 : Nat) (1 : Nat) <<< tz s))) : Int)] (H.mk [] [] []) = some (I (↑(msV w (s &&& ~~~(BitVec.ofNat (64 : Nat) (1 : Nat) <<< tz s))) : Int), H.mk [] [] []) ∧ (I (pick2 true (↑((1 : Nat) + msV w (s &&& ~~~wt_ w (tz s))) : Int) (↑(msV w (s &&& ~~~(BitVec.ofNat (64 : Nat) (1 : Nat) <<< tz s))) : Int)), H.mk [] [] []) = (I (↑(msV w s) : Int), H.mk [] [] [])) ∧ True) (by kernel_rfl) ?_
    refine ⟨by first | with_reducible assumption | omega | assumption, ?_⟩
    refine ⟨lp92 n ih w r s h0 hn, ?_⟩
    refine And.intro ?_ ?_
    · skip
      intro y
      intro w1
      intro u
      first | (rw [hm, (by with_reducible assumption : (bits s).find? (enB w s) = some _)]) | (rw [hm, (by with_reducible assumption : (bits s).find? (enB w s) = none)]; exact congrArg (fun z => (I z, H.nil)) (mx_nat _ _))
    · skip
      refine And.intro ?_ ?_
      · skip
        intro y
        intro w1
        intro u
        refine ⟨acall_hit (c := c97.to) s _ rfl hz, ?_⟩
        refine ⟨by first | exact ix_u64s (by kernel_rfl) (by omega) (by assumption) | exact ix_u64s (by kernel_rfl) (by omega) (rok_idx (by assumption) (by omega)), ?_⟩
        refine ⟨by first | exact ld_u64s (by kernel_rfl) (by kernel_rfl) (by omega) | exact ldm_u64s (by kernel_rfl) (by kernel_rfl) (by first | omega | (simp; omega)), ?_⟩
        refine ⟨told_andn (by with_reducible assumption), ?_⟩
        refine ⟨by first | exact acall_hit (c := (C92 n ih).to) (w, r, s &&& ~~~wt_ w (tz s)) _ rfl p92a | exact acall_hit (c := (C92 n ih).to) (w, r, s &&& ~~~(1#64 <<< tz s)) _ rfl p92b, ?_⟩
        refine ⟨told_add (by with_reducible assumption), ?_⟩
        refine ⟨by first | exact told_shl (by first | exact Int.natCast_nonneg _ | omega) (by with_reducible assumption) | exact told_shl (by omega) rfl, ?_⟩
        refine ⟨told_andn (by with_reducible assumption), ?_⟩
        refine ⟨by first | exact acall_hit (c := (C92 n ih).to) (w, r, s &&& ~~~wt_ w (tz s)) _ rfl p92a | exact acall_hit (c := (C92 n ih).to) (w, r, s &&& ~~~(1#64 <<< tz s)) _ rfl p92b, ?_⟩
        first | (rw [hm, (by with_reducible assumption : (bits s).find? (enB w s) = some _)]) | (rw [hm, (by with_reducible assumption : (bits s).find? (enB w s) = none)]; exact congrArg (fun z => (I z, H.nil)) (mx_nat _ _))
      · skip
        trivial
theorem C92_all : ∀ n, C92ok n
  | 0 => fun _ _ _ hp => absurd hp.2 (Nat.not_lt_zero _)
  | n + 1 => fun w r s hp => (r92 n (C92_all n) w r s hp).run ok92 (.pure _ (.pure _ (.pure _ .nil))) rfl
noncomputable def c92 : PCtr Tryd.prog where
  f := 92
  X := List W × Room × W
  args q := [ws q.1 q.2.1, u64A q.2.2]
  pre q := w92 q.1 q.2.1 q.2.2
  v q := I (msV q.1 q.2.2 : Nat)
  det := by
    rintro ⟨w, r, s⟩ ⟨w', r', s'⟩ e _ _
    simp at e
    simp [e]
  ok := by
    rintro ⟨w, r, s⟩ h
    exact (C92 65 (C92_all 65)).ok (w, r, s) ⟨h, by have := bits_len s; show (bits s).length < 65; omega⟩
end Go.Proofs.Sur

