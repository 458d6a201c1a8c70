/- Layer 2: the law of scores, found and made. -/
import Derived.Test.YtnnhomkkggkkfaaDoorRkBo
import Derived.Test.YtnnhomkkggkkfaaDoorRkBk
import Derived.KernelRfl
set_option linter.unusedSimpArgs false
set_option linter.unusedVariables false
set_option linter.unnecessarySimpa false
set_option maxHeartbeats 4000000
set_option maxRecDepth 100000
namespace Go.Proofs.Rnk
open Go Go.VM
open Go.Proofs.Sur (andn andn_bit andn_le i_wrap i_and i_or i_andn i_shl i_shr bit_01)

theorem ok3 : FokM Tryd.prog none1 3 Tryd.f3 := ⟨mixed, by kernel_rfl, by kernel_rfl, by kernel_rfl, by kernel_rfl⟩
abbrev o3 : List Out := [.mk Unit .ret [4] (fun _ => False) (fun _ => [.bool false]) (fun _ => .nil) (fun _ => []), .mk Unit (.exit 0) [] (fun _ => True) (fun _ => []) (fun _ => .nil) (fun _ => [])]
theorem simp3 : allSimpleM none1 (loopAt Tryd.f3 0) = true := by kernel_rfl
theorem lp3 (s : List Int) (r : Room) (hr : rok s r) (h8 : s.length ≤ 8) (T : List Int) (hT : T.length = s.length) (hn : Tn T) (hsz : ∀ i, i < s.length → ((pc (sn T i) : Nat) : Int) = s.getD i i0) :
    LoopS (En6 [c27.to]) (loopAt Tryd.f3 0) 103 [1, 88, 89, 90] [ls s r, .sl (ints T) s.length .full, I s.length, I 0] .nil o3 := by
  have hR : Rests (En6 [c27.to]) none1 := rests mixed (.pure _ .nil)
  refine loop_s hR simp3 none (by intro _ h; cases h) (fun k vs H => H = .nil ∧ vs = [ls s r, .sl (ints T) s.length .full, I s.length, I k]) s.length ⟨rfl, rfl⟩ (by intro _ h; cases h) ?_
  rintro k vs H hk ⟨rfl, rfl⟩
  by_cases hz : (k : Int) < s.length
  · have hz' : k < s.length := by omega
    have hzT : k < T.length := by omega
    have hri := rok_idx hr hz'
    have ev0 := wj1 (j := k) (by omega)
    have p27 : s8 (T.getD k i0) := hn.s8 k
    have c0 : ((pc (T.getD k i0).toNat : Nat) : Int) = s.getD k i0 := hsz k hz'
    refine ⟨[Ans.o (Orc.b true), Ans.o (Orc.val 93 (AV.cptr (ints (List.drop k T))) H.nil), Ans.o (Orc.val 94 (I (T.getD k i0)) H.nil), Ans.o (Orc.val 96 (I (↑(pc (T.getD k i0).toNat) : Int)) (H.mk [] [] [])), Ans.o (Orc.val 99 (AV.cptr (ints (List.drop k s))) H.nil), Ans.o (Orc.val 100 (I (s.getD k i0)) H.nil), Ans.o (Orc.b false), Ans.o (Orc.val 102 (I (↑(k + (1 : Nat)) : Int)) H.nil)], fun u => of_eq ((↑k : Int) < (↑s.length : Int) ∧ aIndexAddr Tryd.prog (22 : Nat) (AV.sl (ints T) s.length Room.full) (I (↑k : Int)) = some (AV.cptr (ints (List.drop k T))) ∧ aLoad Tryd.prog (3 : Nat) (ints (List.drop k T)) = some (I (T.getD k i0)) ∧ aCall (Sof [c27.to]) (AV.fn (Fn.func (27 : Nat)) [] []) [I (T.getD k i0)] (H.mk [] [] []) = some (I (↑(pc (T.getD k i0).toNat) : Int), H.mk [] [] []) ∧ aIndexAddr Tryd.prog (22 : Nat) (AV.sl (ints s) s.length r) (I (↑k : Int)) = some (AV.cptr (ints (List.drop k s))) ∧ aLoad Tryd.prog (3 : Nat) (ints (List.drop k s)) = some (I (s.getD k i0)) ∧ (↑(pc (T.getD k i0).toNat) : Int) = s.getD k i0 ∧ aBin Tryd.prog BinOp.add (3 : Nat) (I (↑k : Int)) (I 1) = some (I (↑(k + (1 : Nat)) : Int)) ∧ (103 : Nat) = (103 : Nat) ∧ k < s.length ∧ Keep (H.mk [] [] [] = H.mk [] [] [] ∧ [AV.sl (ints s) s.length r, AV.sl (ints T) s.length Room.full, I (↑s.length : Int), I (↑(k + (1 : Nat)) : Int)] = [AV.sl (ints s) s.length r, AV.sl (ints T) s.length Room.full, I (↑s.length : Int), I (↑(k + (1 : Nat)) : Int)])) (by kernel_rfl) ?_⟩
    refine ⟨by first | with_reducible assumption | omega | assumption, ?_⟩
    refine ⟨by first | exact ix_ints (by kernel_rfl) hz' (by decide) | exact ix_ints (by kernel_rfl) hz' hri, ?_⟩
    refine ⟨by first | exact ld_ints (by kernel_rfl) (by kernel_rfl) hzT | exact ld_ints (by kernel_rfl) (by kernel_rfl) hz', ?_⟩
    refine ⟨acall_hit (c := c27.to) (T.getD k i0) _ rfl p27, ?_⟩
    refine ⟨by first | exact ix_ints (by kernel_rfl) hz' (by decide) | exact ix_ints (by kernel_rfl) hz' hri, ?_⟩
    refine ⟨by first | exact ld_ints (by kernel_rfl) (by kernel_rfl) hzT | exact ld_ints (by kernel_rfl) (by kernel_rfl) hz', ?_⟩
    refine ⟨by first | with_reducible assumption | omega | assumption, ?_⟩
    refine ⟨told_add (by with_reducible assumption), ?_⟩
    refine ⟨by first | with_reducible assumption | omega | assumption, ?_⟩
    refine ⟨by first | with_reducible assumption | omega | assumption, ?_⟩
    exact ⟨rfl, rfl⟩
  · have hz : (s.length : Int) ≤ k := by omega
    have hk' : k = s.length := by omega
    subst hk'
    refine ⟨[Ans.o (Orc.b false)], fun u => of_eq ((↑s.length : Int) ≤ (↑s.length : Int) ∧ (103 : Nat) = (103 : Nat) ∧ hits [Out.mk Unit AX.ret [(4 : Nat)] (fun x => False) (fun x => [AV.bool false]) (fun x => H.nil) fun x => [], Out.mk Unit (AX.exit (0 : Nat)) [] (fun x => True) (fun x => []) (fun x => H.nil) fun x => []] (AX.exit (0 : Nat)) [u (0 : Nat), AV.sl (ints s) s.length r, u (2 : Nat), u (3 : Nat), u (4 : Nat), u (5 : Nat), u (6 : Nat), u (7 : Nat), u (8 : Nat), u (9 : Nat), u (10 : Nat), u (11 : Nat), u (12 : Nat), u (13 : Nat), u (14 : Nat), u (15 : Nat), u (16 : Nat), u (17 : Nat), u (18 : Nat), u (19 : Nat), u (20 : Nat), u (21 : Nat), u (22 : Nat), u (23 : Nat), u (24 : Nat), u (25 : Nat), u (26 : Nat), u (27 : Nat), u (28 : Nat), u (29 : Nat), u (30 : Nat), u (31 : Nat), u (32 : Nat), u (33 : Nat), u (34 : Nat), u (35 : Nat), u (36 : Nat), u (37 : Nat), u (38 : Nat), u (39 : Nat), u (40 : Nat), u (41 : Nat), u (42 : Nat), u (43 : Nat), u (44 : Nat), u (45 : Nat), u (46 : Nat), u (47 : Nat), u (48 : Nat), u (49 : Nat), u (50 : Nat), u (51 : Nat), u (52 : Nat), u (53 : Nat), u (54 : Nat), u (55 : Nat), u (56 : Nat), u (57 : Nat), u (58 : Nat), u (59 : Nat), u (60 : Nat), u (61 : Nat), u (62 : Nat), u (63 : Nat), u (64 : Nat), u (65 : Nat), u (66 : Nat), u (67 : Nat), u (68 : Nat), u (69 : Nat), u (70 : Nat), u (71 : Nat), u (72 : Nat), u (73 : Nat), u (74 : Nat), u (75 : Nat), u (76 : Nat), u (77 : Nat), u (78 : Nat), u (79 : Nat), u (80 : Nat), u (81 : Nat), u (82 : Nat), u (83 : Nat), u (84 : Nat), u (85 : Nat), u (86 : Nat), u (87 : Nat), AV.sl (ints T) s.length Room.full, I (↑s.length : Int), I (↑s.length : Int), AV.bool false, u (92 : Nat), u (93 : Nat), u (94 : Nat), u (95 : Nat), u (96 : Nat), u (97 : Nat), u (98 : Nat), u (99 : Nat), u (100 : Nat), u (101 : Nat), u (102 : Nat)] (H.mk [] [] [])) (by kernel_rfl) ?_⟩
    refine ⟨by first | with_reducible assumption | omega | assumption, ?_⟩
    refine ⟨by first | with_reducible assumption | omega | assumption, ?_⟩
    exact .inr (.inl ⟨(), trivial, rfl, rfl, rfl⟩)
/-- what is made is a tournament -/
noncomputable def c21m : PCtr Tryd.prog where
  f := 21
  X := (List Int × Nat) × Room
  args x := [.sl (ints x.1.1) x.1.2 x.2]
  pre x := x.1.1.length = x.1.2 ∧ lim x.1.1.length ∧ rok x.1.1 x.2
  v x := .bool (tnB x.1.1)
  det := by
    rintro ⟨⟨l, n⟩, r⟩ ⟨⟨l', n'⟩, r'⟩ e _ _
    simp only [List.cons.injEq, AV.sl.injEq, and_true] at e
    rw [ints_inj e.1]
  ok := by
    rintro ⟨⟨l, n⟩, r⟩ ⟨h1, h2, h3⟩
    simp only at h1 h2 h3
    subst h1
    exact c21.ok (l, r) ⟨h2, h3⟩
theorem r3tt (t : List Int) (r : Room) (s : List Int) (q : Room) (hp : pL t r) (h : Tn t) (hq : pS8 s q) (hs : SB s) (hl : lanB s = true) : Body (En6 [c19.to, c18t.to, c21m.to, c23.to, c22h.to, c20t.to, c25.to, c26p.to, c27.to, c24.to]) none1 Tryd.f3 [ls t r, ls s q] .nil (.bool true, .nil) := by
  obtain ⟨h1, h2⟩ := hp
  have h8 := h.s.2
  have h0 := h.s.1
  have hb := tn_t h
  have hc : cut t = t := cut_eq (by omega)
  have p18 : Tn (cut t) ∧ rok (cut t) (rcl r) := by rw [hc]; exact ⟨h, rcl_rok h1.2.1⟩
  have p21 : t.length = t.length ∧ lim t.length ∧ rok t r := ⟨rfl, h1.1, h1.2.1⟩
  have p23 : Tn t ∧ rok t r := ⟨h, h1.2.1⟩
  have e22 : srt (cut t) = rsd (scL t t.length) := by rw [hc]; exact srt_rsd h0
  have p22 : (srt (cut t) = rsd (scL t t.length) ∧ (srt (cut t)).length = (cut t).length ∧ (rsd (scL t t.length)).length = (rsd (scL t t.length)).length) ∧ lim (srt (cut t)).length ∧ rok (srt (cut t)) .full ∧ rok (rsd (scL t t.length)) (rm 0 (rsd (scL t t.length))).wk := ⟨⟨e22, srt_len _, rfl⟩, by rw [srt_len]; exact cut_lim t, fun _ q => (by cases q), by simp only [rok_wk]; exact rm_rok _⟩
  have p25 : lim s.length ∧ rok s q := ⟨hq.1, hq.2.1⟩
  have hcs : cut s = s := cut_eq (by have := hs.l8; omega)
  have g8 := hs.l8
  have g1 := hs.l1
  have hsb := sB_t hs
  have hq2 : pS8 (cut s) (rcl q) := by rw [hcs]; exact ⟨hq.1, rcl_rok hq.2.1, rcl_em⟩
  have p26 : SB s ∧ rok s q := ⟨hs, hq.2.1⟩
  have hpo : posV s.length s = true := by rw [pos_lan hs]; exact hl
  have p20 : pS8 (cut s) (rcl q) ∧ SB (cut s) ∧ lanB (cut s) = true := ⟨hq2, by rw [hcs]; exact hs, by rw [hcs]; exact hl⟩
  have hg := good_ok hs hl
  have hgl : (mkT (cut s)).length = s.length := by rw [hcs]; exact hg.len
  have hgn : Tn (mkT (cut s)) := by rw [hcs]; exact hg.tn
  have hcl : (cut s).length = s.length := by rw [hcs]
  have lp := lp3 s q hq.2.1 g8 (mkT (cut s)) hgl hgn (by rw [hcs]; exact hg.sz)
  rw [← hcl] at lp
  have hbm := tn_t hgn
  have c0 : ((cut s).length : Int) = (s.length : Int) := by rw [hcl]
  have p21m : (mkT (cut s)).length = (cut s).length ∧ lim (mkT (cut s)).length ∧ rok (mkT (cut s)) .full := ⟨by rw [hgl, hcl], by rw [hgl]; exact hq.1, fun _ q => by cases q⟩
  refine body_s ([Ans.o (Orc.val 13 (AV.sl (ints (cut t)) (cut t).length (rcl r)) (H.mk [] [] [])), Ans.o (Orc.val 14 (AV.tup [AV.sl (ints (srt (cut t))) (cut t).length Room.full, I 0]) (H.mk [] [] [])), Ans.o (Orc.val 19 (AV.sl (ints (cut s)) (cut s).length (rcl q)) (H.mk [] [] [])), Ans.o (Orc.val 20 (AV.tup [AV.sl (ints (mkT (cut s))) (cut s).length Room.full, I 0]) (H.mk [] [] [])), Ans.o (Orc.val 24 (AV.bool true) (H.mk [] [] [])), Ans.o (Orc.val 28 (AV.sl (ints (rsd (scL t t.length))) (rsd (scL t t.length)).length (rm (0 : Nat) (rsd (scL t t.length))).wk) (H.mk [] [] [])), Ans.o (Orc.val 29 (AV.bool true) (H.mk [] [] [])), Ans.o Orc.dflt, Ans.o (Orc.val 38 (AV.bool true) (H.mk [] [] [])), Ans.o (Orc.val 51 (AV.bool true) (H.mk [] [] [])), Ans.o (Orc.val 55 (AV.bool true) (H.mk [] [] [])), Ans.o (Orc.val 65 (AV.bool true) (H.mk [] [] [])), Ans.o Orc.dflt, Ans.o (Orc.b false), Ans.o (Orc.val 85 (AV.bool true) (H.mk [] [] [])), Ans.loop [(1 : Nat), (88 : Nat), (89 : Nat), (90 : Nat)] [Out.mk Unit AX.ret [(4 : Nat)] (fun x => False) (fun x => [AV.bool false]) (fun x => H.nil) fun y => [], Out.mk Unit (AX.exit (0 : Nat)) [] (fun x => True) (fun x => []) (fun x => H.nil) fun y => []]]) (aCall (Sof [c19.to, c18t.to, c21m.to, c23.to, c22h.to, c20t.to, c25.to, c26p.to, c27.to, c24.to]) (AV.fn (Fn.func (19 : Nat)) [] []) [AV.sl (ints t) t.length r] (H.mk [] [] []) = some (AV.sl (ints (cut t)) (cut t).length (rcl r), H.mk [] [] []) ∧ aCall (Sof [c19.to, c18t.to, c21m.to, c23.to, c22h.to, c20t.to, c25.to, c26p.to, c27.to, c24.to]) (AV.fn (Fn.func (18 : Nat)) [] []) [AV.sl (ints (cut t)) (cut t).length (rcl r)] (H.mk [] [] []) = some (AV.tup [AV.sl (ints (srt (cut t))) (cut t).length Room.full, I 0], H.mk [] [] []) ∧ aCall (Sof [c19.to, c18t.to, c21m.to, c23.to, c22h.to, c20t.to, c25.to, c26p.to, c27.to, c24.to]) (AV.fn (Fn.func (19 : Nat)) [] []) [AV.sl (ints s) s.length q] (H.mk [] [] []) = some (AV.sl (ints (cut s)) (cut s).length (rcl q), H.mk [] [] []) ∧ aCall (Sof [c19.to, c18t.to, c21m.to, c23.to, c22h.to, c20t.to, c25.to, c26p.to, c27.to, c24.to]) (AV.fn (Fn.func (20 : Nat)) [] []) [AV.sl (ints (cut s)) (cut s).length (rcl q)] (H.mk [] [] []) = some (AV.tup [AV.sl (ints (mkT (cut s))) (cut s).length Room.full, I 0], H.mk [] [] []) ∧ aCall (Sof [c19.to, c18t.to, c21m.to, c23.to, c22h.to, c20t.to, c25.to, c26p.to, c27.to, c24.to]) (AV.fn (Fn.func (21 : Nat)) [] []) [AV.sl (ints t) t.length r] (H.mk [] [] []) = some (AV.bool true, H.mk [] [] []) ∧ aCall (Sof [c19.to, c18t.to, c21m.to, c23.to, c22h.to, c20t.to, c25.to, c26p.to, c27.to, c24.to]) (AV.fn (Fn.func (23 : Nat)) [] []) [AV.sl (ints t) t.length r] (H.mk [] [] []) = some (AV.sl (ints (rsd (scL t t.length))) (rsd (scL t t.length)).length (rm (0 : Nat) (rsd (scL t t.length))).wk, H.mk [] [] []) ∧ aCall (Sof [c19.to, c18t.to, c21m.to, c23.to, c22h.to, c20t.to, c25.to, c26p.to, c27.to, c24.to]) (AV.fn (Fn.func (22 : Nat)) [] []) [AV.sl (ints (srt (cut t))) (cut t).length Room.full, AV.sl (ints (rsd (scL t t.length))) (rsd (scL t t.length)).length (rm (0 : Nat) (rsd (scL t t.length))).wk] (H.mk [] [] []) = some (AV.bool true, H.mk [] [] []) ∧ aCall (Sof [c19.to, c18t.to, c21m.to, c23.to, c22h.to, c20t.to, c25.to, c26p.to, c27.to, c24.to]) (AV.fn (Fn.func (21 : Nat)) [] []) [AV.sl (ints t) t.length r] (H.mk [] [] []) = some (AV.bool true, H.mk [] [] []) ∧ aCall (Sof [c19.to, c18t.to, c21m.to, c23.to, c22h.to, c20t.to, c25.to, c26p.to, c27.to, c24.to]) (AV.fn (Fn.func (24 : Nat)) [] []) [] (H.mk [] [] []) = some (AV.bool true, H.mk [] [] []) ∧ aCall (Sof [c19.to, c18t.to, c21m.to, c23.to, c22h.to, c20t.to, c25.to, c26p.to, c27.to, c24.to]) (AV.fn (Fn.func (25 : Nat)) [] []) [AV.sl (ints s) s.length q] (H.mk [] [] []) = some (AV.bool true, H.mk [] [] []) ∧ aCall (Sof [c19.to, c18t.to, c21m.to, c23.to, c22h.to, c20t.to, c25.to, c26p.to, c27.to, c24.to]) (AV.fn (Fn.func (26 : Nat)) [] []) [AV.sl (ints s) s.length q] (H.mk [] [] []) = some (AV.bool true, H.mk [] [] []) ∧ (↑(cut s).length : Int) = (↑s.length : Int) ∧ aCall (Sof [c19.to, c18t.to, c21m.to, c23.to, c22h.to, c20t.to, c25.to, c26p.to, c27.to, c24.to]) (AV.fn (Fn.func (21 : Nat)) [] []) [AV.sl (ints (mkT (cut s))) (cut s).length Room.full] (H.mk [] [] []) = some (AV.bool true, H.mk [] [] []) ∧ LoopS (Env.mk Tryd.prog (Sof [c19.to, c18t.to, c21m.to, c23.to, c22h.to, c20t.to, c25.to, c26p.to, c27.to, c24.to]) (Pof (P := Tryd.prog) []) H.nil.base (300 : Nat)) (loopAt Tryd.f3 (0 : Nat)) (103 : Nat) [(1 : Nat), (88 : Nat), (89 : Nat), (90 : Nat)] [AV.sl (ints s) s.length q, AV.sl (ints (mkT (cut s))) (cut s).length Room.full, I (↑(cut s).length : Int), I 0] (H.mk [] [] []) [Out.mk Unit AX.ret [(4 : Nat)] (fun x => False) (fun x => [AV.bool false]) (fun x => H.nil) fun y => [], Out.mk Unit (AX.exit (0 : Nat)) [] (fun x => True) (fun x => []) (fun x => H.nil) fun y => []] ∧ (∀ (y : Unit), False → ∀ (u : Nat → AV), (AV.bool false, H.mk [] [] []) = (AV.bool true, H.mk [] [] [])) ∧ (∀ (y : Unit), True → ∀ (u : Nat → AV), (AV.bool true, H.mk [] [] []) = (AV.bool true, H.mk [] [] [])) ∧ True) (by kernel_rfl) ?_
  refine ⟨by first | exact acall_hit (c := c19.to) (t, r) _ rfl h1 | exact acall_hit (c := c19.to) (s, q) _ rfl hq, ?_⟩
  refine ⟨acall_hit (c := c18t.to) (cut t, rcl r) _ rfl p18, ?_⟩
  refine ⟨by first | exact acall_hit (c := c19.to) (t, r) _ rfl h1 | exact acall_hit (c := c19.to) (s, q) _ rfl hq, ?_⟩
  refine ⟨acall_hit (c := c20t.to) (cut s, rcl q) _ rfl p20, ?_⟩
  refine ⟨by first | exact acall_b (acall_hit (c := c21m.to) ((t, t.length), r) _ rfl p21) hb | exact acall_b (acall_hit (c := c21m.to) ((mkT (cut s), (cut s).length), .full) _ rfl p21m) hbm, ?_⟩
  refine ⟨acall_hit (c := c23.to) (t, r) _ rfl p23, ?_⟩
  refine ⟨acall_hit (c := c22h.to) ((srt (cut t), (cut t).length, .full), rsd (scL t t.length), (rsd (scL t t.length)).length, (rm 0 (rsd (scL t t.length))).wk) _ rfl p22, ?_⟩
  refine ⟨by first | exact acall_b (acall_hit (c := c21m.to) ((t, t.length), r) _ rfl p21) hb | exact acall_b (acall_hit (c := c21m.to) ((mkT (cut s), (cut s).length), .full) _ rfl p21m) hbm, ?_⟩
  refine ⟨acall_hit (c := c24.to) () _ rfl trivial, ?_⟩
  refine ⟨acall_b (acall_hit (c := c25.to) (s, q) _ rfl p25) hsb, ?_⟩
  refine ⟨acall_b (acall_hit (c := c26p.to) (s, q) _ rfl p26) hpo, ?_⟩
  refine ⟨by first | with_reducible assumption | omega | assumption, ?_⟩
  refine ⟨by first | exact acall_b (acall_hit (c := c21m.to) ((t, t.length), r) _ rfl p21) hb | exact acall_b (acall_hit (c := c21m.to) ((mkT (cut s), (cut s).length), .full) _ rfl p21m) hbm, ?_⟩
  refine ⟨lp, ?_⟩
  refine And.intro ?_ ?_
  · skip
    intro y
    intro w1
    intro u
    first | rfl | (exfalso; assumption)
  · skip
    refine And.intro ?_ ?_
    · skip
      intro y
      intro w1
      intro u
      first | rfl | (exfalso; assumption)
    · skip
      trivial
theorem r3tn (t : List Int) (r : Room) (s : List Int) (q : Room) (hp : pL t r) (h : Tn t) (hq : pS8 s q) (hs : SB s) (hl : lanB s = false) : Body (En6 [c19.to, c18t.to, c21m.to, c23.to, c22h.to, c20n.to, c25.to, c26p.to, c24.to]) none1 Tryd.f3 [ls t r, ls s q] .nil (.bool true, .nil) := by
  obtain ⟨h1, h2⟩ := hp
  have h8 := h.s.2
  have h0 := h.s.1
  have hb := tn_t h
  have hc : cut t = t := cut_eq (by omega)
  have p18 : Tn (cut t) ∧ rok (cut t) (rcl r) := by rw [hc]; exact ⟨h, rcl_rok h1.2.1⟩
  have p21 : t.length = t.length ∧ lim t.length ∧ rok t r := ⟨rfl, h1.1, h1.2.1⟩
  have p23 : Tn t ∧ rok t r := ⟨h, h1.2.1⟩
  have e22 : srt (cut t) = rsd (scL t t.length) := by rw [hc]; exact srt_rsd h0
  have p22 : (srt (cut t) = rsd (scL t t.length) ∧ (srt (cut t)).length = (cut t).length ∧ (rsd (scL t t.length)).length = (rsd (scL t t.length)).length) ∧ lim (srt (cut t)).length ∧ rok (srt (cut t)) .full ∧ rok (rsd (scL t t.length)) (rm 0 (rsd (scL t t.length))).wk := ⟨⟨e22, srt_len _, rfl⟩, by rw [srt_len]; exact cut_lim t, fun _ q => (by cases q), by simp only [rok_wk]; exact rm_rok _⟩
  have p25 : lim s.length ∧ rok s q := ⟨hq.1, hq.2.1⟩
  have hcs : cut s = s := cut_eq (by have := hs.l8; omega)
  have g8 := hs.l8
  have g1 := hs.l1
  have hsb := sB_t hs
  have hq2 : pS8 (cut s) (rcl q) := by rw [hcs]; exact ⟨hq.1, rcl_rok hq.2.1, rcl_em⟩
  have p26 : SB s ∧ rok s q := ⟨hs, hq.2.1⟩
  have hpo : posV s.length s = false := by rw [pos_lan hs]; exact hl
  have p20 : pS8 (cut s) (rcl q) ∧ SB (cut s) ∧ lanB (cut s) = false := ⟨hq2, by rw [hcs]; exact hs, by rw [hcs]; exact hl⟩
  refine body_s ([Ans.o (Orc.val 13 (AV.sl (ints (cut t)) (cut t).length (rcl r)) (H.mk [] [] [])), Ans.o (Orc.val 14 (AV.tup [AV.sl (ints (srt (cut t))) (cut t).length Room.full, I 0]) (H.mk [] [] [])), Ans.o (Orc.val 19 (AV.sl (ints (cut s)) (cut s).length (rcl q)) (H.mk [] [] [])), Ans.o (Orc.val 20 (AV.tup [AV.sl [] (0 : Nat) Room.nil, I 4]) (H.mk [] [] [])), Ans.o (Orc.val 24 (AV.bool true) (H.mk [] [] [])), Ans.o (Orc.val 28 (AV.sl (ints (rsd (scL t t.length))) (rsd (scL t t.length)).length (rm (0 : Nat) (rsd (scL t t.length))).wk) (H.mk [] [] [])), Ans.o (Orc.val 29 (AV.bool true) (H.mk [] [] [])), Ans.o Orc.dflt, Ans.o (Orc.val 38 (AV.bool true) (H.mk [] [] [])), Ans.o (Orc.val 51 (AV.bool true) (H.mk [] [] [])), Ans.o (Orc.val 55 (AV.bool true) (H.mk [] [] [])), Ans.o (Orc.val 65 (AV.bool false) (H.mk [] [] [])), Ans.o Orc.dflt, Ans.o Orc.dflt]) (aCall (Sof [c19.to, c18t.to, c21m.to, c23.to, c22h.to, c20n.to, c25.to, c26p.to, c24.to]) (AV.fn (Fn.func (19 : Nat)) [] []) [AV.sl (ints t) t.length r] (H.mk [] [] []) = some (AV.sl (ints (cut t)) (cut t).length (rcl r), H.mk [] [] []) ∧ aCall (Sof [c19.to, c18t.to, c21m.to, c23.to, c22h.to, c20n.to, c25.to, c26p.to, c24.to]) (AV.fn (Fn.func (18 : Nat)) [] []) [AV.sl (ints (cut t)) (cut t).length (rcl r)] (H.mk [] [] []) = some (AV.tup [AV.sl (ints (srt (cut t))) (cut t).length Room.full, I 0], H.mk [] [] []) ∧ aCall (Sof [c19.to, c18t.to, c21m.to, c23.to, c22h.to, c20n.to, c25.to, c26p.to, c24.to]) (AV.fn (Fn.func (19 : Nat)) [] []) [AV.sl (ints s) s.length q] (H.mk [] [] []) = some (AV.sl (ints (cut s)) (cut s).length (rcl q), H.mk [] [] []) ∧ aCall (Sof [c19.to, c18t.to, c21m.to, c23.to, c22h.to, c20n.to, c25.to, c26p.to, c24.to]) (AV.fn (Fn.func (20 : Nat)) [] []) [AV.sl (ints (cut s)) (cut s).length (rcl q)] (H.mk [] [] []) = some (AV.tup [AV.sl [] (0 : Nat) Room.nil, I 4], H.mk [] [] []) ∧ aCall (Sof [c19.to, c18t.to, c21m.to, c23.to, c22h.to, c20n.to, c25.to, c26p.to, c24.to]) (AV.fn (Fn.func (21 : Nat)) [] []) [AV.sl (ints t) t.length r] (H.mk [] [] []) = some (AV.bool true, H.mk [] [] []) ∧ aCall (Sof [c19.to, c18t.to, c21m.to, c23.to, c22h.to, c20n.to, c25.to, c26p.to, c24.to]) (AV.fn (Fn.func (23 : Nat)) [] []) [AV.sl (ints t) t.length r] (H.mk [] [] []) = some (AV.sl (ints (rsd (scL t t.length))) (rsd (scL t t.length)).length (rm (0 : Nat) (rsd (scL t t.length))).wk, H.mk [] [] []) ∧ aCall (Sof [c19.to, c18t.to, c21m.to, c23.to, c22h.to, c20n.to, c25.to, c26p.to, c24.to]) (AV.fn (Fn.func (22 : Nat)) [] []) [AV.sl (ints (srt (cut t))) (cut t).length Room.full, AV.sl (ints (rsd (scL t t.length))) (rsd (scL t t.length)).length (rm (0 : Nat) (rsd (scL t t.length))).wk] (H.mk [] [] []) = some (AV.bool true, H.mk [] [] []) ∧ aCall (Sof [c19.to, c18t.to, c21m.to, c23.to, c22h.to, c20n.to, c25.to, c26p.to, c24.to]) (AV.fn (Fn.func (21 : Nat)) [] []) [AV.sl (ints t) t.length r] (H.mk [] [] []) = some (AV.bool true, H.mk [] [] []) ∧ aCall (Sof [c19.to, c18t.to, c21m.to, c23.to, c22h.to, c20n.to, c25.to, c26p.to, c24.to]) (AV.fn (Fn.func (24 : Nat)) [] []) [] (H.mk [] [] []) = some (AV.bool true, H.mk [] [] []) ∧ aCall (Sof [c19.to, c18t.to, c21m.to, c23.to, c22h.to, c20n.to, c25.to, c26p.to, c24.to]) (AV.fn (Fn.func (25 : Nat)) [] []) [AV.sl (ints s) s.length q] (H.mk [] [] []) = some (AV.bool true, H.mk [] [] []) ∧ aCall (Sof [c19.to, c18t.to, c21m.to, c23.to, c22h.to, c20n.to, c25.to, c26p.to, c24.to]) (AV.fn (Fn.func (26 : Nat)) [] []) [AV.sl (ints s) s.length q] (H.mk [] [] []) = some (AV.bool false, H.mk [] [] []) ∧ (AV.bool true, H.mk [] [] []) = (AV.bool true, H.mk [] [] [])) (by kernel_rfl) ?_
  refine ⟨by first | exact acall_hit (c := c19.to) (t, r) _ rfl h1 | exact acall_hit (c := c19.to) (s, q) _ rfl hq, ?_⟩
  refine ⟨acall_hit (c := c18t.to) (cut t, rcl r) _ rfl p18, ?_⟩
  refine ⟨by first | exact acall_hit (c := c19.to) (t, r) _ rfl h1 | exact acall_hit (c := c19.to) (s, q) _ rfl hq, ?_⟩
  refine ⟨acall_hit (c := c20n.to) (cut s, rcl q) _ rfl p20, ?_⟩
  refine ⟨acall_b (acall_hit (c := c21m.to) ((t, t.length), r) _ rfl p21) hb, ?_⟩
  refine ⟨acall_hit (c := c23.to) (t, r) _ rfl p23, ?_⟩
  refine ⟨acall_hit (c := c22h.to) ((srt (cut t), (cut t).length, .full), rsd (scL t t.length), (rsd (scL t t.length)).length, (rm 0 (rsd (scL t t.length))).wk) _ rfl p22, ?_⟩
  refine ⟨acall_b (acall_hit (c := c21m.to) ((t, t.length), r) _ rfl p21) hb, ?_⟩
  refine ⟨acall_hit (c := c24.to) () _ rfl trivial, ?_⟩
  refine ⟨acall_b (acall_hit (c := c25.to) (s, q) _ rfl p25) hsb, ?_⟩
  refine ⟨acall_b (acall_hit (c := c26p.to) (s, q) _ rfl p26) hpo, ?_⟩
  first | rfl | (exfalso; assumption)
theorem r3tf (t : List Int) (r : Room) (s : List Int) (q : Room) (hp : pL t r) (h : Tn t) (hq : pS8 s q) (hs : ¬ SB s) : Body (En6 [c19.to, c18t.to, c21m.to, c23.to, c22h.to, c20f.to, c25.to, c24.to]) none1 Tryd.f3 [ls t r, ls s q] .nil (.bool true, .nil) := by
  obtain ⟨h1, h2⟩ := hp
  have h8 := h.s.2
  have h0 := h.s.1
  have hb := tn_t h
  have hc : cut t = t := cut_eq (by omega)
  have p18 : Tn (cut t) ∧ rok (cut t) (rcl r) := by rw [hc]; exact ⟨h, rcl_rok h1.2.1⟩
  have p21 : t.length = t.length ∧ lim t.length ∧ rok t r := ⟨rfl, h1.1, h1.2.1⟩
  have p23 : Tn t ∧ rok t r := ⟨h, h1.2.1⟩
  have e22 : srt (cut t) = rsd (scL t t.length) := by rw [hc]; exact srt_rsd h0
  have p22 : (srt (cut t) = rsd (scL t t.length) ∧ (srt (cut t)).length = (cut t).length ∧ (rsd (scL t t.length)).length = (rsd (scL t t.length)).length) ∧ lim (srt (cut t)).length ∧ rok (srt (cut t)) .full ∧ rok (rsd (scL t t.length)) (rm 0 (rsd (scL t t.length))).wk := ⟨⟨e22, srt_len _, rfl⟩, by rw [srt_len]; exact cut_lim t, fun _ q => (by cases q), by simp only [rok_wk]; exact rm_rok _⟩
  have p25 : lim s.length ∧ rok s q := ⟨hq.1, hq.2.1⟩
  have hsb := sB_f hs
  have p20 : pS8 (cut s) (rcl q) ∧ ¬ SB (cut s) := ⟨⟨cut_lim s, fun hne => rcl_rok hq.2.1 (fun e => hne (by rw [e]; rfl)), rcl_em⟩, cut_SB hs⟩
  refine body_s ([Ans.o (Orc.val 13 (AV.sl (ints (cut t)) (cut t).length (rcl r)) (H.mk [] [] [])), Ans.o (Orc.val 14 (AV.tup [AV.sl (ints (srt (cut t))) (cut t).length Room.full, I 0]) (H.mk [] [] [])), Ans.o (Orc.val 19 (AV.sl (ints (cut s)) (cut s).length (rcl q)) (H.mk [] [] [])), Ans.o (Orc.val 20 (AV.tup [AV.sl [] (0 : Nat) Room.nil, I 2]) (H.mk [] [] [])), Ans.o (Orc.val 24 (AV.bool true) (H.mk [] [] [])), Ans.o (Orc.val 28 (AV.sl (ints (rsd (scL t t.length))) (rsd (scL t t.length)).length (rm (0 : Nat) (rsd (scL t t.length))).wk) (H.mk [] [] [])), Ans.o (Orc.val 29 (AV.bool true) (H.mk [] [] [])), Ans.o Orc.dflt, Ans.o (Orc.val 38 (AV.bool true) (H.mk [] [] [])), Ans.o (Orc.val 51 (AV.bool true) (H.mk [] [] [])), Ans.o (Orc.val 55 (AV.bool false) (H.mk [] [] [])), Ans.o Orc.dflt, Ans.o Orc.dflt]) (aCall (Sof [c19.to, c18t.to, c21m.to, c23.to, c22h.to, c20f.to, c25.to, c24.to]) (AV.fn (Fn.func (19 : Nat)) [] []) [AV.sl (ints t) t.length r] (H.mk [] [] []) = some (AV.sl (ints (cut t)) (cut t).length (rcl r), H.mk [] [] []) ∧ aCall (Sof [c19.to, c18t.to, c21m.to, c23.to, c22h.to, c20f.to, c25.to, c24.to]) (AV.fn (Fn.func (18 : Nat)) [] []) [AV.sl (ints (cut t)) (cut t).length (rcl r)] (H.mk [] [] []) = some (AV.tup [AV.sl (ints (srt (cut t))) (cut t).length Room.full, I 0], H.mk [] [] []) ∧ aCall (Sof [c19.to, c18t.to, c21m.to, c23.to, c22h.to, c20f.to, c25.to, c24.to]) (AV.fn (Fn.func (19 : Nat)) [] []) [AV.sl (ints s) s.length q] (H.mk [] [] []) = some (AV.sl (ints (cut s)) (cut s).length (rcl q), H.mk [] [] []) ∧ aCall (Sof [c19.to, c18t.to, c21m.to, c23.to, c22h.to, c20f.to, c25.to, c24.to]) (AV.fn (Fn.func (20 : Nat)) [] []) [AV.sl (ints (cut s)) (cut s).length (rcl q)] (H.mk [] [] []) = some (AV.tup [AV.sl [] (0 : Nat) Room.nil, I 2], H.mk [] [] []) ∧ aCall (Sof [c19.to, c18t.to, c21m.to, c23.to, c22h.to, c20f.to, c25.to, c24.to]) (AV.fn (Fn.func (21 : Nat)) [] []) [AV.sl (ints t) t.length r] (H.mk [] [] []) = some (AV.bool true, H.mk [] [] []) ∧ aCall (Sof [c19.to, c18t.to, c21m.to, c23.to, c22h.to, c20f.to, c25.to, c24.to]) (AV.fn (Fn.func (23 : Nat)) [] []) [AV.sl (ints t) t.length r] (H.mk [] [] []) = some (AV.sl (ints (rsd (scL t t.length))) (rsd (scL t t.length)).length (rm (0 : Nat) (rsd (scL t t.length))).wk, H.mk [] [] []) ∧ aCall (Sof [c19.to, c18t.to, c21m.to, c23.to, c22h.to, c20f.to, c25.to, c24.to]) (AV.fn (Fn.func (22 : Nat)) [] []) [AV.sl (ints (srt (cut t))) (cut t).length Room.full, AV.sl (ints (rsd (scL t t.length))) (rsd (scL t t.length)).length (rm (0 : Nat) (rsd (scL t t.length))).wk] (H.mk [] [] []) = some (AV.bool true, H.mk [] [] []) ∧ aCall (Sof [c19.to, c18t.to, c21m.to, c23.to, c22h.to, c20f.to, c25.to, c24.to]) (AV.fn (Fn.func (21 : Nat)) [] []) [AV.sl (ints t) t.length r] (H.mk [] [] []) = some (AV.bool true, H.mk [] [] []) ∧ aCall (Sof [c19.to, c18t.to, c21m.to, c23.to, c22h.to, c20f.to, c25.to, c24.to]) (AV.fn (Fn.func (24 : Nat)) [] []) [] (H.mk [] [] []) = some (AV.bool true, H.mk [] [] []) ∧ aCall (Sof [c19.to, c18t.to, c21m.to, c23.to, c22h.to, c20f.to, c25.to, c24.to]) (AV.fn (Fn.func (25 : Nat)) [] []) [AV.sl (ints s) s.length q] (H.mk [] [] []) = some (AV.bool false, H.mk [] [] []) ∧ (AV.bool true, H.mk [] [] []) = (AV.bool true, H.mk [] [] [])) (by kernel_rfl) ?_
  refine ⟨by first | exact acall_hit (c := c19.to) (t, r) _ rfl h1 | exact acall_hit (c := c19.to) (s, q) _ rfl hq, ?_⟩
  refine ⟨acall_hit (c := c18t.to) (cut t, rcl r) _ rfl p18, ?_⟩
  refine ⟨by first | exact acall_hit (c := c19.to) (t, r) _ rfl h1 | exact acall_hit (c := c19.to) (s, q) _ rfl hq, ?_⟩
  refine ⟨acall_hit (c := c20f.to) (cut s, rcl q) _ rfl p20, ?_⟩
  refine ⟨acall_b (acall_hit (c := c21m.to) ((t, t.length), r) _ rfl p21) hb, ?_⟩
  refine ⟨acall_hit (c := c23.to) (t, r) _ rfl p23, ?_⟩
  refine ⟨acall_hit (c := c22h.to) ((srt (cut t), (cut t).length, .full), rsd (scL t t.length), (rsd (scL t t.length)).length, (rm 0 (rsd (scL t t.length))).wk) _ rfl p22, ?_⟩
  refine ⟨acall_b (acall_hit (c := c21m.to) ((t, t.length), r) _ rfl p21) hb, ?_⟩
  refine ⟨acall_hit (c := c24.to) () _ rfl trivial, ?_⟩
  refine ⟨acall_b (acall_hit (c := c25.to) (s, q) _ rfl p25) hsb, ?_⟩
  first | rfl | (exfalso; assumption)
theorem r3ft (t : List Int) (r : Room) (s : List Int) (q : Room) (hp : pL t r) (h : ¬ Tn t) (hq : pS8 s q) (hs : SB s) (hl : lanB s = true) : Body (En6 [c19.to, c18f.to, c21m.to, c20t.to, c25.to, c26p.to, c27.to, c24.to]) none1 Tryd.f3 [ls t r, ls s q] .nil (.bool true, .nil) := by
  obtain ⟨h1, h2⟩ := hp
  have hb := tn_f h
  have p21 : t.length = t.length ∧ lim t.length ∧ rok t r := ⟨rfl, h1.1, h1.2.1⟩
  have p18 : (lim (cut t).length ∧ rok (cut t) (rcl r) ∧ inI (cut t)) ∧ ¬ Tn (cut t) := ⟨⟨cut_lim t, fun hne => rcl_rok h1.2.1 (fun e => hne (by rw [e]; rfl)), cut_in h2⟩, cut_tn h⟩
  have p25 : lim s.length ∧ rok s q := ⟨hq.1, hq.2.1⟩
  have hcs : cut s = s := cut_eq (by have := hs.l8; omega)
  have g8 := hs.l8
  have g1 := hs.l1
  have hsb := sB_t hs
  have hq2 : pS8 (cut s) (rcl q) := by rw [hcs]; exact ⟨hq.1, rcl_rok hq.2.1, rcl_em⟩
  have p26 : SB s ∧ rok s q := ⟨hs, hq.2.1⟩
  have hpo : posV s.length s = true := by rw [pos_lan hs]; exact hl
  have p20 : pS8 (cut s) (rcl q) ∧ SB (cut s) ∧ lanB (cut s) = true := ⟨hq2, by rw [hcs]; exact hs, by rw [hcs]; exact hl⟩
  have hg := good_ok hs hl
  have hgl : (mkT (cut s)).length = s.length := by rw [hcs]; exact hg.len
  have hgn : Tn (mkT (cut s)) := by rw [hcs]; exact hg.tn
  have hcl : (cut s).length = s.length := by rw [hcs]
  have lp := lp3 s q hq.2.1 g8 (mkT (cut s)) hgl hgn (by rw [hcs]; exact hg.sz)
  rw [← hcl] at lp
  have hbm := tn_t hgn
  have c0 : ((cut s).length : Int) = (s.length : Int) := by rw [hcl]
  have p21m : (mkT (cut s)).length = (cut s).length ∧ lim (mkT (cut s)).length ∧ rok (mkT (cut s)) .full := ⟨by rw [hgl, hcl], by rw [hgl]; exact hq.1, fun _ q => by cases q⟩
  refine body_s ([Ans.o (Orc.val 13 (AV.sl (ints (cut t)) (cut t).length (rcl r)) (H.mk [] [] [])), Ans.o (Orc.val 14 (AV.tup [AV.sl [] (0 : Nat) Room.nil, I 2]) (H.mk [] [] [])), Ans.o (Orc.val 19 (AV.sl (ints (cut s)) (cut s).length (rcl q)) (H.mk [] [] [])), Ans.o (Orc.val 20 (AV.tup [AV.sl (ints (mkT (cut s))) (cut s).length Room.full, I 0]) (H.mk [] [] [])), Ans.o (Orc.val 24 (AV.bool false) (H.mk [] [] [])), Ans.o (Orc.val 38 (AV.bool false) (H.mk [] [] [])), Ans.o Orc.dflt, Ans.o Orc.dflt, Ans.o (Orc.val 51 (AV.bool true) (H.mk [] [] [])), Ans.o (Orc.val 55 (AV.bool true) (H.mk [] [] [])), Ans.o (Orc.val 65 (AV.bool true) (H.mk [] [] [])), Ans.o Orc.dflt, Ans.o (Orc.b false), Ans.o (Orc.val 85 (AV.bool true) (H.mk [] [] [])), Ans.loop [(1 : Nat), (88 : Nat), (89 : Nat), (90 : Nat)] [Out.mk Unit AX.ret [(4 : Nat)] (fun x => False) (fun x => [AV.bool false]) (fun x => H.nil) fun y => [], Out.mk Unit (AX.exit (0 : Nat)) [] (fun x => True) (fun x => []) (fun x => H.nil) fun y => []]]) (aCall (Sof [c19.to, c18f.to, c21m.to, c20t.to, c25.to, c26p.to, c27.to, c24.to]) (AV.fn (Fn.func (19 : Nat)) [] []) [AV.sl (ints t) t.length r] (H.mk [] [] []) = some (AV.sl (ints (cut t)) (cut t).length (rcl r), H.mk [] [] []) ∧ aCall (Sof [c19.to, c18f.to, c21m.to, c20t.to, c25.to, c26p.to, c27.to, c24.to]) (AV.fn (Fn.func (18 : Nat)) [] []) [AV.sl (ints (cut t)) (cut t).length (rcl r)] (H.mk [] [] []) = some (AV.tup [AV.sl [] (0 : Nat) Room.nil, I 2], H.mk [] [] []) ∧ aCall (Sof [c19.to, c18f.to, c21m.to, c20t.to, c25.to, c26p.to, c27.to, c24.to]) (AV.fn (Fn.func (19 : Nat)) [] []) [AV.sl (ints s) s.length q] (H.mk [] [] []) = some (AV.sl (ints (cut s)) (cut s).length (rcl q), H.mk [] [] []) ∧ aCall (Sof [c19.to, c18f.to, c21m.to, c20t.to, c25.to, c26p.to, c27.to, c24.to]) (AV.fn (Fn.func (20 : Nat)) [] []) [AV.sl (ints (cut s)) (cut s).length (rcl q)] (H.mk [] [] []) = some (AV.tup [AV.sl (ints (mkT (cut s))) (cut s).length Room.full, I 0], H.mk [] [] []) ∧ aCall (Sof [c19.to, c18f.to, c21m.to, c20t.to, c25.to, c26p.to, c27.to, c24.to]) (AV.fn (Fn.func (21 : Nat)) [] []) [AV.sl (ints t) t.length r] (H.mk [] [] []) = some (AV.bool false, H.mk [] [] []) ∧ aCall (Sof [c19.to, c18f.to, c21m.to, c20t.to, c25.to, c26p.to, c27.to, c24.to]) (AV.fn (Fn.func (21 : Nat)) [] []) [AV.sl (ints t) t.length r] (H.mk [] [] []) = some (AV.bool false, H.mk [] [] []) ∧ aCall (Sof [c19.to, c18f.to, c21m.to, c20t.to, c25.to, c26p.to, c27.to, c24.to]) (AV.fn (Fn.func (24 : Nat)) [] []) [] (H.mk [] [] []) = some (AV.bool true, H.mk [] [] []) ∧ aCall (Sof [c19.to, c18f.to, c21m.to, c20t.to, c25.to, c26p.to, c27.to, c24.to]) (AV.fn (Fn.func (25 : Nat)) [] []) [AV.sl (ints s) s.length q] (H.mk [] [] []) = some (AV.bool true, H.mk [] [] []) ∧ aCall (Sof [c19.to, c18f.to, c21m.to, c20t.to, c25.to, c26p.to, c27.to, c24.to]) (AV.fn (Fn.func (26 : Nat)) [] []) [AV.sl (ints s) s.length q] (H.mk [] [] []) = some (AV.bool true, H.mk [] [] []) ∧ (↑(cut s).length : Int) = (↑s.length : Int) ∧ aCall (Sof [c19.to, c18f.to, c21m.to, c20t.to, c25.to, c26p.to, c27.to, c24.to]) (AV.fn (Fn.func (21 : Nat)) [] []) [AV.sl (ints (mkT (cut s))) (cut s).length Room.full] (H.mk [] [] []) = some (AV.bool true, H.mk [] [] []) ∧ LoopS (Env.mk Tryd.prog (Sof [c19.to, c18f.to, c21m.to, c20t.to, c25.to, c26p.to, c27.to, c24.to]) (Pof (P := Tryd.prog) []) H.nil.base (300 : Nat)) (loopAt Tryd.f3 (0 : Nat)) (103 : Nat) [(1 : Nat), (88 : Nat), (89 : Nat), (90 : Nat)] [AV.sl (ints s) s.length q, AV.sl (ints (mkT (cut s))) (cut s).length Room.full, I (↑(cut s).length : Int), I 0] (H.mk [] [] []) [Out.mk Unit AX.ret [(4 : Nat)] (fun x => False) (fun x => [AV.bool false]) (fun x => H.nil) fun y => [], Out.mk Unit (AX.exit (0 : Nat)) [] (fun x => True) (fun x => []) (fun x => H.nil) fun y => []] ∧ (∀ (y : Unit), False → ∀ (u : Nat → AV), (AV.bool false, H.mk [] [] []) = (AV.bool true, H.mk [] [] [])) ∧ (∀ (y : Unit), True → ∀ (u : Nat → AV), (AV.bool true, H.mk [] [] []) = (AV.bool true, H.mk [] [] [])) ∧ True) (by kernel_rfl) ?_
  refine ⟨by first | exact acall_hit (c := c19.to) (t, r) _ rfl h1 | exact acall_hit (c := c19.to) (s, q) _ rfl hq, ?_⟩
  refine ⟨acall_hit (c := c18f.to) (cut t, rcl r) _ rfl p18, ?_⟩
  refine ⟨by first | exact acall_hit (c := c19.to) (t, r) _ rfl h1 | exact acall_hit (c := c19.to) (s, q) _ rfl hq, ?_⟩
  refine ⟨acall_hit (c := c20t.to) (cut s, rcl q) _ rfl p20, ?_⟩
  refine ⟨by first | exact acall_b (acall_hit (c := c21m.to) ((t, t.length), r) _ rfl p21) hb | exact acall_b (acall_hit (c := c21m.to) ((mkT (cut s), (cut s).length), .full) _ rfl p21m) hbm, ?_⟩
  refine ⟨by first | exact acall_b (acall_hit (c := c21m.to) ((t, t.length), r) _ rfl p21) hb | exact acall_b (acall_hit (c := c21m.to) ((mkT (cut s), (cut s).length), .full) _ rfl p21m) hbm, ?_⟩
  refine ⟨acall_hit (c := c24.to) () _ rfl trivial, ?_⟩
  refine ⟨acall_b (acall_hit (c := c25.to) (s, q) _ rfl p25) hsb, ?_⟩
  refine ⟨acall_b (acall_hit (c := c26p.to) (s, q) _ rfl p26) hpo, ?_⟩
  refine ⟨by first | with_reducible assumption | omega | assumption, ?_⟩
  refine ⟨by first | exact acall_b (acall_hit (c := c21m.to) ((t, t.length), r) _ rfl p21) hb | exact acall_b (acall_hit (c := c21m.to) ((mkT (cut s), (cut s).length), .full) _ rfl p21m) hbm, ?_⟩
  refine ⟨lp, ?_⟩
  refine And.intro ?_ ?_
  · skip
    intro y
    intro w1
    intro u
    first | rfl | (exfalso; assumption)
  · skip
    refine And.intro ?_ ?_
    · skip
      intro y
      intro w1
      intro u
      first | rfl | (exfalso; assumption)
    · skip
      trivial
theorem r3fn (t : List Int) (r : Room) (s : List Int) (q : Room) (hp : pL t r) (h : ¬ Tn t) (hq : pS8 s q) (hs : SB s) (hl : lanB s = false) : Body (En6 [c19.to, c18f.to, c21m.to, c20n.to, c25.to, c26p.to, c24.to]) none1 Tryd.f3 [ls t r, ls s q] .nil (.bool true, .nil) := by
  obtain ⟨h1, h2⟩ := hp
  have hb := tn_f h
  have p21 : t.length = t.length ∧ lim t.length ∧ rok t r := ⟨rfl, h1.1, h1.2.1⟩
  have p18 : (lim (cut t).length ∧ rok (cut t) (rcl r) ∧ inI (cut t)) ∧ ¬ Tn (cut t) := ⟨⟨cut_lim t, fun hne => rcl_rok h1.2.1 (fun e => hne (by rw [e]; rfl)), cut_in h2⟩, cut_tn h⟩
  have p25 : lim s.length ∧ rok s q := ⟨hq.1, hq.2.1⟩
  have hcs : cut s = s := cut_eq (by have := hs.l8; omega)
  have g8 := hs.l8
  have g1 := hs.l1
  have hsb := sB_t hs
  have hq2 : pS8 (cut s) (rcl q) := by rw [hcs]; exact ⟨hq.1, rcl_rok hq.2.1, rcl_em⟩
  have p26 : SB s ∧ rok s q := ⟨hs, hq.2.1⟩
  have hpo : posV s.length s = false := by rw [pos_lan hs]; exact hl
  have p20 : pS8 (cut s) (rcl q) ∧ SB (cut s) ∧ lanB (cut s) = false := ⟨hq2, by rw [hcs]; exact hs, by rw [hcs]; exact hl⟩
  refine body_s ([Ans.o (Orc.val 13 (AV.sl (ints (cut t)) (cut t).length (rcl r)) (H.mk [] [] [])), Ans.o (Orc.val 14 (AV.tup [AV.sl [] (0 : Nat) Room.nil, I 2]) (H.mk [] [] [])), Ans.o (Orc.val 19 (AV.sl (ints (cut s)) (cut s).length (rcl q)) (H.mk [] [] [])), Ans.o (Orc.val 20 (AV.tup [AV.sl [] (0 : Nat) Room.nil, I 4]) (H.mk [] [] [])), Ans.o (Orc.val 24 (AV.bool false) (H.mk [] [] [])), Ans.o (Orc.val 38 (AV.bool false) (H.mk [] [] [])), Ans.o Orc.dflt, Ans.o Orc.dflt, Ans.o (Orc.val 51 (AV.bool true) (H.mk [] [] [])), Ans.o (Orc.val 55 (AV.bool true) (H.mk [] [] [])), Ans.o (Orc.val 65 (AV.bool false) (H.mk [] [] [])), Ans.o Orc.dflt, Ans.o Orc.dflt]) (aCall (Sof [c19.to, c18f.to, c21m.to, c20n.to, c25.to, c26p.to, c24.to]) (AV.fn (Fn.func (19 : Nat)) [] []) [AV.sl (ints t) t.length r] (H.mk [] [] []) = some (AV.sl (ints (cut t)) (cut t).length (rcl r), H.mk [] [] []) ∧ aCall (Sof [c19.to, c18f.to, c21m.to, c20n.to, c25.to, c26p.to, c24.to]) (AV.fn (Fn.func (18 : Nat)) [] []) [AV.sl (ints (cut t)) (cut t).length (rcl r)] (H.mk [] [] []) = some (AV.tup [AV.sl [] (0 : Nat) Room.nil, I 2], H.mk [] [] []) ∧ aCall (Sof [c19.to, c18f.to, c21m.to, c20n.to, c25.to, c26p.to, c24.to]) (AV.fn (Fn.func (19 : Nat)) [] []) [AV.sl (ints s) s.length q] (H.mk [] [] []) = some (AV.sl (ints (cut s)) (cut s).length (rcl q), H.mk [] [] []) ∧ aCall (Sof [c19.to, c18f.to, c21m.to, c20n.to, c25.to, c26p.to, c24.to]) (AV.fn (Fn.func (20 : Nat)) [] []) [AV.sl (ints (cut s)) (cut s).length (rcl q)] (H.mk [] [] []) = some (AV.tup [AV.sl [] (0 : Nat) Room.nil, I 4], H.mk [] [] []) ∧ aCall (Sof [c19.to, c18f.to, c21m.to, c20n.to, c25.to, c26p.to, c24.to]) (AV.fn (Fn.func (21 : Nat)) [] []) [AV.sl (ints t) t.length r] (H.mk [] [] []) = some (AV.bool false, H.mk [] [] []) ∧ aCall (Sof [c19.to, c18f.to, c21m.to, c20n.to, c25.to, c26p.to, c24.to]) (AV.fn (Fn.func (21 : Nat)) [] []) [AV.sl (ints t) t.length r] (H.mk [] [] []) = some (AV.bool false, H.mk [] [] []) ∧ aCall (Sof [c19.to, c18f.to, c21m.to, c20n.to, c25.to, c26p.to, c24.to]) (AV.fn (Fn.func (24 : Nat)) [] []) [] (H.mk [] [] []) = some (AV.bool true, H.mk [] [] []) ∧ aCall (Sof [c19.to, c18f.to, c21m.to, c20n.to, c25.to, c26p.to, c24.to]) (AV.fn (Fn.func (25 : Nat)) [] []) [AV.sl (ints s) s.length q] (H.mk [] [] []) = some (AV.bool true, H.mk [] [] []) ∧ aCall (Sof [c19.to, c18f.to, c21m.to, c20n.to, c25.to, c26p.to, c24.to]) (AV.fn (Fn.func (26 : Nat)) [] []) [AV.sl (ints s) s.length q] (H.mk [] [] []) = some (AV.bool false, H.mk [] [] []) ∧ (AV.bool true, H.mk [] [] []) = (AV.bool true, H.mk [] [] [])) (by kernel_rfl) ?_
  refine ⟨by first | exact acall_hit (c := c19.to) (t, r) _ rfl h1 | exact acall_hit (c := c19.to) (s, q) _ rfl hq, ?_⟩
  refine ⟨acall_hit (c := c18f.to) (cut t, rcl r) _ rfl p18, ?_⟩
  refine ⟨by first | exact acall_hit (c := c19.to) (t, r) _ rfl h1 | exact acall_hit (c := c19.to) (s, q) _ rfl hq, ?_⟩
  refine ⟨acall_hit (c := c20n.to) (cut s, rcl q) _ rfl p20, ?_⟩
  refine ⟨acall_b (acall_hit (c := c21m.to) ((t, t.length), r) _ rfl p21) hb, ?_⟩
  refine ⟨acall_b (acall_hit (c := c21m.to) ((t, t.length), r) _ rfl p21) hb, ?_⟩
  refine ⟨acall_hit (c := c24.to) () _ rfl trivial, ?_⟩
  refine ⟨acall_b (acall_hit (c := c25.to) (s, q) _ rfl p25) hsb, ?_⟩
  refine ⟨acall_b (acall_hit (c := c26p.to) (s, q) _ rfl p26) hpo, ?_⟩
  first | rfl | (exfalso; assumption)
theorem r3ff (t : List Int) (r : Room) (s : List Int) (q : Room) (hp : pL t r) (h : ¬ Tn t) (hq : pS8 s q) (hs : ¬ SB s) : Body (En6 [c19.to, c18f.to, c21m.to, c20f.to, c25.to, c24.to]) none1 Tryd.f3 [ls t r, ls s q] .nil (.bool true, .nil) := by
  obtain ⟨h1, h2⟩ := hp
  have hb := tn_f h
  have p21 : t.length = t.length ∧ lim t.length ∧ rok t r := ⟨rfl, h1.1, h1.2.1⟩
  have p18 : (lim (cut t).length ∧ rok (cut t) (rcl r) ∧ inI (cut t)) ∧ ¬ Tn (cut t) := ⟨⟨cut_lim t, fun hne => rcl_rok h1.2.1 (fun e => hne (by rw [e]; rfl)), cut_in h2⟩, cut_tn h⟩
  have p25 : lim s.length ∧ rok s q := ⟨hq.1, hq.2.1⟩
  have hsb := sB_f hs
  have p20 : pS8 (cut s) (rcl q) ∧ ¬ SB (cut s) := ⟨⟨cut_lim s, fun hne => rcl_rok hq.2.1 (fun e => hne (by rw [e]; rfl)), rcl_em⟩, cut_SB hs⟩
  refine body_s ([Ans.o (Orc.val 13 (AV.sl (ints (cut t)) (cut t).length (rcl r)) (H.mk [] [] [])), Ans.o (Orc.val 14 (AV.tup [AV.sl [] (0 : Nat) Room.nil, I 2]) (H.mk [] [] [])), Ans.o (Orc.val 19 (AV.sl (ints (cut s)) (cut s).length (rcl q)) (H.mk [] [] [])), Ans.o (Orc.val 20 (AV.tup [AV.sl [] (0 : Nat) Room.nil, I 2]) (H.mk [] [] [])), Ans.o (Orc.val 24 (AV.bool false) (H.mk [] [] [])), Ans.o (Orc.val 38 (AV.bool false) (H.mk [] [] [])), Ans.o Orc.dflt, Ans.o Orc.dflt, Ans.o (Orc.val 51 (AV.bool true) (H.mk [] [] [])), Ans.o (Orc.val 55 (AV.bool false) (H.mk [] [] [])), Ans.o Orc.dflt, Ans.o Orc.dflt]) (aCall (Sof [c19.to, c18f.to, c21m.to, c20f.to, c25.to, c24.to]) (AV.fn (Fn.func (19 : Nat)) [] []) [AV.sl (ints t) t.length r] (H.mk [] [] []) = some (AV.sl (ints (cut t)) (cut t).length (rcl r), H.mk [] [] []) ∧ aCall (Sof [c19.to, c18f.to, c21m.to, c20f.to, c25.to, c24.to]) (AV.fn (Fn.func (18 : Nat)) [] []) [AV.sl (ints (cut t)) (cut t).length (rcl r)] (H.mk [] [] []) = some (AV.tup [AV.sl [] (0 : Nat) Room.nil, I 2], H.mk [] [] []) ∧ aCall (Sof [c19.to, c18f.to, c21m.to, c20f.to, c25.to, c24.to]) (AV.fn (Fn.func (19 : Nat)) [] []) [AV.sl (ints s) s.length q] (H.mk [] [] []) = some (AV.sl (ints (cut s)) (cut s).length (rcl q), H.mk [] [] []) ∧ aCall (Sof [c19.to, c18f.to, c21m.to, c20f.to, c25.to, c24.to]) (AV.fn (Fn.func (20 : Nat)) [] []) [AV.sl (ints (cut s)) (cut s).length (rcl q)] (H.mk [] [] []) = some (AV.tup [AV.sl [] (0 : Nat) Room.nil, I 2], H.mk [] [] []) ∧ aCall (Sof [c19.to, c18f.to, c21m.to, c20f.to, c25.to, c24.to]) (AV.fn (Fn.func (21 : Nat)) [] []) [AV.sl (ints t) t.length r] (H.mk [] [] []) = some (AV.bool false, H.mk [] [] []) ∧ aCall (Sof [c19.to, c18f.to, c21m.to, c20f.to, c25.to, c24.to]) (AV.fn (Fn.func (21 : Nat)) [] []) [AV.sl (ints t) t.length r] (H.mk [] [] []) = some (AV.bool false, H.mk [] [] []) ∧ aCall (Sof [c19.to, c18f.to, c21m.to, c20f.to, c25.to, c24.to]) (AV.fn (Fn.func (24 : Nat)) [] []) [] (H.mk [] [] []) = some (AV.bool true, H.mk [] [] []) ∧ aCall (Sof [c19.to, c18f.to, c21m.to, c20f.to, c25.to, c24.to]) (AV.fn (Fn.func (25 : Nat)) [] []) [AV.sl (ints s) s.length q] (H.mk [] [] []) = some (AV.bool false, H.mk [] [] []) ∧ (AV.bool true, H.mk [] [] []) = (AV.bool true, H.mk [] [] [])) (by kernel_rfl) ?_
  refine ⟨by first | exact acall_hit (c := c19.to) (t, r) _ rfl h1 | exact acall_hit (c := c19.to) (s, q) _ rfl hq, ?_⟩
  refine ⟨acall_hit (c := c18f.to) (cut t, rcl r) _ rfl p18, ?_⟩
  refine ⟨by first | exact acall_hit (c := c19.to) (t, r) _ rfl h1 | exact acall_hit (c := c19.to) (s, q) _ rfl hq, ?_⟩
  refine ⟨acall_hit (c := c20f.to) (cut s, rcl q) _ rfl p20, ?_⟩
  refine ⟨acall_b (acall_hit (c := c21m.to) ((t, t.length), r) _ rfl p21) hb, ?_⟩
  refine ⟨acall_b (acall_hit (c := c21m.to) ((t, t.length), r) _ rfl p21) hb, ?_⟩
  refine ⟨acall_hit (c := c24.to) () _ rfl trivial, ?_⟩
  refine ⟨acall_b (acall_hit (c := c25.to) (s, q) _ rfl p25) hsb, ?_⟩
  first | rfl | (exfalso; assumption)
theorem scores_ok (t : List Int) (q : RK) (h1 : t.length ≤ Go.maxLen) (h2 : q.mt = true → t = []) (h3 : inI t) (s : List Int) (k : RK) (h4 : s.length ≤ Go.maxLen) (h5 : k.mt = true → s = []) : CallOk Tryd.prog 3 [ls t (rr q), ls s (rr k)] .nil (.bool true) .nil := by
  have hp := pL_rr h1 h2 h3
  have hq : pS8 s (rr k) := by
    refine ⟨Nat.le_trans h4 (by decide), fun hl e => ?_, fun e => ?_⟩
    · cases k <;> simp_all [rr, RK.mt]
    · cases k <;> simp_all [rr, RK.mt]
  by_cases h : Tn t
  · by_cases hs : SB s
    · cases hl : lanB s
      · exact (r3tn t _ s _ hp h hq hs hl).run ok3 (.pure _ (.pure _ (.pure _ (.pure _ (.pure _ (.pure _ (.pure _ (.pure _ (.pure _ (.nil)))))))))) rfl
      · exact (r3tt t _ s _ hp h hq hs hl).run ok3 (.pure _ (.pure _ (.pure _ (.pure _ (.pure _ (.pure _ (.pure _ (.pure _ (.pure _ (.pure _ (.nil))))))))))) rfl
    · exact (r3tf t _ s _ hp h hq hs).run ok3 (.pure _ (.pure _ (.pure _ (.pure _ (.pure _ (.pure _ (.pure _ (.pure _ (.nil))))))))) rfl
  · by_cases hs : SB s
    · cases hl : lanB s
      · exact (r3fn t _ s _ hp h hq hs hl).run ok3 (.pure _ (.pure _ (.pure _ (.pure _ (.pure _ (.pure _ (.pure _ (.nil)))))))) rfl
      · exact (r3ft t _ s _ hp h hq hs hl).run ok3 (.pure _ (.pure _ (.pure _ (.pure _ (.pure _ (.pure _ (.pure _ (.pure _ (.nil))))))))) rfl
    · exact (r3ff t _ s _ hp h hq hs).run ok3 (.pure _ (.pure _ (.pure _ (.pure _ (.pure _ (.pure _ (.nil))))))) rfl
end Go.Proofs.Rnk

