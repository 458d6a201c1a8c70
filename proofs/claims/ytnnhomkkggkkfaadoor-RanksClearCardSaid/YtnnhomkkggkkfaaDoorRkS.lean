/- Layer 2: the law of players without a cycle. -/
import Derived.Test.YtnnhomkkggkkfaaDoorRkR
import Derived.Test.YtnnhomkkggkkfaaDoorRkK
import Derived.KernelRfl
set_option linter.unusedSimpArgs false
set_option linter.unusedVariables false
set_option linter.unnecessarySimpa false
set_option maxHeartbeats 4000000
set_option maxRecDepth 100000
namespace Go.Proofs.Rnk
open Go Go.VM
open Go.Proofs.Sur (andn andn_bit andn_le i_wrap i_and i_or i_andn i_shl i_shr bit_01)

theorem sl_intsr {P : Program} {t : TypeId} (hu : (elemT P t).bind (sizeT P) = some 1) {l : List Int} {n : Nat} {r : Room} {j : Nat} {h : H} (hj : j < n) (hr : r ≠ .nil) :
    aSlice P t (.sl (ints l) n r) none (some (.int .i64 j)) none h = some (.sl (ints (l.take j)) j .no) := by
  obtain ⟨e, hu, hs, he⟩ := el1_of hu
  have hne : ¬ (j = n) := by omega
  have h1 : (j : Int) ≤ n := by omega
  simp [aSlice, intOf?, aBounds, he, hs, hr, hne, h1, ints, List.map_take]
theorem ok49 : FokM Tryd.prog none1 49 Tryd.f49 := ⟨mixed, by kernel_rfl, by kernel_rfl, by kernel_rfl, by kernel_rfl⟩
theorem r49t (t : List Int) (r : Room) (h : Tn t) (hr : rok t r) : Body (En6 cs49) none1 Tryd.f49 [ls t r] .nil (.tup [I (clr t : Nat), I 0], .nil) := by
  have h8 := h.s.2
  have hb := tn_t h
  have p56 : (lim t.length ∧ rok t r) ∧ inI t := ⟨⟨by simp only [lim]; omega, hr⟩, fun i _ => by have := h.s8 i; simp only [s8] at this; simp only [i64]; omega⟩
  have p77 : Tn t ∧ rok t r := ⟨h, hr⟩
  have p70 : t.length ≤ 8 ∧ rok t r := ⟨h8, hr⟩
  have ev0 : IntKind.i64.wrap (((alls t.length : Nat) : Int) + 1) = ((2 ^ t.length : Nat) : Int) := by
    have p8 := pow8 h8
    have p0 := Nat.two_pow_pos t.length
    have e : alls t.length = 2 ^ t.length - 1 := rfl
    rw [wr _ (by omega) (by omega)]; omega
  have lp := lp49 t h (cyc_al8 h) (cyc_rok t)
  refine body_s ([Ans.o (Orc.val 9 (AV.bool true) (H.mk [] [] [])), Ans.o (Orc.val 12 (AV.sl (trisA (cyc t)) (cyc t).length (rmz (3 : Nat) (cyc t)).wk) (H.mk [] [] [])), Ans.o (Orc.val 14 (I (↑(alls t.length) : Int)) (H.mk [] [] [])), Ans.o (Orc.val 15 (I (↑((2 : Nat) ^ t.length) : Int)) H.nil), Ans.loop [(4 : Nat), (5 : Nat), (15 : Nat), (16 : Nat)] [Out.mk Unit (AX.exit (0 : Nat)) [(5 : Nat)] (fun x => True) (fun x => [I (↑(clr t) : Int)]) (fun x => H.nil) fun y => []]]) (aCall (Sof cs49) (AV.fn (Fn.func (56 : Nat)) [] []) [AV.sl (ints t) t.length r] (H.mk [] [] []) = some (AV.bool true, H.mk [] [] []) ∧ aCall (Sof cs49) (AV.fn (Fn.func (77 : Nat)) [] []) [AV.sl (ints t) t.length r] (H.mk [] [] []) = some (AV.sl (trisA (cyc t)) (cyc t).length (rmz (3 : Nat) (cyc t)).wk, H.mk [] [] []) ∧ aCall (Sof cs49) (AV.fn (Fn.func (70 : Nat)) [] []) [AV.sl (ints t) t.length r] (H.mk [] [] []) = some (I (↑(alls t.length) : Int), H.mk [] [] []) ∧ aBin Tryd.prog BinOp.add (3 : Nat) (I (↑(alls t.length) : Int)) (I 1) = some (I (↑((2 : Nat) ^ t.length) : Int)) ∧ LoopS (Env.mk Tryd.prog (Sof cs49) (Pof (P := Tryd.prog) []) H.nil.base (300 : Nat)) (loopAt Tryd.f49 (0 : Nat)) (30 : Nat) [(4 : Nat), (5 : Nat), (15 : Nat), (16 : Nat)] [AV.sl (trisA (cyc t)) (cyc t).length (rmz (3 : Nat) (cyc t)).wk, I 0, I (↑((2 : Nat) ^ t.length) : Int), I 0] (H.mk [] [] []) [Out.mk Unit (AX.exit (0 : Nat)) [(5 : Nat)] (fun x => True) (fun x => [I (↑(clr t) : Int)]) (fun x => H.nil) fun y => []] ∧ (∀ (y : Unit), True → ∀ (u : Nat → AV), (AV.tup [I (↑(clr t) : Int), I 0], H.mk [] [] []) = (AV.tup [I (↑(clr t) : Int), I 0], H.mk [] [] [])) ∧ True) (by kernel_rfl) ?_
  refine ⟨acall_b (acall_hit (c := c56.to) (t, r) _ rfl p56) hb, ?_⟩
  refine ⟨acall_hit (c := c77.to) (t, r) _ rfl p77, ?_⟩
  refine ⟨acall_hit (c := c70.to) (t, r) _ rfl p70, ?_⟩
  refine ⟨told_add (by with_reducible assumption), ?_⟩
  refine ⟨lp, ?_⟩
  refine And.intro ?_ ?_
  · skip
    intro y
    intro w1
    intro u
    first | with_reducible rfl | (refine bleaf_t ?_; omega) | (refine bleaf_f ?_; omega) | (refine ileaf ?_; omega) | rfl | (exfalso; omega)
  · skip
    trivial
noncomputable def c49t : PCtr Tryd.prog := sctr ok49 (X := List Int × Room) (fun x => [ls x.1 x.2]) (fun x => Tn x.1 ∧ rok x.1 x.2) (fun x => .tup [I (clr x.1 : Nat), I 0]) (by intro x y e _ _; simp at e; simp [e]) (fun x => by simp [AV.bnds, AV.bnd, AV.wk, rm_wk_bnd]) (fun x => by first | rfl | simp [AV.bnd, AV.bnds]) (fun x hx => ⟨_, _, _, ct49, r49t x.1 x.2.wk hx.1 (by simpa using hx.2)⟩)
theorem ok49f : FokM Tryd.prog none1 49 Tryd.f49 := ⟨mixed, by kernel_rfl, by kernel_rfl, by kernel_rfl, by kernel_rfl⟩
theorem r49f (t : List Int) (r : Room) (hp : (lim t.length ∧ rok t r ∧ inI t) ∧ ¬ Tn t) : Body ⟨Tryd.prog, Sof (P := Tryd.prog) [c56.to], Pof (P := Tryd.prog) [], H.nil.base, 300⟩ none1 Tryd.f49 [ls t r] .nil (.tup [I 0, I 2], .nil) := by
  obtain ⟨⟨h1, hr, h3⟩, hn⟩ := hp
  have hb := tn_f hn
  have p56 : (lim t.length ∧ rok t r) ∧ inI t := ⟨⟨h1, hr⟩, h3⟩
  refine body_s ([Ans.o (Orc.val 9 (AV.bool false) (H.mk [] [] []))]) (aCall (Sof [c56.to]) (AV.fn (Fn.func (56 : Nat)) [] []) [AV.sl (ints t) t.length r] (H.mk [] [] []) = some (AV.bool false, H.mk [] [] []) ∧ (AV.tup [I 0, I 2], H.mk [] [] []) = (AV.tup [I 0, I 2], H.mk [] [] [])) (by kernel_rfl) ?_
  refine ⟨acall_b (acall_hit (c := c56.to) (t, r) _ rfl p56) hb, ?_⟩
  first | with_reducible rfl | (refine bleaf_t ?_; omega) | (refine bleaf_f ?_; omega) | (refine ileaf ?_; omega) | rfl | (exfalso; omega)
noncomputable def c49f : PCtr Tryd.prog := sctr ok49f (X := List Int × Room) (fun x => [ls x.1 x.2]) (fun x => (lim x.1.length ∧ rok x.1 x.2 ∧ inI x.1) ∧ ¬ Tn x.1) (fun x => .tup [I 0, I 2]) (by intro x y e _ _; simp [Int.natCast_inj] at e; simp [e]) (fun x => by simp [AV.bnds, AV.bnd, AV.wk, rm_wk_bnd]) (fun x => by first | rfl | (simp [AV.bnd, rm_wk_bnd]; done)  | (simp [AV.bnd, AV.bnds, rm_wk_bnd]; done) | simp [AV.bnd, AV.bnds, Room.bnd, rm_wk_bnd]) (fun x hx => ⟨_, _, _, .pure c56 (.nil), r49f (x.1) (x.2).wk (by first | exact hx | (simp only [rok_wk]; exact hx) | (simp only [rok_wk, lst_wk]; exact hx) | (simp only [rok_wk, lst_wk, lsn_wk]; exact hx))⟩)
theorem ok17 : FokM Tryd.prog none1 17 Tryd.f17 := ⟨mixed, by kernel_rfl, by kernel_rfl, by kernel_rfl, by kernel_rfl⟩
theorem r17f (t : List Int) (r : Room) (hp : pL t r) (h : ¬ Tn t) : Body (En6 [c19.to, c49f.to, c24.to]) none1 Tryd.f17 [ls t r] .nil (.bool true, .nil) := by
  obtain ⟨h1, h2⟩ := hp
  have p49 : (lim (cut t).length ∧ rok (cut t) (rcl r) ∧ inI (cut t)) ∧ ¬ Tn (cut t) := ⟨⟨cut_lim t, fun hne => rcl_rok h1.2.1 (fun e => hne (by rw [e]; rfl)), cut_in h2⟩, cut_tn h⟩
  refine body_s ([Ans.o (Orc.val 14 (AV.sl (ints (cut t)) (cut t).length (rcl r)) (H.mk [] [] [])), Ans.o (Orc.val 15 (AV.tup [I 0, I 2]) (H.mk [] [] [])), Ans.o Orc.dflt, Ans.o Orc.dflt, Ans.o (Orc.val 28 (AV.bool true) (H.mk [] [] []))]) (aCall (Sof [c19.to, c49f.to, c24.to]) (AV.fn (Fn.func (19 : Nat)) [] []) [AV.sl (ints t) t.length r] (H.mk [] [] []) = some (AV.sl (ints (cut t)) (cut t).length (rcl r), H.mk [] [] []) ∧ aCall (Sof [c19.to, c49f.to, c24.to]) (AV.fn (Fn.func (49 : Nat)) [] []) [AV.sl (ints (cut t)) (cut t).length (rcl r)] (H.mk [] [] []) = some (AV.tup [I 0, I 2], H.mk [] [] []) ∧ aCall (Sof [c19.to, c49f.to, c24.to]) (AV.fn (Fn.func (24 : Nat)) [] []) [] (H.mk [] [] []) = some (AV.bool true, H.mk [] [] []) ∧ (AV.bool true, H.mk [] [] []) = (AV.bool true, H.mk [] [] [])) (by kernel_rfl) ?_
  refine ⟨acall_hit (c := c19.to) (t, r) _ rfl h1, ?_⟩
  refine ⟨acall_hit (c := c49f.to) (cut t, rcl r) _ rfl p49, ?_⟩
  refine ⟨acall_hit (c := c24.to) () _ rfl trivial, ?_⟩
  first | with_reducible rfl | (refine bleaf_t ?_; omega) | (refine bleaf_f ?_; omega) | (refine ileaf ?_; omega) | rfl | (exfalso; omega)
noncomputable abbrev cs17 : List (Ctr Tryd.prog) := [c19s.to, c49t.to, c41t.to, c21.to, c24.to]
theorem ct17 : Ctrs Tryd.prog none1 cs17 := .pure _ (.pure _ (.pure _ (.pure _ (.pure _ .nil))))
abbrev lsA (l : List Int) : AV := .sl (ints l) l.length (rm 0 l)
abbrev lsH (l : List Int) : H := ⟨[], tk l, []⟩
abbrev o17k (t : List Int) (k : Nat) : List Out := [.mk Unit (.exit 0) [3, 7] (fun _ => True) (fun _ => [I (clr t : Nat), lsA (less t k k)]) (fun _ => lsH (less t k k)) (fun _ => [])]
theorem simp17 : allSimpleM none1 (loopAt Tryd.f17 0) = true := by kernel_rfl
theorem lp17 (t : List Int) (h : Tn t) (k : Nat) (hk : t.length = k + 1) (h1 : 1 ≤ k) :
    LoopS (En6 cs17) (loopAt Tryd.f17 0) 124 [3, 7, 8, 88, 89, 90] [I (clr t : Nat), .sl [] 0 .nil, I k, .sl (ints (t.take k)) k .no, I k, I 0] .nil (o17k t k) := by
  have hR : Rests (En6 cs17) none1 := rests mixed ct17
  have h8 := h.s.2
  have ek : t.length - 1 = k := by omega
  refine loop_s hR simp17 none (by intro _ h; cases h) (fun j vs h => h = lsH (less t k j) ∧ vs = [I (clr t : Nat), lsA (less t k j), I k, .sl (ints (t.take k)) k .no, I k, I j]) k ⟨rfl, rfl⟩ (by intro _ h; cases h) ?_
  rintro j vs h' hj ⟨rfl, rfl⟩
  by_cases hz : (j : Int) < k
  · have hz' : j < k := by omega
    have ev0 := wj1 (j := j) (by omega)
    have ev1 := pw_shl (n := k) (by omega)
    have ev2 := pw_alls (n := k) (by omega)
    have hlen : (less t k j).length ≤ 1000000000 := by rw [less_len]; omega
    have hsn := h.sn j
    have hjt : j < (t.take k).length := by rw [List.length_take]; omega
    have hg : (t.take k).getD j i0 = ia t j := by simp only [ia, List.getD_eq_getElem?_getD, List.getElem?_take, if_pos hz']
    have ha : alls k < 256 := by have := pow8 (show k ≤ 8 by omega); have := Nat.two_pow_pos k; have : alls k = 2 ^ k - 1 := rfl; omega
    have ev3 : IntKind.i64.wrap ((BitVec.ofInt IntKind.i64.bits ((t.take k).getD j i0) &&& BitVec.ofInt IntKind.i64.bits ((alls k : Nat) : Int)).toNat : Int) = ((sn t j &&& alls k : Nat) : Int) := by
      have := i_and (a := sn t j) (b := alls k) (by omega) (by omega)
      rw [hsn.2, ← hg] at this
      exact this
    have hap : aAppend Tryd.prog 22 22 (.sl (ints (less t k j)) (less t k j).length (rm 0 (less t k j))) (.sl [I (sn t j &&& alls k : Nat)] 1 .full) ⟨[], tk (less t k j), []⟩ = some (.sl (ints (less t k (j + 1))) (less t k (j + 1)).length (rm 0 (less t k (j + 1))), ⟨[], tk (less t k (j + 1)), []⟩) := app_ints (by kernel_rfl) hlen
    refine ⟨[Ans.o (Orc.b true), Ans.o (Orc.val 92 (AV.cptr (ints (List.drop j (List.take k t)))) H.nil), Ans.o (Orc.val 93 (I ((List.take k t).getD j i0)) H.nil), Ans.o (Orc.val 97 (I (↑((2 : Nat) ^ k) : Int)) H.nil), Ans.o (Orc.val 98 (I (↑(alls k) : Int)) H.nil), Ans.o (Orc.val 99 (I (↑(sn t j &&& alls k) : Int)) H.nil), Ans.o (Orc.val 101 (AV.sl (ints (less t k (j + (1 : Nat)))) (less t k (j + (1 : Nat))).length (rm (0 : Nat) (less t k (j + (1 : Nat))))) (H.mk [] (tk (less t k (j + (1 : Nat)))) [])), Ans.o (Orc.val 102 (I (↑(j + (1 : Nat)) : Int)) H.nil)], fun u => of_eq ((↑j : Int) < (↑k : Int) ∧ aIndexAddr Tryd.prog (22 : Nat) (AV.sl (ints (List.take k t)) k Room.no) (I (↑j : Int)) = some (AV.cptr (ints (List.drop j (List.take k t)))) ∧ aLoad Tryd.prog (3 : Nat) (ints (List.drop j (List.take k t))) = some (I ((List.take k t).getD j i0)) ∧ aBin Tryd.prog BinOp.shl (3 : Nat) (I 1) (I (↑k : Int)) = some (I (↑((2 : Nat) ^ k) : Int)) ∧ aBin Tryd.prog BinOp.sub (3 : Nat) (I (↑((2 : Nat) ^ k) : Int)) (I 1) = some (I (↑(alls k) : Int)) ∧ aBin Tryd.prog BinOp.and (3 : Nat) (I ((List.take k t).getD j i0)) (I (↑(alls k) : Int)) = some (I (↑(sn t j &&& alls k) : Int)) ∧ aAppend Tryd.prog (22 : Nat) (22 : Nat) (AV.sl (ints (less t k j)) (less t k j).length (rm (0 : Nat) (less t k j))) (AV.sl [I (↑(sn t j &&& alls k) : Int)] (1 : Nat) Room.full) (H.mk [] (tk (less t k j)) []) = some (AV.sl (ints (less t k (j + (1 : Nat)))) (less t k (j + (1 : Nat))).length (rm (0 : Nat) (less t k (j + (1 : Nat)))), H.mk [] (tk (less t k (j + (1 : Nat)))) []) ∧ aBin Tryd.prog BinOp.add (3 : Nat) (I (↑j : Int)) (I 1) = some (I (↑(j + (1 : Nat)) : Int)) ∧ (124 : Nat) = (124 : Nat) ∧ j < k ∧ Keep (H.mk [] (tk (less t k (j + (1 : Nat)))) [] = H.mk [] (tk (less t k (j + (1 : Nat)))) [] ∧ [I (↑(clr t) : Int), AV.sl (ints (less t k (j + (1 : Nat)))) (less t k (j + (1 : Nat))).length (rm (0 : Nat) (less t k (j + (1 : Nat)))), I (↑k : Int), AV.sl (ints (List.take k t)) k Room.no, I (↑k : Int), I (↑(j + (1 : Nat)) : Int)] = [I (↑(clr t) : Int), AV.sl (ints (less t k (j + (1 : Nat)))) (less t k (j + (1 : Nat))).length (rm (0 : Nat) (less t k (j + (1 : Nat)))), I (↑k : Int), AV.sl (ints (List.take k t)) k Room.no, I (↑k : Int), I (↑(j + (1 : Nat)) : Int)])) (by kernel_rfl) ?_⟩
    refine ⟨by first | with_reducible assumption | omega | assumption, ?_⟩
    refine ⟨ix_ints (by kernel_rfl) hz' (by decide), ?_⟩
    refine ⟨ld_ints (by kernel_rfl) (by kernel_rfl) hjt, ?_⟩
    refine ⟨by first | exact told_shl (by first | exact Int.natCast_nonneg _ | omega) (by with_reducible assumption) | exact told_shl (by omega) rfl, ?_⟩
    refine ⟨told_sub (by with_reducible assumption), ?_⟩
    refine ⟨told_and (by with_reducible assumption), ?_⟩
    refine ⟨hap, ?_⟩
    refine ⟨told_add (by with_reducible assumption), ?_⟩
    refine ⟨by first | with_reducible assumption | omega | assumption, ?_⟩
    refine ⟨by first | with_reducible assumption | omega | assumption, ?_⟩
    exact ⟨rfl, rfl⟩
  · have hz : (k : Int) ≤ j := by omega
    have e : j = k := by omega
    subst e
    refine ⟨[Ans.o (Orc.b false)], fun u => of_eq ((↑j : Int) ≤ (↑j : Int) ∧ (124 : Nat) = (124 : Nat) ∧ hits [Out.mk Unit (AX.exit (0 : Nat)) [(3 : Nat), (7 : Nat)] (fun x => True) (fun x => [I (↑(clr t) : Int), lsA (less t j j)]) (fun x => lsH (less t j j)) fun x => []] (AX.exit (0 : Nat)) [u (0 : Nat), u (1 : Nat), u (2 : Nat), I (↑(clr t) : Int), u (4 : Nat), u (5 : Nat), u (6 : Nat), AV.sl (ints (less t j j)) (less t j j).length (rm (0 : Nat) (less t j j)), I (↑j : Int), u (9 : Nat), u (10 : Nat), u (11 : Nat), u (12 : Nat), u (13 : Nat), u (14 : Nat), u (15 : Nat), u (16 : Nat), u (17 : Nat), u (18 : Nat), u (19 : Nat), u (20 : Nat), u (21 : Nat), u (22 : Nat), u (23 : Nat), u (24 : Nat), u (25 : Nat), u (26 : Nat), u (27 : Nat), u (28 : Nat), u (29 : Nat), u (30 : Nat), u (31 : Nat), u (32 : Nat), u (33 : Nat), u (34 : Nat), u (35 : Nat), u (36 : Nat), u (37 : Nat), u (38 : Nat), u (39 : Nat), u (40 : Nat), u (41 : Nat), u (42 : Nat), u (43 : Nat), u (44 : Nat), u (45 : Nat), u (46 : Nat), u (47 : Nat), u (48 : Nat), u (49 : Nat), u (50 : Nat), u (51 : Nat), u (52 : Nat), u (53 : Nat), u (54 : Nat), u (55 : Nat), u (56 : Nat), u (57 : Nat), u (58 : Nat), u (59 : Nat), u (60 : Nat), u (61 : Nat), u (62 : Nat), u (63 : Nat), u (64 : Nat), u (65 : Nat), u (66 : Nat), u (67 : Nat), u (68 : Nat), u (69 : Nat), u (70 : Nat), u (71 : Nat), u (72 : Nat), u (73 : Nat), u (74 : Nat), u (75 : Nat), u (76 : Nat), u (77 : Nat), u (78 : Nat), u (79 : Nat), u (80 : Nat), u (81 : Nat), u (82 : Nat), u (83 : Nat), u (84 : Nat), u (85 : Nat), u (86 : Nat), u (87 : Nat), AV.sl (ints (List.take j t)) j Room.no, I (↑j : Int), I (↑j : Int), AV.bool false, u (92 : Nat), u (93 : Nat), u (94 : Nat), u (95 : Nat), u (96 : Nat), u (97 : Nat), u (98 : Nat), u (99 : Nat), u (100 : Nat), u (101 : Nat), u (102 : Nat), u (103 : Nat), u (104 : Nat), u (105 : Nat), u (106 : Nat), u (107 : Nat), u (108 : Nat), u (109 : Nat), u (110 : Nat), u (111 : Nat), u (112 : Nat), u (113 : Nat), u (114 : Nat), u (115 : Nat), u (116 : Nat), u (117 : Nat), u (118 : Nat), u (119 : Nat), u (120 : Nat), u (121 : Nat), u (122 : Nat), u (123 : Nat)] (H.mk [] (tk (less t j j)) [])) (by kernel_rfl) ?_⟩
    refine ⟨by first | with_reducible assumption | omega | assumption, ?_⟩
    refine ⟨by first | with_reducible assumption | omega | assumption, ?_⟩
    exact .inl ⟨(), trivial, rfl, rfl, rfl⟩
theorem r17_1t (t : List Int) (r : Room) (hp : pL t r) (h : Tn t) (hn : t.length = 1) (hc : cyc t = []) : Body (En6 cs17) none1 Tryd.f17 [ls t r] .nil (.bool true, .nil) := by
  obtain ⟨h1, h2⟩ := hp
  have h8 := h.s.2
  have h0 := h.s.1
  have hr := h1.2.1
  have hb := tn_t h
  have p19 : (lim t.length ∧ rok t r ∧ em t r) ∧ t.length ≤ 11 := ⟨h1, by omega⟩
  have p49 : Tn t ∧ rok t (rcl r) := ⟨h, rcl_rok hr⟩
  have p21 : lim t.length ∧ rok t r := ⟨h1.1, hr⟩
  have q1 := clr_le h
  have q2 : min t.length 2 ≤ clr t := by
    rcases Nat.lt_or_ge t.length 2 with w | w
    · have := clr_tame h (m := 0) (by omega); omega
    · have := clr_tame h (m := 1) (by omega); omega
  have ev0 : pick2 false (t.length : Int) 2 = ((min t.length 2 : Nat) : Int) := by
    simp only [pick2, Bool.false_eq_true, if_false]; split <;> omega
  have g1 : ((min t.length 2 : Nat) : Int) ≤ ((clr t : Nat) : Int) := by omega
  have g2 : ((clr t : Nat) : Int) ≤ (t.length : Int) := by omega
  have g3 : (t.length : Int) < 4 := by omega
  have g4 : (t.length : Int) < 8 := by omega
  have g7 : (t.length : Int) = 1 := by omega
  have g5 : ((cyc t).length : Int) = 0 := by rw [hc]; rfl
  have g6 : ((clr t : Nat) : Int) = (t.length : Int) := by rw [(clr_all h).2 hc]
  refine body_s ([Ans.o (Orc.val 14 (AV.sl (ints t) t.length (rcl r)) (H.mk [] [] [])), Ans.o (Orc.val 15 (AV.tup [I (↑(clr t) : Int), I 0]) (H.mk [] [] [])), Ans.o Orc.dflt, Ans.o (Orc.val 22 (AV.bool true) (H.mk [] [] [])), Ans.o (Orc.val 32 (AV.sl (ints t) t.length (rcl r)) (H.mk [] [] [])), Ans.o (Orc.val 33 (AV.tup [AV.sl (trisA (cyc t)) (cyc t).length (cR t), I 0]) (H.mk [] [] [])), Ans.o Orc.dflt, Ans.o (Orc.val 42 (I (↑(min t.length (2 : Nat)) : Int)) (H.mk [] [] [])), Ans.o (Orc.b false), Ans.o (Orc.b false), Ans.o (Orc.b false), Ans.o (Orc.b false), Ans.o (Orc.b true), Ans.o (Orc.b true), Ans.o (Orc.b true), Ans.o (Orc.val 82 (AV.bool true) (H.mk [] [] []))]) (aCall (Sof cs17) (AV.fn (Fn.func (19 : Nat)) [] []) [AV.sl (ints t) t.length r] (H.mk [] [] []) = some (AV.sl (ints t) t.length (rcl r), H.mk [] [] []) ∧ aCall (Sof cs17) (AV.fn (Fn.func (49 : Nat)) [] []) [AV.sl (ints t) t.length (rcl r)] (H.mk [] [] []) = some (AV.tup [I (↑(clr t) : Int), I 0], H.mk [] [] []) ∧ aCall (Sof cs17) (AV.fn (Fn.func (21 : Nat)) [] []) [AV.sl (ints t) t.length r] (H.mk [] [] []) = some (AV.bool true, H.mk [] [] []) ∧ aCall (Sof cs17) (AV.fn (Fn.func (19 : Nat)) [] []) [AV.sl (ints t) t.length r] (H.mk [] [] []) = some (AV.sl (ints t) t.length (rcl r), H.mk [] [] []) ∧ aCall (Sof cs17) (AV.fn (Fn.func (41 : Nat)) [] []) [AV.sl (ints t) t.length (rcl r)] (H.mk [] [] []) = some (AV.tup [AV.sl (trisA (cyc t)) (cyc t).length (cR t), I 0], H.mk [] [] []) ∧ aMin false [I (↑t.length : Int), I 2] = some (I (↑(min t.length (2 : Nat)) : Int)) ∧ (↑(min t.length (2 : Nat)) : Int) ≤ (↑(clr t) : Int) ∧ (↑(clr t) : Int) ≤ (↑t.length : Int) ∧ (↑t.length : Int) < (4 : Int) ∧ (↑t.length : Int) < (8 : Int) ∧ (↑(clr t) : Int) = (↑t.length : Int) ∧ (↑(cyc t).length : Int) = (0 : Int) ∧ (↑t.length : Int) = (1 : Int) ∧ aCall (Sof cs17) (AV.fn (Fn.func (24 : Nat)) [] []) [] (H.mk [] [] []) = some (AV.bool true, H.mk [] [] []) ∧ (AV.bool true, H.mk [] [] []) = (AV.bool true, H.mk [] [] [])) (by kernel_rfl) ?_
  refine ⟨acall_hit (c := c19s.to) (t, r) _ rfl p19, ?_⟩
  refine ⟨acall_hit (c := c49t.to) (t, rcl r) _ rfl p49, ?_⟩
  refine ⟨acall_b (acall_hit (c := c21.to) (t, r) _ rfl p21) hb, ?_⟩
  refine ⟨acall_hit (c := c19s.to) (t, r) _ rfl p19, ?_⟩
  refine ⟨acall_hit (c := c41t.to) (t, rcl r) _ rfl p49, ?_⟩
  refine ⟨congrArg (fun z => some (I z)) ev0, ?_⟩
  refine ⟨by first | with_reducible assumption | omega | assumption, ?_⟩
  refine ⟨by first | with_reducible assumption | omega | assumption, ?_⟩
  refine ⟨by first | with_reducible assumption | omega | assumption, ?_⟩
  refine ⟨by first | with_reducible assumption | omega | assumption, ?_⟩
  refine ⟨by first | with_reducible assumption | omega | assumption, ?_⟩
  refine ⟨by first | with_reducible assumption | omega | assumption, ?_⟩
  refine ⟨by first | with_reducible assumption | omega | assumption, ?_⟩
  refine ⟨acall_hit (c := c24.to) () _ rfl trivial, ?_⟩
  first | with_reducible rfl | (refine bleaf_t ?_; omega) | (refine bleaf_f ?_; omega) | (refine ileaf ?_; omega) | rfl | (exfalso; omega)
theorem r17_1f (t : List Int) (r : Room) (hp : pL t r) (h : Tn t) (hn : t.length = 1) (hc : ¬ cyc t = []) : Body (En6 cs17) none1 Tryd.f17 [ls t r] .nil (.bool true, .nil) := by
  obtain ⟨h1, h2⟩ := hp
  have h8 := h.s.2
  have h0 := h.s.1
  have hr := h1.2.1
  have hb := tn_t h
  have p19 : (lim t.length ∧ rok t r ∧ em t r) ∧ t.length ≤ 11 := ⟨h1, by omega⟩
  have p49 : Tn t ∧ rok t (rcl r) := ⟨h, rcl_rok hr⟩
  have p21 : lim t.length ∧ rok t r := ⟨h1.1, hr⟩
  have q1 := clr_le h
  have q2 : min t.length 2 ≤ clr t := by
    rcases Nat.lt_or_ge t.length 2 with w | w
    · have := clr_tame h (m := 0) (by omega); omega
    · have := clr_tame h (m := 1) (by omega); omega
  have ev0 : pick2 false (t.length : Int) 2 = ((min t.length 2 : Nat) : Int) := by
    simp only [pick2, Bool.false_eq_true, if_false]; split <;> omega
  have g1 : ((min t.length 2 : Nat) : Int) ≤ ((clr t : Nat) : Int) := by omega
  have g2 : ((clr t : Nat) : Int) ≤ (t.length : Int) := by omega
  have g3 : (t.length : Int) < 4 := by omega
  have g4 : (t.length : Int) < 8 := by omega
  have g7 : (t.length : Int) = 1 := by omega
  have g5 : ((cyc t).length : Int) ≠ 0 := fun e => hc (List.length_eq_zero_iff.1 (by omega))
  have g6 : ((clr t : Nat) : Int) ≠ (t.length : Int) := fun e => hc ((clr_all h).1 (by omega))
  refine body_s ([Ans.o (Orc.val 14 (AV.sl (ints t) t.length (rcl r)) (H.mk [] [] [])), Ans.o (Orc.val 15 (AV.tup [I (↑(clr t) : Int), I 0]) (H.mk [] [] [])), Ans.o Orc.dflt, Ans.o (Orc.val 22 (AV.bool true) (H.mk [] [] [])), Ans.o (Orc.val 32 (AV.sl (ints t) t.length (rcl r)) (H.mk [] [] [])), Ans.o (Orc.val 33 (AV.tup [AV.sl (trisA (cyc t)) (cyc t).length (cR t), I 0]) (H.mk [] [] [])), Ans.o Orc.dflt, Ans.o (Orc.val 42 (I (↑(min t.length (2 : Nat)) : Int)) (H.mk [] [] [])), Ans.o (Orc.b false), Ans.o (Orc.b false), Ans.o (Orc.b false), Ans.o (Orc.b false), Ans.o (Orc.b false), Ans.o (Orc.b false), Ans.o (Orc.b true), Ans.o (Orc.val 82 (AV.bool true) (H.mk [] [] []))]) (aCall (Sof cs17) (AV.fn (Fn.func (19 : Nat)) [] []) [AV.sl (ints t) t.length r] (H.mk [] [] []) = some (AV.sl (ints t) t.length (rcl r), H.mk [] [] []) ∧ aCall (Sof cs17) (AV.fn (Fn.func (49 : Nat)) [] []) [AV.sl (ints t) t.length (rcl r)] (H.mk [] [] []) = some (AV.tup [I (↑(clr t) : Int), I 0], H.mk [] [] []) ∧ aCall (Sof cs17) (AV.fn (Fn.func (21 : Nat)) [] []) [AV.sl (ints t) t.length r] (H.mk [] [] []) = some (AV.bool true, H.mk [] [] []) ∧ aCall (Sof cs17) (AV.fn (Fn.func (19 : Nat)) [] []) [AV.sl (ints t) t.length r] (H.mk [] [] []) = some (AV.sl (ints t) t.length (rcl r), H.mk [] [] []) ∧ aCall (Sof cs17) (AV.fn (Fn.func (41 : Nat)) [] []) [AV.sl (ints t) t.length (rcl r)] (H.mk [] [] []) = some (AV.tup [AV.sl (trisA (cyc t)) (cyc t).length (cR t), I 0], H.mk [] [] []) ∧ aMin false [I (↑t.length : Int), I 2] = some (I (↑(min t.length (2 : Nat)) : Int)) ∧ (↑(min t.length (2 : Nat)) : Int) ≤ (↑(clr t) : Int) ∧ (↑(clr t) : Int) ≤ (↑t.length : Int) ∧ (↑t.length : Int) < (4 : Int) ∧ (↑t.length : Int) < (8 : Int) ∧ (↑(clr t) : Int) ≠ (↑t.length : Int) ∧ (↑(cyc t).length : Int) ≠ (0 : Int) ∧ (↑t.length : Int) = (1 : Int) ∧ aCall (Sof cs17) (AV.fn (Fn.func (24 : Nat)) [] []) [] (H.mk [] [] []) = some (AV.bool true, H.mk [] [] []) ∧ (AV.bool true, H.mk [] [] []) = (AV.bool true, H.mk [] [] [])) (by kernel_rfl) ?_
  refine ⟨acall_hit (c := c19s.to) (t, r) _ rfl p19, ?_⟩
  refine ⟨acall_hit (c := c49t.to) (t, rcl r) _ rfl p49, ?_⟩
  refine ⟨acall_b (acall_hit (c := c21.to) (t, r) _ rfl p21) hb, ?_⟩
  refine ⟨acall_hit (c := c19s.to) (t, r) _ rfl p19, ?_⟩
  refine ⟨acall_hit (c := c41t.to) (t, rcl r) _ rfl p49, ?_⟩
  refine ⟨congrArg (fun z => some (I z)) ev0, ?_⟩
  refine ⟨by first | with_reducible assumption | omega | assumption, ?_⟩
  refine ⟨by first | with_reducible assumption | omega | assumption, ?_⟩
  refine ⟨by first | with_reducible assumption | omega | assumption, ?_⟩
  refine ⟨by first | with_reducible assumption | omega | assumption, ?_⟩
  refine ⟨by first | with_reducible assumption | omega | assumption, ?_⟩
  refine ⟨by first | with_reducible assumption | omega | assumption, ?_⟩
  refine ⟨by first | with_reducible assumption | omega | assumption, ?_⟩
  refine ⟨acall_hit (c := c24.to) () _ rfl trivial, ?_⟩
  first | with_reducible rfl | (refine bleaf_t ?_; omega) | (refine bleaf_f ?_; omega) | (refine ileaf ?_; omega) | rfl | (exfalso; omega)
theorem r17_2t (t : List Int) (r : Room) (hp : pL t r) (h : Tn t) (hn : 2 ≤ t.length ∧ t.length < 4) (hc : cyc t = []) : Body (En6 cs17) none1 Tryd.f17 [ls t r] .nil (.bool true, .nil) := by
  obtain ⟨h1, h2⟩ := hp
  have h8 := h.s.2
  have h0 := h.s.1
  have hr := h1.2.1
  have hb := tn_t h
  have p19 : (lim t.length ∧ rok t r ∧ em t r) ∧ t.length ≤ 11 := ⟨h1, by omega⟩
  have p49 : Tn t ∧ rok t (rcl r) := ⟨h, rcl_rok hr⟩
  have p21 : lim t.length ∧ rok t r := ⟨h1.1, hr⟩
  have q1 := clr_le h
  have q2 : min t.length 2 ≤ clr t := by
    rcases Nat.lt_or_ge t.length 2 with w | w
    · have := clr_tame h (m := 0) (by omega); omega
    · have := clr_tame h (m := 1) (by omega); omega
  have ev0 : pick2 false (t.length : Int) 2 = ((min t.length 2 : Nat) : Int) := by
    simp only [pick2, Bool.false_eq_true, if_false]; split <;> omega
  have g1 : ((min t.length 2 : Nat) : Int) ≤ ((clr t : Nat) : Int) := by omega
  have g2 : ((clr t : Nat) : Int) ≤ (t.length : Int) := by omega
  obtain ⟨k, hk⟩ : ∃ k, t.length = k + 1 := ⟨t.length - 1, by omega⟩
  have hk1 : 1 ≤ k := by omega
  have hri : r ≠ .nil := rok_idx hr (show 0 < t.length by omega)
  have ek : t.length - 1 = k := by omega
  have g7 : (t.length : Int) ≠ 1 := by omega
  have hkt : k < t.length := by omega
  have ev1 : IntKind.i64.wrap ((t.length : Int) - 1) = (k : Int) := by rw [wr _ (by omega) (by omega)]; omega
  have g3 : (t.length : Int) < 4 := by omega
  have g4 : (t.length : Int) < 8 := by omega
  have g5 : ((cyc t).length : Int) = 0 := by rw [hc]; rfl
  have g6 : ((clr t : Nat) : Int) = (t.length : Int) := by rw [(clr_all h).2 hc]
  have hT := less_tn h hk1 hkt
  have hL := less_len t k k
  have pl49 : Tn (less t k k) ∧ rok (less t k k) (rm 0 (less t k k)) := ⟨hT, fun hne => by
    cases hq : less t k k with
    | nil => exact absurd hq hne
    | cons x l => intro e; cases e⟩
  have lp := lp17 t h k hk hk1
  have q4 := less_clr h (by omega)
  rw [ek] at q4
  have ev2 : IntKind.i64.wrap (((clr t : Nat) : Int) - 1) = ((clr t : Nat) : Int) - 1 := wr _ (by omega) (by omega)
  rcases q4 with q4 | q4
  · have g8 : ((clr (less t k k) : Nat) : Int) = ((clr t : Nat) : Int) := by rw [q4]
    refine body_s ([Ans.o (Orc.val 14 (AV.sl (ints t) t.length (rcl r)) (H.mk [] [] [])), Ans.o (Orc.val 15 (AV.tup [I (↑(clr t) : Int), I 0]) (H.mk [] [] [])), Ans.o Orc.dflt, Ans.o (Orc.val 22 (AV.bool true) (H.mk [] [] [])), Ans.o (Orc.val 32 (AV.sl (ints t) t.length (rcl r)) (H.mk [] [] [])), Ans.o (Orc.val 33 (AV.tup [AV.sl (trisA (cyc t)) (cyc t).length (cR t), I 0]) (H.mk [] [] [])), Ans.o Orc.dflt, Ans.o (Orc.val 42 (I (↑(min t.length (2 : Nat)) : Int)) (H.mk [] [] [])), Ans.o (Orc.b false), Ans.o (Orc.b false), Ans.o (Orc.b false), Ans.o (Orc.b false), Ans.o (Orc.b true), Ans.o (Orc.b true), Ans.o (Orc.b false), Ans.o (Orc.val 85 (I (↑k : Int)) H.nil), Ans.o (Orc.val 88 (AV.sl (ints (List.take k t)) k Room.no) H.nil), Ans.loop [(3 : Nat), (7 : Nat), (8 : Nat), (88 : Nat), (89 : Nat), (90 : Nat)] [Out.mk Unit (AX.exit (0 : Nat)) [(3 : Nat), (7 : Nat)] (fun x => True) (fun x => [I (↑(clr t) : Int), lsA (less t k k)]) (fun x => lsH (less t k k)) fun y => [Ans.o (Orc.val 105 (AV.tup [I (↑(clr (less t k k)) : Int), I 0]) (H.mk [] (tk (less t k k)) [])), Ans.o Orc.dflt, Ans.o (Orc.b true), Ans.o (Orc.val 122 (AV.bool true) (H.mk [] (tk (less t k k)) []))]]]) (aCall (Sof cs17) (AV.fn (Fn.func (19 : Nat)) [] []) [AV.sl (ints t) t.length r] (H.mk [] [] []) = some (AV.sl (ints t) t.length (rcl r), H.mk [] [] []) ∧ aCall (Sof cs17) (AV.fn (Fn.func (49 : Nat)) [] []) [AV.sl (ints t) t.length (rcl r)] (H.mk [] [] []) = some (AV.tup [I (↑(clr t) : Int), I 0], H.mk [] [] []) ∧ aCall (Sof cs17) (AV.fn (Fn.func (21 : Nat)) [] []) [AV.sl (ints t) t.length r] (H.mk [] [] []) = some (AV.bool true, H.mk [] [] []) ∧ aCall (Sof cs17) (AV.fn (Fn.func (19 : Nat)) [] []) [AV.sl (ints t) t.length r] (H.mk [] [] []) = some (AV.sl (ints t) t.length (rcl r), H.mk [] [] []) ∧ aCall (Sof cs17) (AV.fn (Fn.func (41 : Nat)) [] []) [AV.sl (ints t) t.length (rcl r)] (H.mk [] [] []) = some (AV.tup [AV.sl (trisA (cyc t)) (cyc t).length (cR t), I 0], H.mk [] [] []) ∧ aMin false [I (↑t.length : Int), I 2] = some (I (↑(min t.length (2 : Nat)) : Int)) ∧ (↑(min t.length (2 : Nat)) : Int) ≤ (↑(clr t) : Int) ∧ (↑(clr t) : Int) ≤ (↑t.length : Int) ∧ (↑t.length : Int) < (4 : Int) ∧ (↑t.length : Int) < (8 : Int) ∧ (↑(clr t) : Int) = (↑t.length : Int) ∧ (↑(cyc t).length : Int) = (0 : Int) ∧ (↑t.length : Int) ≠ (1 : Int) ∧ aBin Tryd.prog BinOp.sub (3 : Nat) (I (↑t.length : Int)) (I 1) = some (I (↑k : Int)) ∧ aSlice Tryd.prog (22 : Nat) (AV.sl (ints t) t.length r) none (some (I (↑k : Int))) none (H.mk [] [] []) = some (AV.sl (ints (List.take k t)) k Room.no) ∧ LoopS (Env.mk Tryd.prog (Sof cs17) (Pof (P := Tryd.prog) []) H.nil.base (300 : Nat)) (loopAt Tryd.f17 (0 : Nat)) (124 : Nat) [(3 : Nat), (7 : Nat), (8 : Nat), (88 : Nat), (89 : Nat), (90 : Nat)] [I (↑(clr t) : Int), AV.sl [] (0 : Nat) Room.nil, I (↑k : Int), AV.sl (ints (List.take k t)) k Room.no, I (↑k : Int), I 0] (H.mk [] [] []) [Out.mk Unit (AX.exit (0 : Nat)) [(3 : Nat), (7 : Nat)] (fun x => True) (fun x => [I (↑(clr t) : Int), lsA (less t k k)]) (fun x => lsH (less t k k)) fun y => [Ans.o (Orc.val 105 (AV.tup [I (↑(clr (less t k k)) : Int), I 0]) (H.mk [] (tk (less t k k)) [])), Ans.o Orc.dflt, Ans.o (Orc.b true), Ans.o (Orc.val 122 (AV.bool true) (H.mk [] (tk (less t k k)) []))]] ∧ (∀ (y : Unit), True → ∀ (u : Nat → AV), aCall (Sof cs17) (AV.fn (Fn.func (49 : Nat)) [] []) [AV.sl (ints (less t k k)) (less t k k).length (rm (0 : Nat) (less t k k))] (H.mk [] (tk (less t k k)) []) = some (AV.tup [I (↑(clr (less t k k)) : Int), I 0], H.mk [] (tk (less t k k)) []) ∧ (↑(clr (less t k k)) : Int) = (↑(clr t) : Int) ∧ aCall (Sof cs17) (AV.fn (Fn.func (24 : Nat)) [] []) [] (H.mk [] (tk (less t k k)) []) = some (AV.bool true, H.mk [] (tk (less t k k)) []) ∧ (AV.bool true, H.mk [] [] []) = (AV.bool true, H.mk [] [] [])) ∧ True) (by kernel_rfl) ?_
    refine ⟨acall_hit (c := c19s.to) (t, r) _ rfl p19, ?_⟩
    refine ⟨by first | exact acall_hit (c := c49t.to) (t, rcl r) _ rfl p49 | exact acall_hit (c := c49t.to) (less t k k, rm 0 (less t k k)) _ rfl pl49, ?_⟩
    refine ⟨acall_b (acall_hit (c := c21.to) (t, r) _ rfl p21) hb, ?_⟩
    refine ⟨acall_hit (c := c19s.to) (t, r) _ rfl p19, ?_⟩
    refine ⟨acall_hit (c := c41t.to) (t, rcl r) _ rfl p49, ?_⟩
    refine ⟨congrArg (fun z => some (I z)) ev0, ?_⟩
    refine ⟨by first | with_reducible assumption | omega | assumption, ?_⟩
    refine ⟨by first | with_reducible assumption | omega | assumption, ?_⟩
    refine ⟨by first | with_reducible assumption | omega | assumption, ?_⟩
    refine ⟨by first | with_reducible assumption | omega | assumption, ?_⟩
    refine ⟨by first | with_reducible assumption | omega | assumption, ?_⟩
    refine ⟨by first | with_reducible assumption | omega | assumption, ?_⟩
    refine ⟨by first | with_reducible assumption | omega | assumption, ?_⟩
    refine ⟨told_sub (by with_reducible assumption), ?_⟩
    refine ⟨sl_intsr (by kernel_rfl) hkt hri, ?_⟩
    refine ⟨lp, ?_⟩
    refine And.intro ?_ ?_
    · skip
      intro y
      intro w1
      intro u
      refine ⟨by first | exact acall_hit (c := c49t.to) (t, rcl r) _ rfl p49 | exact acall_hit (c := c49t.to) (less t k k, rm 0 (less t k k)) _ rfl pl49, ?_⟩
      refine ⟨by first | with_reducible assumption | omega | assumption, ?_⟩
      refine ⟨acall_hit (c := c24.to) () _ rfl trivial, ?_⟩
      first | with_reducible rfl | (refine bleaf_t ?_; omega) | (refine bleaf_f ?_; omega) | (refine ileaf ?_; omega) | rfl | (exfalso; omega)
    · skip
      trivial
  · have g8 : ((clr (less t k k) : Nat) : Int) ≠ ((clr t : Nat) : Int) := by omega
    have g9 : ((clr (less t k k) : Nat) : Int) = ((clr t : Nat) : Int) - 1 := by omega
    refine body_s ([Ans.o (Orc.val 14 (AV.sl (ints t) t.length (rcl r)) (H.mk [] [] [])), Ans.o (Orc.val 15 (AV.tup [I (↑(clr t) : Int), I 0]) (H.mk [] [] [])), Ans.o Orc.dflt, Ans.o (Orc.val 22 (AV.bool true) (H.mk [] [] [])), Ans.o (Orc.val 32 (AV.sl (ints t) t.length (rcl r)) (H.mk [] [] [])), Ans.o (Orc.val 33 (AV.tup [AV.sl (trisA (cyc t)) (cyc t).length (cR t), I 0]) (H.mk [] [] [])), Ans.o Orc.dflt, Ans.o (Orc.val 42 (I (↑(min t.length (2 : Nat)) : Int)) (H.mk [] [] [])), Ans.o (Orc.b false), Ans.o (Orc.b false), Ans.o (Orc.b false), Ans.o (Orc.b false), Ans.o (Orc.b true), Ans.o (Orc.b true), Ans.o (Orc.b false), Ans.o (Orc.val 85 (I (↑k : Int)) H.nil), Ans.o (Orc.val 88 (AV.sl (ints (List.take k t)) k Room.no) H.nil), Ans.loop [(3 : Nat), (7 : Nat), (8 : Nat), (88 : Nat), (89 : Nat), (90 : Nat)] [Out.mk Unit (AX.exit (0 : Nat)) [(3 : Nat), (7 : Nat)] (fun x => True) (fun x => [I (↑(clr t) : Int), lsA (less t k k)]) (fun x => lsH (less t k k)) fun y => [Ans.o (Orc.val 105 (AV.tup [I (↑(clr (less t k k)) : Int), I 0]) (H.mk [] (tk (less t k k)) [])), Ans.o Orc.dflt, Ans.o (Orc.b false), Ans.o (Orc.val 117 (I ((↑(clr t) : Int) - (1 : Int))) H.nil), Ans.o (Orc.b true), Ans.o (Orc.val 122 (AV.bool true) (H.mk [] (tk (less t k k)) []))]]]) (aCall (Sof cs17) (AV.fn (Fn.func (19 : Nat)) [] []) [AV.sl (ints t) t.length r] (H.mk [] [] []) = some (AV.sl (ints t) t.length (rcl r), H.mk [] [] []) ∧ aCall (Sof cs17) (AV.fn (Fn.func (49 : Nat)) [] []) [AV.sl (ints t) t.length (rcl r)] (H.mk [] [] []) = some (AV.tup [I (↑(clr t) : Int), I 0], H.mk [] [] []) ∧ aCall (Sof cs17) (AV.fn (Fn.func (21 : Nat)) [] []) [AV.sl (ints t) t.length r] (H.mk [] [] []) = some (AV.bool true, H.mk [] [] []) ∧ aCall (Sof cs17) (AV.fn (Fn.func (19 : Nat)) [] []) [AV.sl (ints t) t.length r] (H.mk [] [] []) = some (AV.sl (ints t) t.length (rcl r), H.mk [] [] []) ∧ aCall (Sof cs17) (AV.fn (Fn.func (41 : Nat)) [] []) [AV.sl (ints t) t.length (rcl r)] (H.mk [] [] []) = some (AV.tup [AV.sl (trisA (cyc t)) (cyc t).length (cR t), I 0], H.mk [] [] []) ∧ aMin false [I (↑t.length : Int), I 2] = some (I (↑(min t.length (2 : Nat)) : Int)) ∧ (↑(min t.length (2 : Nat)) : Int) ≤ (↑(clr t) : Int) ∧ (↑(clr t) : Int) ≤ (↑t.length : Int) ∧ (↑t.length : Int) < (4 : Int) ∧ (↑t.length : Int) < (8 : Int) ∧ (↑(clr t) : Int) = (↑t.length : Int) ∧ (↑(cyc t).length : Int) = (0 : Int) ∧ (↑t.length : Int) ≠ (1 : Int) ∧ aBin Tryd.prog BinOp.sub (3 : Nat) (I (↑t.length : Int)) (I 1) = some (I (↑k : Int)) ∧ aSlice Tryd.prog (22 : Nat) (AV.sl (ints t) t.length r) none (some (I (↑k : Int))) none (H.mk [] [] []) = some (AV.sl (ints (List.take k t)) k Room.no) ∧ LoopS (Env.mk Tryd.prog (Sof cs17) (Pof (P := Tryd.prog) []) H.nil.base (300 : Nat)) (loopAt Tryd.f17 (0 : Nat)) (124 : Nat) [(3 : Nat), (7 : Nat), (8 : Nat), (88 : Nat), (89 : Nat), (90 : Nat)] [I (↑(clr t) : Int), AV.sl [] (0 : Nat) Room.nil, I (↑k : Int), AV.sl (ints (List.take k t)) k Room.no, I (↑k : Int), I 0] (H.mk [] [] []) [Out.mk Unit (AX.exit (0 : Nat)) [(3 : Nat), (7 : Nat)] (fun x => True) (fun x => [I (↑(clr t) : Int), lsA (less t k k)]) (fun x => lsH (less t k k)) fun y => [Ans.o (Orc.val 105 (AV.tup [I (↑(clr (less t k k)) : Int), I 0]) (H.mk [] (tk (less t k k)) [])), Ans.o Orc.dflt, Ans.o (Orc.b false), Ans.o (Orc.val 117 (I ((↑(clr t) : Int) - (1 : Int))) H.nil), Ans.o (Orc.b true), Ans.o (Orc.val 122 (AV.bool true) (H.mk [] (tk (less t k k)) []))]] ∧ (∀ (y : Unit), True → ∀ (u : Nat → AV), aCall (Sof cs17) (AV.fn (Fn.func (49 : Nat)) [] []) [AV.sl (ints (less t k k)) (less t k k).length (rm (0 : Nat) (less t k k))] (H.mk [] (tk (less t k k)) []) = some (AV.tup [I (↑(clr (less t k k)) : Int), I 0], H.mk [] (tk (less t k k)) []) ∧ (↑(clr (less t k k)) : Int) ≠ (↑(clr t) : Int) ∧ aBin Tryd.prog BinOp.sub (3 : Nat) (I (↑(clr t) : Int)) (I 1) = some (I ((↑(clr t) : Int) - (1 : Int))) ∧ (↑(clr (less t k k)) : Int) = (↑(clr t) : Int) - (1 : Int) ∧ aCall (Sof cs17) (AV.fn (Fn.func (24 : Nat)) [] []) [] (H.mk [] (tk (less t k k)) []) = some (AV.bool true, H.mk [] (tk (less t k k)) []) ∧ (AV.bool true, H.mk [] [] []) = (AV.bool true, H.mk [] [] [])) ∧ True) (by kernel_rfl) ?_
    refine ⟨acall_hit (c := c19s.to) (t, r) _ rfl p19, ?_⟩
    refine ⟨by first | exact acall_hit (c := c49t.to) (t, rcl r) _ rfl p49 | exact acall_hit (c := c49t.to) (less t k k, rm 0 (less t k k)) _ rfl pl49, ?_⟩
    refine ⟨acall_b (acall_hit (c := c21.to) (t, r) _ rfl p21) hb, ?_⟩
    refine ⟨acall_hit (c := c19s.to) (t, r) _ rfl p19, ?_⟩
    refine ⟨acall_hit (c := c41t.to) (t, rcl r) _ rfl p49, ?_⟩
    refine ⟨congrArg (fun z => some (I z)) ev0, ?_⟩
    refine ⟨by first | with_reducible assumption | omega | assumption, ?_⟩
    refine ⟨by first | with_reducible assumption | omega | assumption, ?_⟩
    refine ⟨by first | with_reducible assumption | omega | assumption, ?_⟩
    refine ⟨by first | with_reducible assumption | omega | assumption, ?_⟩
    refine ⟨by first | with_reducible assumption | omega | assumption, ?_⟩
    refine ⟨by first | with_reducible assumption | omega | assumption, ?_⟩
    refine ⟨by first | with_reducible assumption | omega | assumption, ?_⟩
    refine ⟨told_sub (by with_reducible assumption), ?_⟩
    refine ⟨sl_intsr (by kernel_rfl) hkt hri, ?_⟩
    refine ⟨lp, ?_⟩
    refine And.intro ?_ ?_
    · skip
      intro y
      intro w1
      intro u
      refine ⟨by first | exact acall_hit (c := c49t.to) (t, rcl r) _ rfl p49 | exact acall_hit (c := c49t.to) (less t k k, rm 0 (less t k k)) _ rfl pl49, ?_⟩
      refine ⟨by first | with_reducible assumption | omega | assumption, ?_⟩
      refine ⟨told_sub (by with_reducible assumption), ?_⟩
      refine ⟨by first | with_reducible assumption | omega | assumption, ?_⟩
      refine ⟨acall_hit (c := c24.to) () _ rfl trivial, ?_⟩
      first | with_reducible rfl | (refine bleaf_t ?_; omega) | (refine bleaf_f ?_; omega) | (refine ileaf ?_; omega) | rfl | (exfalso; omega)
    · skip
      trivial
theorem r17_2f (t : List Int) (r : Room) (hp : pL t r) (h : Tn t) (hn : 2 ≤ t.length ∧ t.length < 4) (hc : ¬ cyc t = []) : Body (En6 cs17) none1 Tryd.f17 [ls t r] .nil (.bool true, .nil) := by
  obtain ⟨h1, h2⟩ := hp
  have h8 := h.s.2
  have h0 := h.s.1
  have hr := h1.2.1
  have hb := tn_t h
  have p19 : (lim t.length ∧ rok t r ∧ em t r) ∧ t.length ≤ 11 := ⟨h1, by omega⟩
  have p49 : Tn t ∧ rok t (rcl r) := ⟨h, rcl_rok hr⟩
  have p21 : lim t.length ∧ rok t r := ⟨h1.1, hr⟩
  have q1 := clr_le h
  have q2 : min t.length 2 ≤ clr t := by
    rcases Nat.lt_or_ge t.length 2 with w | w
    · have := clr_tame h (m := 0) (by omega); omega
    · have := clr_tame h (m := 1) (by omega); omega
  have ev0 : pick2 false (t.length : Int) 2 = ((min t.length 2 : Nat) : Int) := by
    simp only [pick2, Bool.false_eq_true, if_false]; split <;> omega
  have g1 : ((min t.length 2 : Nat) : Int) ≤ ((clr t : Nat) : Int) := by omega
  have g2 : ((clr t : Nat) : Int) ≤ (t.length : Int) := by omega
  obtain ⟨k, hk⟩ : ∃ k, t.length = k + 1 := ⟨t.length - 1, by omega⟩
  have hk1 : 1 ≤ k := by omega
  have hri : r ≠ .nil := rok_idx hr (show 0 < t.length by omega)
  have ek : t.length - 1 = k := by omega
  have g7 : (t.length : Int) ≠ 1 := by omega
  have hkt : k < t.length := by omega
  have ev1 : IntKind.i64.wrap ((t.length : Int) - 1) = (k : Int) := by rw [wr _ (by omega) (by omega)]; omega
  have g3 : (t.length : Int) < 4 := by omega
  have g4 : (t.length : Int) < 8 := by omega
  have g5 : ((cyc t).length : Int) ≠ 0 := fun e => hc (List.length_eq_zero_iff.1 (by omega))
  have g6 : ((clr t : Nat) : Int) ≠ (t.length : Int) := fun e => hc ((clr_all h).1 (by omega))
  have hT := less_tn h hk1 hkt
  have hL := less_len t k k
  have pl49 : Tn (less t k k) ∧ rok (less t k k) (rm 0 (less t k k)) := ⟨hT, fun hne => by
    cases hq : less t k k with
    | nil => exact absurd hq hne
    | cons x l => intro e; cases e⟩
  have lp := lp17 t h k hk hk1
  have q4 := less_clr h (by omega)
  rw [ek] at q4
  have ev2 : IntKind.i64.wrap (((clr t : Nat) : Int) - 1) = ((clr t : Nat) : Int) - 1 := wr _ (by omega) (by omega)
  rcases q4 with q4 | q4
  · have g8 : ((clr (less t k k) : Nat) : Int) = ((clr t : Nat) : Int) := by rw [q4]
    refine body_s ([Ans.o (Orc.val 14 (AV.sl (ints t) t.length (rcl r)) (H.mk [] [] [])), Ans.o (Orc.val 15 (AV.tup [I (↑(clr t) : Int), I 0]) (H.mk [] [] [])), Ans.o Orc.dflt, Ans.o (Orc.val 22 (AV.bool true) (H.mk [] [] [])), Ans.o (Orc.val 32 (AV.sl (ints t) t.length (rcl r)) (H.mk [] [] [])), Ans.o (Orc.val 33 (AV.tup [AV.sl (trisA (cyc t)) (cyc t).length (cR t), I 0]) (H.mk [] [] [])), Ans.o Orc.dflt, Ans.o (Orc.val 42 (I (↑(min t.length (2 : Nat)) : Int)) (H.mk [] [] [])), Ans.o (Orc.b false), Ans.o (Orc.b false), Ans.o (Orc.b false), Ans.o (Orc.b false), Ans.o (Orc.b false), Ans.o (Orc.b false), Ans.o (Orc.b false), Ans.o (Orc.val 85 (I (↑k : Int)) H.nil), Ans.o (Orc.val 88 (AV.sl (ints (List.take k t)) k Room.no) H.nil), Ans.loop [(3 : Nat), (7 : Nat), (8 : Nat), (88 : Nat), (89 : Nat), (90 : Nat)] [Out.mk Unit (AX.exit (0 : Nat)) [(3 : Nat), (7 : Nat)] (fun x => True) (fun x => [I (↑(clr t) : Int), lsA (less t k k)]) (fun x => lsH (less t k k)) fun y => [Ans.o (Orc.val 105 (AV.tup [I (↑(clr (less t k k)) : Int), I 0]) (H.mk [] (tk (less t k k)) [])), Ans.o Orc.dflt, Ans.o (Orc.b true), Ans.o (Orc.val 122 (AV.bool true) (H.mk [] (tk (less t k k)) []))]]]) (aCall (Sof cs17) (AV.fn (Fn.func (19 : Nat)) [] []) [AV.sl (ints t) t.length r] (H.mk [] [] []) = some (AV.sl (ints t) t.length (rcl r), H.mk [] [] []) ∧ aCall (Sof cs17) (AV.fn (Fn.func (49 : Nat)) [] []) [AV.sl (ints t) t.length (rcl r)] (H.mk [] [] []) = some (AV.tup [I (↑(clr t) : Int), I 0], H.mk [] [] []) ∧ aCall (Sof cs17) (AV.fn (Fn.func (21 : Nat)) [] []) [AV.sl (ints t) t.length r] (H.mk [] [] []) = some (AV.bool true, H.mk [] [] []) ∧ aCall (Sof cs17) (AV.fn (Fn.func (19 : Nat)) [] []) [AV.sl (ints t) t.length r] (H.mk [] [] []) = some (AV.sl (ints t) t.length (rcl r), H.mk [] [] []) ∧ aCall (Sof cs17) (AV.fn (Fn.func (41 : Nat)) [] []) [AV.sl (ints t) t.length (rcl r)] (H.mk [] [] []) = some (AV.tup [AV.sl (trisA (cyc t)) (cyc t).length (cR t), I 0], H.mk [] [] []) ∧ aMin false [I (↑t.length : Int), I 2] = some (I (↑(min t.length (2 : Nat)) : Int)) ∧ (↑(min t.length (2 : Nat)) : Int) ≤ (↑(clr t) : Int) ∧ (↑(clr t) : Int) ≤ (↑t.length : Int) ∧ (↑t.length : Int) < (4 : Int) ∧ (↑t.length : Int) < (8 : Int) ∧ (↑(clr t) : Int) ≠ (↑t.length : Int) ∧ (↑(cyc t).length : Int) ≠ (0 : Int) ∧ (↑t.length : Int) ≠ (1 : Int) ∧ aBin Tryd.prog BinOp.sub (3 : Nat) (I (↑t.length : Int)) (I 1) = some (I (↑k : Int)) ∧ aSlice Tryd.prog (22 : Nat) (AV.sl (ints t) t.length r) none (some (I (↑k : Int))) none (H.mk [] [] []) = some (AV.sl (ints (List.take k t)) k Room.no) ∧ LoopS (Env.mk Tryd.prog (Sof cs17) (Pof (P := Tryd.prog) []) H.nil.base (300 : Nat)) (loopAt Tryd.f17 (0 : Nat)) (124 : Nat) [(3 : Nat), (7 : Nat), (8 : Nat), (88 : Nat), (89 : Nat), (90 : Nat)] [I (↑(clr t) : Int), AV.sl [] (0 : Nat) Room.nil, I (↑k : Int), AV.sl (ints (List.take k t)) k Room.no, I (↑k : Int), I 0] (H.mk [] [] []) [Out.mk Unit (AX.exit (0 : Nat)) [(3 : Nat), (7 : Nat)] (fun x => True) (fun x => [I (↑(clr t) : Int), lsA (less t k k)]) (fun x => lsH (less t k k)) fun y => [Ans.o (Orc.val 105 (AV.tup [I (↑(clr (less t k k)) : Int), I 0]) (H.mk [] (tk (less t k k)) [])), Ans.o Orc.dflt, Ans.o (Orc.b true), Ans.o (Orc.val 122 (AV.bool true) (H.mk [] (tk (less t k k)) []))]] ∧ (∀ (y : Unit), True → ∀ (u : Nat → AV), aCall (Sof cs17) (AV.fn (Fn.func (49 : Nat)) [] []) [AV.sl (ints (less t k k)) (less t k k).length (rm (0 : Nat) (less t k k))] (H.mk [] (tk (less t k k)) []) = some (AV.tup [I (↑(clr (less t k k)) : Int), I 0], H.mk [] (tk (less t k k)) []) ∧ (↑(clr (less t k k)) : Int) = (↑(clr t) : Int) ∧ aCall (Sof cs17) (AV.fn (Fn.func (24 : Nat)) [] []) [] (H.mk [] (tk (less t k k)) []) = some (AV.bool true, H.mk [] (tk (less t k k)) []) ∧ (AV.bool true, H.mk [] [] []) = (AV.bool true, H.mk [] [] [])) ∧ True) (by kernel_rfl) ?_
    refine ⟨acall_hit (c := c19s.to) (t, r) _ rfl p19, ?_⟩
    refine ⟨by first | exact acall_hit (c := c49t.to) (t, rcl r) _ rfl p49 | exact acall_hit (c := c49t.to) (less t k k, rm 0 (less t k k)) _ rfl pl49, ?_⟩
    refine ⟨acall_b (acall_hit (c := c21.to) (t, r) _ rfl p21) hb, ?_⟩
    refine ⟨acall_hit (c := c19s.to) (t, r) _ rfl p19, ?_⟩
    refine ⟨acall_hit (c := c41t.to) (t, rcl r) _ rfl p49, ?_⟩
    refine ⟨congrArg (fun z => some (I z)) ev0, ?_⟩
    refine ⟨by first | with_reducible assumption | omega | assumption, ?_⟩
    refine ⟨by first | with_reducible assumption | omega | assumption, ?_⟩
    refine ⟨by first | with_reducible assumption | omega | assumption, ?_⟩
    refine ⟨by first | with_reducible assumption | omega | assumption, ?_⟩
    refine ⟨by first | with_reducible assumption | omega | assumption, ?_⟩
    refine ⟨by first | with_reducible assumption | omega | assumption, ?_⟩
    refine ⟨by first | with_reducible assumption | omega | assumption, ?_⟩
    refine ⟨told_sub (by with_reducible assumption), ?_⟩
    refine ⟨sl_intsr (by kernel_rfl) hkt hri, ?_⟩
    refine ⟨lp, ?_⟩
    refine And.intro ?_ ?_
    · skip
      intro y
      intro w1
      intro u
      refine ⟨by first | exact acall_hit (c := c49t.to) (t, rcl r) _ rfl p49 | exact acall_hit (c := c49t.to) (less t k k, rm 0 (less t k k)) _ rfl pl49, ?_⟩
      refine ⟨by first | with_reducible assumption | omega | assumption, ?_⟩
      refine ⟨acall_hit (c := c24.to) () _ rfl trivial, ?_⟩
      first | with_reducible rfl | (refine bleaf_t ?_; omega) | (refine bleaf_f ?_; omega) | (refine ileaf ?_; omega) | rfl | (exfalso; omega)
    · skip
      trivial
  · have g8 : ((clr (less t k k) : Nat) : Int) ≠ ((clr t : Nat) : Int) := by omega
    have g9 : ((clr (less t k k) : Nat) : Int) = ((clr t : Nat) : Int) - 1 := by omega
    refine body_s ([Ans.o (Orc.val 14 (AV.sl (ints t) t.length (rcl r)) (H.mk [] [] [])), Ans.o (Orc.val 15 (AV.tup [I (↑(clr t) : Int), I 0]) (H.mk [] [] [])), Ans.o Orc.dflt, Ans.o (Orc.val 22 (AV.bool true) (H.mk [] [] [])), Ans.o (Orc.val 32 (AV.sl (ints t) t.length (rcl r)) (H.mk [] [] [])), Ans.o (Orc.val 33 (AV.tup [AV.sl (trisA (cyc t)) (cyc t).length (cR t), I 0]) (H.mk [] [] [])), Ans.o Orc.dflt, Ans.o (Orc.val 42 (I (↑(min t.length (2 : Nat)) : Int)) (H.mk [] [] [])), Ans.o (Orc.b false), Ans.o (Orc.b false), Ans.o (Orc.b false), Ans.o (Orc.b false), Ans.o (Orc.b false), Ans.o (Orc.b false), Ans.o (Orc.b false), Ans.o (Orc.val 85 (I (↑k : Int)) H.nil), Ans.o (Orc.val 88 (AV.sl (ints (List.take k t)) k Room.no) H.nil), Ans.loop [(3 : Nat), (7 : Nat), (8 : Nat), (88 : Nat), (89 : Nat), (90 : Nat)] [Out.mk Unit (AX.exit (0 : Nat)) [(3 : Nat), (7 : Nat)] (fun x => True) (fun x => [I (↑(clr t) : Int), lsA (less t k k)]) (fun x => lsH (less t k k)) fun y => [Ans.o (Orc.val 105 (AV.tup [I (↑(clr (less t k k)) : Int), I 0]) (H.mk [] (tk (less t k k)) [])), Ans.o Orc.dflt, Ans.o (Orc.b false), Ans.o (Orc.val 117 (I ((↑(clr t) : Int) - (1 : Int))) H.nil), Ans.o (Orc.b true), Ans.o (Orc.val 122 (AV.bool true) (H.mk [] (tk (less t k k)) []))]]]) (aCall (Sof cs17) (AV.fn (Fn.func (19 : Nat)) [] []) [AV.sl (ints t) t.length r] (H.mk [] [] []) = some (AV.sl (ints t) t.length (rcl r), H.mk [] [] []) ∧ aCall (Sof cs17) (AV.fn (Fn.func (49 : Nat)) [] []) [AV.sl (ints t) t.length (rcl r)] (H.mk [] [] []) = some (AV.tup [I (↑(clr t) : Int), I 0], H.mk [] [] []) ∧ aCall (Sof cs17) (AV.fn (Fn.func (21 : Nat)) [] []) [AV.sl (ints t) t.length r] (H.mk [] [] []) = some (AV.bool true, H.mk [] [] []) ∧ aCall (Sof cs17) (AV.fn (Fn.func (19 : Nat)) [] []) [AV.sl (ints t) t.length r] (H.mk [] [] []) = some (AV.sl (ints t) t.length (rcl r), H.mk [] [] []) ∧ aCall (Sof cs17) (AV.fn (Fn.func (41 : Nat)) [] []) [AV.sl (ints t) t.length (rcl r)] (H.mk [] [] []) = some (AV.tup [AV.sl (trisA (cyc t)) (cyc t).length (cR t), I 0], H.mk [] [] []) ∧ aMin false [I (↑t.length : Int), I 2] = some (I (↑(min t.length (2 : Nat)) : Int)) ∧ (↑(min t.length (2 : Nat)) : Int) ≤ (↑(clr t) : Int) ∧ (↑(clr t) : Int) ≤ (↑t.length : Int) ∧ (↑t.length : Int) < (4 : Int) ∧ (↑t.length : Int) < (8 : Int) ∧ (↑(clr t) : Int) ≠ (↑t.length : Int) ∧ (↑(cyc t).length : Int) ≠ (0 : Int) ∧ (↑t.length : Int) ≠ (1 : Int) ∧ aBin Tryd.prog BinOp.sub (3 : Nat) (I (↑t.length : Int)) (I 1) = some (I (↑k : Int)) ∧ aSlice Tryd.prog (22 : Nat) (AV.sl (ints t) t.length r) none (some (I (↑k : Int))) none (H.mk [] [] []) = some (AV.sl (ints (List.take k t)) k Room.no) ∧ LoopS (Env.mk Tryd.prog (Sof cs17) (Pof (P := Tryd.prog) []) H.nil.base (300 : Nat)) (loopAt Tryd.f17 (0 : Nat)) (124 : Nat) [(3 : Nat), (7 : Nat), (8 : Nat), (88 : Nat), (89 : Nat), (90 : Nat)] [I (↑(clr t) : Int), AV.sl [] (0 : Nat) Room.nil, I (↑k : Int), AV.sl (ints (List.take k t)) k Room.no, I (↑k : Int), I 0] (H.mk [] [] []) [Out.mk Unit (AX.exit (0 : Nat)) [(3 : Nat), (7 : Nat)] (fun x => True) (fun x => [I (↑(clr t) : Int), lsA (less t k k)]) (fun x => lsH (less t k k)) fun y => [Ans.o (Orc.val 105 (AV.tup [I (↑(clr (less t k k)) : Int), I 0]) (H.mk [] (tk (less t k k)) [])), Ans.o Orc.dflt, Ans.o (Orc.b false), Ans.o (Orc.val 117 (I ((↑(clr t) : Int) - (1 : Int))) H.nil), Ans.o (Orc.b true), Ans.o (Orc.val 122 (AV.bool true) (H.mk [] (tk (less t k k)) []))]] ∧ (∀ (y : Unit), True → ∀ (u : Nat → AV), aCall (Sof cs17) (AV.fn (Fn.func (49 : Nat)) [] []) [AV.sl (ints (less t k k)) (less t k k).length (rm (0 : Nat) (less t k k))] (H.mk [] (tk (less t k k)) []) = some (AV.tup [I (↑(clr (less t k k)) : Int), I 0], H.mk [] (tk (less t k k)) []) ∧ (↑(clr (less t k k)) : Int) ≠ (↑(clr t) : Int) ∧ aBin Tryd.prog BinOp.sub (3 : Nat) (I (↑(clr t) : Int)) (I 1) = some (I ((↑(clr t) : Int) - (1 : Int))) ∧ (↑(clr (less t k k)) : Int) = (↑(clr t) : Int) - (1 : Int) ∧ aCall (Sof cs17) (AV.fn (Fn.func (24 : Nat)) [] []) [] (H.mk [] (tk (less t k k)) []) = some (AV.bool true, H.mk [] (tk (less t k k)) []) ∧ (AV.bool true, H.mk [] [] []) = (AV.bool true, H.mk [] [] [])) ∧ True) (by kernel_rfl) ?_
    refine ⟨acall_hit (c := c19s.to) (t, r) _ rfl p19, ?_⟩
    refine ⟨by first | exact acall_hit (c := c49t.to) (t, rcl r) _ rfl p49 | exact acall_hit (c := c49t.to) (less t k k, rm 0 (less t k k)) _ rfl pl49, ?_⟩
    refine ⟨acall_b (acall_hit (c := c21.to) (t, r) _ rfl p21) hb, ?_⟩
    refine ⟨acall_hit (c := c19s.to) (t, r) _ rfl p19, ?_⟩
    refine ⟨acall_hit (c := c41t.to) (t, rcl r) _ rfl p49, ?_⟩
    refine ⟨congrArg (fun z => some (I z)) ev0, ?_⟩
    refine ⟨by first | with_reducible assumption | omega | assumption, ?_⟩
    refine ⟨by first | with_reducible assumption | omega | assumption, ?_⟩
    refine ⟨by first | with_reducible assumption | omega | assumption, ?_⟩
    refine ⟨by first | with_reducible assumption | omega | assumption, ?_⟩
    refine ⟨by first | with_reducible assumption | omega | assumption, ?_⟩
    refine ⟨by first | with_reducible assumption | omega | assumption, ?_⟩
    refine ⟨by first | with_reducible assumption | omega | assumption, ?_⟩
    refine ⟨told_sub (by with_reducible assumption), ?_⟩
    refine ⟨sl_intsr (by kernel_rfl) hkt hri, ?_⟩
    refine ⟨lp, ?_⟩
    refine And.intro ?_ ?_
    · skip
      intro y
      intro w1
      intro u
      refine ⟨by first | exact acall_hit (c := c49t.to) (t, rcl r) _ rfl p49 | exact acall_hit (c := c49t.to) (less t k k, rm 0 (less t k k)) _ rfl pl49, ?_⟩
      refine ⟨by first | with_reducible assumption | omega | assumption, ?_⟩
      refine ⟨told_sub (by with_reducible assumption), ?_⟩
      refine ⟨by first | with_reducible assumption | omega | assumption, ?_⟩
      refine ⟨acall_hit (c := c24.to) () _ rfl trivial, ?_⟩
      first | with_reducible rfl | (refine bleaf_t ?_; omega) | (refine bleaf_f ?_; omega) | (refine ileaf ?_; omega) | rfl | (exfalso; omega)
    · skip
      trivial
theorem r17_4t (t : List Int) (r : Room) (hp : pL t r) (h : Tn t) (hn : 4 ≤ t.length ∧ t.length < 8) (hc : cyc t = []) : Body (En6 cs17) none1 Tryd.f17 [ls t r] .nil (.bool true, .nil) := by
  obtain ⟨h1, h2⟩ := hp
  have h8 := h.s.2
  have h0 := h.s.1
  have hr := h1.2.1
  have hb := tn_t h
  have p19 : (lim t.length ∧ rok t r ∧ em t r) ∧ t.length ≤ 11 := ⟨h1, by omega⟩
  have p49 : Tn t ∧ rok t (rcl r) := ⟨h, rcl_rok hr⟩
  have p21 : lim t.length ∧ rok t r := ⟨h1.1, hr⟩
  have q1 := clr_le h
  have q2 : min t.length 2 ≤ clr t := by
    rcases Nat.lt_or_ge t.length 2 with w | w
    · have := clr_tame h (m := 0) (by omega); omega
    · have := clr_tame h (m := 1) (by omega); omega
  have ev0 : pick2 false (t.length : Int) 2 = ((min t.length 2 : Nat) : Int) := by
    simp only [pick2, Bool.false_eq_true, if_false]; split <;> omega
  have g1 : ((min t.length 2 : Nat) : Int) ≤ ((clr t : Nat) : Int) := by omega
  have g2 : ((clr t : Nat) : Int) ≤ (t.length : Int) := by omega
  obtain ⟨k, hk⟩ : ∃ k, t.length = k + 1 := ⟨t.length - 1, by omega⟩
  have hk1 : 1 ≤ k := by omega
  have hri : r ≠ .nil := rok_idx hr (show 0 < t.length by omega)
  have ek : t.length - 1 = k := by omega
  have g7 : (t.length : Int) ≠ 1 := by omega
  have hkt : k < t.length := by omega
  have ev1 : IntKind.i64.wrap ((t.length : Int) - 1) = (k : Int) := by rw [wr _ (by omega) (by omega)]; omega
  have g3 : (4 : Int) ≤ (t.length : Int) := by omega
  have g4 : (t.length : Int) < 8 := by omega
  have g3b : (3 : Int) ≤ ((clr t : Nat) : Int) := by have := clr_tame h (m := 2) (by omega); omega
  have g5 : ((cyc t).length : Int) = 0 := by rw [hc]; rfl
  have g6 : ((clr t : Nat) : Int) = (t.length : Int) := by rw [(clr_all h).2 hc]
  have hT := less_tn h hk1 hkt
  have hL := less_len t k k
  have pl49 : Tn (less t k k) ∧ rok (less t k k) (rm 0 (less t k k)) := ⟨hT, fun hne => by
    cases hq : less t k k with
    | nil => exact absurd hq hne
    | cons x l => intro e; cases e⟩
  have lp := lp17 t h k hk hk1
  have q4 := less_clr h (by omega)
  rw [ek] at q4
  have ev2 : IntKind.i64.wrap (((clr t : Nat) : Int) - 1) = ((clr t : Nat) : Int) - 1 := wr _ (by omega) (by omega)
  rcases q4 with q4 | q4
  · have g8 : ((clr (less t k k) : Nat) : Int) = ((clr t : Nat) : Int) := by rw [q4]
    refine body_s ([Ans.o (Orc.val 14 (AV.sl (ints t) t.length (rcl r)) (H.mk [] [] [])), Ans.o (Orc.val 15 (AV.tup [I (↑(clr t) : Int), I 0]) (H.mk [] [] [])), Ans.o Orc.dflt, Ans.o (Orc.val 22 (AV.bool true) (H.mk [] [] [])), Ans.o (Orc.val 32 (AV.sl (ints t) t.length (rcl r)) (H.mk [] [] [])), Ans.o (Orc.val 33 (AV.tup [AV.sl (trisA (cyc t)) (cyc t).length (cR t), I 0]) (H.mk [] [] [])), Ans.o Orc.dflt, Ans.o (Orc.val 42 (I (↑(min t.length (2 : Nat)) : Int)) (H.mk [] [] [])), Ans.o (Orc.b false), Ans.o (Orc.b false), Ans.o (Orc.b true), Ans.o (Orc.b false), Ans.o (Orc.b false), Ans.o (Orc.b true), Ans.o (Orc.b true), Ans.o (Orc.b false), Ans.o (Orc.val 85 (I (↑k : Int)) H.nil), Ans.o (Orc.val 88 (AV.sl (ints (List.take k t)) k Room.no) H.nil), Ans.loop [(3 : Nat), (7 : Nat), (8 : Nat), (88 : Nat), (89 : Nat), (90 : Nat)] [Out.mk Unit (AX.exit (0 : Nat)) [(3 : Nat), (7 : Nat)] (fun x => True) (fun x => [I (↑(clr t) : Int), lsA (less t k k)]) (fun x => lsH (less t k k)) fun y => [Ans.o (Orc.val 105 (AV.tup [I (↑(clr (less t k k)) : Int), I 0]) (H.mk [] (tk (less t k k)) [])), Ans.o Orc.dflt, Ans.o (Orc.b true), Ans.o (Orc.val 122 (AV.bool true) (H.mk [] (tk (less t k k)) []))]]]) (aCall (Sof cs17) (AV.fn (Fn.func (19 : Nat)) [] []) [AV.sl (ints t) t.length r] (H.mk [] [] []) = some (AV.sl (ints t) t.length (rcl r), H.mk [] [] []) ∧ aCall (Sof cs17) (AV.fn (Fn.func (49 : Nat)) [] []) [AV.sl (ints t) t.length (rcl r)] (H.mk [] [] []) = some (AV.tup [I (↑(clr t) : Int), I 0], H.mk [] [] []) ∧ aCall (Sof cs17) (AV.fn (Fn.func (21 : Nat)) [] []) [AV.sl (ints t) t.length r] (H.mk [] [] []) = some (AV.bool true, H.mk [] [] []) ∧ aCall (Sof cs17) (AV.fn (Fn.func (19 : Nat)) [] []) [AV.sl (ints t) t.length r] (H.mk [] [] []) = some (AV.sl (ints t) t.length (rcl r), H.mk [] [] []) ∧ aCall (Sof cs17) (AV.fn (Fn.func (41 : Nat)) [] []) [AV.sl (ints t) t.length (rcl r)] (H.mk [] [] []) = some (AV.tup [AV.sl (trisA (cyc t)) (cyc t).length (cR t), I 0], H.mk [] [] []) ∧ aMin false [I (↑t.length : Int), I 2] = some (I (↑(min t.length (2 : Nat)) : Int)) ∧ (↑(min t.length (2 : Nat)) : Int) ≤ (↑(clr t) : Int) ∧ (↑(clr t) : Int) ≤ (↑t.length : Int) ∧ (4 : Int) ≤ (↑t.length : Int) ∧ (3 : Int) ≤ (↑(clr t) : Int) ∧ (↑t.length : Int) < (8 : Int) ∧ (↑(clr t) : Int) = (↑t.length : Int) ∧ (↑(cyc t).length : Int) = (0 : Int) ∧ (↑t.length : Int) ≠ (1 : Int) ∧ aBin Tryd.prog BinOp.sub (3 : Nat) (I (↑t.length : Int)) (I 1) = some (I (↑k : Int)) ∧ aSlice Tryd.prog (22 : Nat) (AV.sl (ints t) t.length r) none (some (I (↑k : Int))) none (H.mk [] [] []) = some (AV.sl (ints (List.take k t)) k Room.no) ∧ LoopS (Env.mk Tryd.prog (Sof cs17) (Pof (P := Tryd.prog) []) H.nil.base (300 : Nat)) (loopAt Tryd.f17 (0 : Nat)) (124 : Nat) [(3 : Nat), (7 : Nat), (8 : Nat), (88 : Nat), (89 : Nat), (90 : Nat)] [I (↑(clr t) : Int), AV.sl [] (0 : Nat) Room.nil, I (↑k : Int), AV.sl (ints (List.take k t)) k Room.no, I (↑k : Int), I 0] (H.mk [] [] []) [Out.mk Unit (AX.exit (0 : Nat)) [(3 : Nat), (7 : Nat)] (fun x => True) (fun x => [I (↑(clr t) : Int), lsA (less t k k)]) (fun x => lsH (less t k k)) fun y => [Ans.o (Orc.val 105 (AV.tup [I (↑(clr (less t k k)) : Int), I 0]) (H.mk [] (tk (less t k k)) [])), Ans.o Orc.dflt, Ans.o (Orc.b true), Ans.o (Orc.val 122 (AV.bool true) (H.mk [] (tk (less t k k)) []))]] ∧ (∀ (y : Unit), True → ∀ (u : Nat → AV), aCall (Sof cs17) (AV.fn (Fn.func (49 : Nat)) [] []) [AV.sl (ints (less t k k)) (less t k k).length (rm (0 : Nat) (less t k k))] (H.mk [] (tk (less t k k)) []) = some (AV.tup [I (↑(clr (less t k k)) : Int), I 0], H.mk [] (tk (less t k k)) []) ∧ (↑(clr (less t k k)) : Int) = (↑(clr t) : Int) ∧ aCall (Sof cs17) (AV.fn (Fn.func (24 : Nat)) [] []) [] (H.mk [] (tk (less t k k)) []) = some (AV.bool true, H.mk [] (tk (less t k k)) []) ∧ (AV.bool true, H.mk [] [] []) = (AV.bool true, H.mk [] [] [])) ∧ True) (by kernel_rfl) ?_
    refine ⟨acall_hit (c := c19s.to) (t, r) _ rfl p19, ?_⟩
    refine ⟨by first | exact acall_hit (c := c49t.to) (t, rcl r) _ rfl p49 | exact acall_hit (c := c49t.to) (less t k k, rm 0 (less t k k)) _ rfl pl49, ?_⟩
    refine ⟨acall_b (acall_hit (c := c21.to) (t, r) _ rfl p21) hb, ?_⟩
    refine ⟨acall_hit (c := c19s.to) (t, r) _ rfl p19, ?_⟩
    refine ⟨acall_hit (c := c41t.to) (t, rcl r) _ rfl p49, ?_⟩
    refine ⟨congrArg (fun z => some (I z)) ev0, ?_⟩
    refine ⟨by first | with_reducible assumption | omega | assumption, ?_⟩
    refine ⟨by first | with_reducible assumption | omega | assumption, ?_⟩
    refine ⟨by first | with_reducible assumption | omega | assumption, ?_⟩
    refine ⟨by first | with_reducible assumption | omega | assumption, ?_⟩
    refine ⟨by first | with_reducible assumption | omega | assumption, ?_⟩
    refine ⟨by first | with_reducible assumption | omega | assumption, ?_⟩
    refine ⟨by first | with_reducible assumption | omega | assumption, ?_⟩
    refine ⟨by first | with_reducible assumption | omega | assumption, ?_⟩
    refine ⟨told_sub (by with_reducible assumption), ?_⟩
    refine ⟨sl_intsr (by kernel_rfl) hkt hri, ?_⟩
    refine ⟨lp, ?_⟩
    refine And.intro ?_ ?_
    · skip
      intro y
      intro w1
      intro u
      refine ⟨by first | exact acall_hit (c := c49t.to) (t, rcl r) _ rfl p49 | exact acall_hit (c := c49t.to) (less t k k, rm 0 (less t k k)) _ rfl pl49, ?_⟩
      refine ⟨by first | with_reducible assumption | omega | assumption, ?_⟩
      refine ⟨acall_hit (c := c24.to) () _ rfl trivial, ?_⟩
      first | with_reducible rfl | (refine bleaf_t ?_; omega) | (refine bleaf_f ?_; omega) | (refine ileaf ?_; omega) | rfl | (exfalso; omega)
    · skip
      trivial
  · have g8 : ((clr (less t k k) : Nat) : Int) ≠ ((clr t : Nat) : Int) := by omega
    have g9 : ((clr (less t k k) : Nat) : Int) = ((clr t : Nat) : Int) - 1 := by omega
    refine body_s ([Ans.o (Orc.val 14 (AV.sl (ints t) t.length (rcl r)) (H.mk [] [] [])), Ans.o (Orc.val 15 (AV.tup [I (↑(clr t) : Int), I 0]) (H.mk [] [] [])), Ans.o Orc.dflt, Ans.o (Orc.val 22 (AV.bool true) (H.mk [] [] [])), Ans.o (Orc.val 32 (AV.sl (ints t) t.length (rcl r)) (H.mk [] [] [])), Ans.o (Orc.val 33 (AV.tup [AV.sl (trisA (cyc t)) (cyc t).length (cR t), I 0]) (H.mk [] [] [])), Ans.o Orc.dflt, Ans.o (Orc.val 42 (I (↑(min t.length (2 : Nat)) : Int)) (H.mk [] [] [])), Ans.o (Orc.b false), Ans.o (Orc.b false), Ans.o (Orc.b true), Ans.o (Orc.b false), Ans.o (Orc.b false), Ans.o (Orc.b true), Ans.o (Orc.b true), Ans.o (Orc.b false), Ans.o (Orc.val 85 (I (↑k : Int)) H.nil), Ans.o (Orc.val 88 (AV.sl (ints (List.take k t)) k Room.no) H.nil), Ans.loop [(3 : Nat), (7 : Nat), (8 : Nat), (88 : Nat), (89 : Nat), (90 : Nat)] [Out.mk Unit (AX.exit (0 : Nat)) [(3 : Nat), (7 : Nat)] (fun x => True) (fun x => [I (↑(clr t) : Int), lsA (less t k k)]) (fun x => lsH (less t k k)) fun y => [Ans.o (Orc.val 105 (AV.tup [I (↑(clr (less t k k)) : Int), I 0]) (H.mk [] (tk (less t k k)) [])), Ans.o Orc.dflt, Ans.o (Orc.b false), Ans.o (Orc.val 117 (I ((↑(clr t) : Int) - (1 : Int))) H.nil), Ans.o (Orc.b true), Ans.o (Orc.val 122 (AV.bool true) (H.mk [] (tk (less t k k)) []))]]]) (aCall (Sof cs17) (AV.fn (Fn.func (19 : Nat)) [] []) [AV.sl (ints t) t.length r] (H.mk [] [] []) = some (AV.sl (ints t) t.length (rcl r), H.mk [] [] []) ∧ aCall (Sof cs17) (AV.fn (Fn.func (49 : Nat)) [] []) [AV.sl (ints t) t.length (rcl r)] (H.mk [] [] []) = some (AV.tup [I (↑(clr t) : Int), I 0], H.mk [] [] []) ∧ aCall (Sof cs17) (AV.fn (Fn.func (21 : Nat)) [] []) [AV.sl (ints t) t.length r] (H.mk [] [] []) = some (AV.bool true, H.mk [] [] []) ∧ aCall (Sof cs17) (AV.fn (Fn.func (19 : Nat)) [] []) [AV.sl (ints t) t.length r] (H.mk [] [] []) = some (AV.sl (ints t) t.length (rcl r), H.mk [] [] []) ∧ aCall (Sof cs17) (AV.fn (Fn.func (41 : Nat)) [] []) [AV.sl (ints t) t.length (rcl r)] (H.mk [] [] []) = some (AV.tup [AV.sl (trisA (cyc t)) (cyc t).length (cR t), I 0], H.mk [] [] []) ∧ aMin false [I (↑t.length : Int), I 2] = some (I (↑(min t.length (2 : Nat)) : Int)) ∧ (↑(min t.length (2 : Nat)) : Int) ≤ (↑(clr t) : Int) ∧ (↑(clr t) : Int) ≤ (↑t.length : Int) ∧ (4 : Int) ≤ (↑t.length : Int) ∧ (3 : Int) ≤ (↑(clr t) : Int) ∧ (↑t.length : Int) < (8 : Int) ∧ (↑(clr t) : Int) = (↑t.length : Int) ∧ (↑(cyc t).length : Int) = (0 : Int) ∧ (↑t.length : Int) ≠ (1 : Int) ∧ aBin Tryd.prog BinOp.sub (3 : Nat) (I (↑t.length : Int)) (I 1) = some (I (↑k : Int)) ∧ aSlice Tryd.prog (22 : Nat) (AV.sl (ints t) t.length r) none (some (I (↑k : Int))) none (H.mk [] [] []) = some (AV.sl (ints (List.take k t)) k Room.no) ∧ LoopS (Env.mk Tryd.prog (Sof cs17) (Pof (P := Tryd.prog) []) H.nil.base (300 : Nat)) (loopAt Tryd.f17 (0 : Nat)) (124 : Nat) [(3 : Nat), (7 : Nat), (8 : Nat), (88 : Nat), (89 : Nat), (90 : Nat)] [I (↑(clr t) : Int), AV.sl [] (0 : Nat) Room.nil, I (↑k : Int), AV.sl (ints (List.take k t)) k Room.no, I (↑k : Int), I 0] (H.mk [] [] []) [Out.mk Unit (AX.exit (0 : Nat)) [(3 : Nat), (7 : Nat)] (fun x => True) (fun x => [I (↑(clr t) : Int), lsA (less t k k)]) (fun x => lsH (less t k k)) fun y => [Ans.o (Orc.val 105 (AV.tup [I (↑(clr (less t k k)) : Int), I 0]) (H.mk [] (tk (less t k k)) [])), Ans.o Orc.dflt, Ans.o (Orc.b false), Ans.o (Orc.val 117 (I ((↑(clr t) : Int) - (1 : Int))) H.nil), Ans.o (Orc.b true), Ans.o (Orc.val 122 (AV.bool true) (H.mk [] (tk (less t k k)) []))]] ∧ (∀ (y : Unit), True → ∀ (u : Nat → AV), aCall (Sof cs17) (AV.fn (Fn.func (49 : Nat)) [] []) [AV.sl (ints (less t k k)) (less t k k).length (rm (0 : Nat) (less t k k))] (H.mk [] (tk (less t k k)) []) = some (AV.tup [I (↑(clr (less t k k)) : Int), I 0], H.mk [] (tk (less t k k)) []) ∧ (↑(clr (less t k k)) : Int) ≠ (↑(clr t) : Int) ∧ aBin Tryd.prog BinOp.sub (3 : Nat) (I (↑(clr t) : Int)) (I 1) = some (I ((↑(clr t) : Int) - (1 : Int))) ∧ (↑(clr (less t k k)) : Int) = (↑(clr t) : Int) - (1 : Int) ∧ aCall (Sof cs17) (AV.fn (Fn.func (24 : Nat)) [] []) [] (H.mk [] (tk (less t k k)) []) = some (AV.bool true, H.mk [] (tk (less t k k)) []) ∧ (AV.bool true, H.mk [] [] []) = (AV.bool true, H.mk [] [] [])) ∧ True) (by kernel_rfl) ?_
    refine ⟨acall_hit (c := c19s.to) (t, r) _ rfl p19, ?_⟩
    refine ⟨by first | exact acall_hit (c := c49t.to) (t, rcl r) _ rfl p49 | exact acall_hit (c := c49t.to) (less t k k, rm 0 (less t k k)) _ rfl pl49, ?_⟩
    refine ⟨acall_b (acall_hit (c := c21.to) (t, r) _ rfl p21) hb, ?_⟩
    refine ⟨acall_hit (c := c19s.to) (t, r) _ rfl p19, ?_⟩
    refine ⟨acall_hit (c := c41t.to) (t, rcl r) _ rfl p49, ?_⟩
    refine ⟨congrArg (fun z => some (I z)) ev0, ?_⟩
    refine ⟨by first | with_reducible assumption | omega | assumption, ?_⟩
    refine ⟨by first | with_reducible assumption | omega | assumption, ?_⟩
    refine ⟨by first | with_reducible assumption | omega | assumption, ?_⟩
    refine ⟨by first | with_reducible assumption | omega | assumption, ?_⟩
    refine ⟨by first | with_reducible assumption | omega | assumption, ?_⟩
    refine ⟨by first | with_reducible assumption | omega | assumption, ?_⟩
    refine ⟨by first | with_reducible assumption | omega | assumption, ?_⟩
    refine ⟨by first | with_reducible assumption | omega | assumption, ?_⟩
    refine ⟨told_sub (by with_reducible assumption), ?_⟩
    refine ⟨sl_intsr (by kernel_rfl) hkt hri, ?_⟩
    refine ⟨lp, ?_⟩
    refine And.intro ?_ ?_
    · skip
      intro y
      intro w1
      intro u
      refine ⟨by first | exact acall_hit (c := c49t.to) (t, rcl r) _ rfl p49 | exact acall_hit (c := c49t.to) (less t k k, rm 0 (less t k k)) _ rfl pl49, ?_⟩
      refine ⟨by first | with_reducible assumption | omega | assumption, ?_⟩
      refine ⟨told_sub (by with_reducible assumption), ?_⟩
      refine ⟨by first | with_reducible assumption | omega | assumption, ?_⟩
      refine ⟨acall_hit (c := c24.to) () _ rfl trivial, ?_⟩
      first | with_reducible rfl | (refine bleaf_t ?_; omega) | (refine bleaf_f ?_; omega) | (refine ileaf ?_; omega) | rfl | (exfalso; omega)
    · skip
      trivial
theorem r17_4f (t : List Int) (r : Room) (hp : pL t r) (h : Tn t) (hn : 4 ≤ t.length ∧ t.length < 8) (hc : ¬ cyc t = []) : Body (En6 cs17) none1 Tryd.f17 [ls t r] .nil (.bool true, .nil) := by
  obtain ⟨h1, h2⟩ := hp
  have h8 := h.s.2
  have h0 := h.s.1
  have hr := h1.2.1
  have hb := tn_t h
  have p19 : (lim t.length ∧ rok t r ∧ em t r) ∧ t.length ≤ 11 := ⟨h1, by omega⟩
  have p49 : Tn t ∧ rok t (rcl r) := ⟨h, rcl_rok hr⟩
  have p21 : lim t.length ∧ rok t r := ⟨h1.1, hr⟩
  have q1 := clr_le h
  have q2 : min t.length 2 ≤ clr t := by
    rcases Nat.lt_or_ge t.length 2 with w | w
    · have := clr_tame h (m := 0) (by omega); omega
    · have := clr_tame h (m := 1) (by omega); omega
  have ev0 : pick2 false (t.length : Int) 2 = ((min t.length 2 : Nat) : Int) := by
    simp only [pick2, Bool.false_eq_true, if_false]; split <;> omega
  have g1 : ((min t.length 2 : Nat) : Int) ≤ ((clr t : Nat) : Int) := by omega
  have g2 : ((clr t : Nat) : Int) ≤ (t.length : Int) := by omega
  obtain ⟨k, hk⟩ : ∃ k, t.length = k + 1 := ⟨t.length - 1, by omega⟩
  have hk1 : 1 ≤ k := by omega
  have hri : r ≠ .nil := rok_idx hr (show 0 < t.length by omega)
  have ek : t.length - 1 = k := by omega
  have g7 : (t.length : Int) ≠ 1 := by omega
  have hkt : k < t.length := by omega
  have ev1 : IntKind.i64.wrap ((t.length : Int) - 1) = (k : Int) := by rw [wr _ (by omega) (by omega)]; omega
  have g3 : (4 : Int) ≤ (t.length : Int) := by omega
  have g4 : (t.length : Int) < 8 := by omega
  have g3b : (3 : Int) ≤ ((clr t : Nat) : Int) := by have := clr_tame h (m := 2) (by omega); omega
  have g5 : ((cyc t).length : Int) ≠ 0 := fun e => hc (List.length_eq_zero_iff.1 (by omega))
  have g6 : ((clr t : Nat) : Int) ≠ (t.length : Int) := fun e => hc ((clr_all h).1 (by omega))
  have hT := less_tn h hk1 hkt
  have hL := less_len t k k
  have pl49 : Tn (less t k k) ∧ rok (less t k k) (rm 0 (less t k k)) := ⟨hT, fun hne => by
    cases hq : less t k k with
    | nil => exact absurd hq hne
    | cons x l => intro e; cases e⟩
  have lp := lp17 t h k hk hk1
  have q4 := less_clr h (by omega)
  rw [ek] at q4
  have ev2 : IntKind.i64.wrap (((clr t : Nat) : Int) - 1) = ((clr t : Nat) : Int) - 1 := wr _ (by omega) (by omega)
  rcases q4 with q4 | q4
  · have g8 : ((clr (less t k k) : Nat) : Int) = ((clr t : Nat) : Int) := by rw [q4]
    refine body_s ([Ans.o (Orc.val 14 (AV.sl (ints t) t.length (rcl r)) (H.mk [] [] [])), Ans.o (Orc.val 15 (AV.tup [I (↑(clr t) : Int), I 0]) (H.mk [] [] [])), Ans.o Orc.dflt, Ans.o (Orc.val 22 (AV.bool true) (H.mk [] [] [])), Ans.o (Orc.val 32 (AV.sl (ints t) t.length (rcl r)) (H.mk [] [] [])), Ans.o (Orc.val 33 (AV.tup [AV.sl (trisA (cyc t)) (cyc t).length (cR t), I 0]) (H.mk [] [] [])), Ans.o Orc.dflt, Ans.o (Orc.val 42 (I (↑(min t.length (2 : Nat)) : Int)) (H.mk [] [] [])), Ans.o (Orc.b false), Ans.o (Orc.b false), Ans.o (Orc.b true), Ans.o (Orc.b false), Ans.o (Orc.b false), Ans.o (Orc.b false), Ans.o (Orc.b false), Ans.o (Orc.b false), Ans.o (Orc.val 85 (I (↑k : Int)) H.nil), Ans.o (Orc.val 88 (AV.sl (ints (List.take k t)) k Room.no) H.nil), Ans.loop [(3 : Nat), (7 : Nat), (8 : Nat), (88 : Nat), (89 : Nat), (90 : Nat)] [Out.mk Unit (AX.exit (0 : Nat)) [(3 : Nat), (7 : Nat)] (fun x => True) (fun x => [I (↑(clr t) : Int), lsA (less t k k)]) (fun x => lsH (less t k k)) fun y => [Ans.o (Orc.val 105 (AV.tup [I (↑(clr (less t k k)) : Int), I 0]) (H.mk [] (tk (less t k k)) [])), Ans.o Orc.dflt, Ans.o (Orc.b true), Ans.o (Orc.val 122 (AV.bool true) (H.mk [] (tk (less t k k)) []))]]]) (aCall (Sof cs17) (AV.fn (Fn.func (19 : Nat)) [] []) [AV.sl (ints t) t.length r] (H.mk [] [] []) = some (AV.sl (ints t) t.length (rcl r), H.mk [] [] []) ∧ aCall (Sof cs17) (AV.fn (Fn.func (49 : Nat)) [] []) [AV.sl (ints t) t.length (rcl r)] (H.mk [] [] []) = some (AV.tup [I (↑(clr t) : Int), I 0], H.mk [] [] []) ∧ aCall (Sof cs17) (AV.fn (Fn.func (21 : Nat)) [] []) [AV.sl (ints t) t.length r] (H.mk [] [] []) = some (AV.bool true, H.mk [] [] []) ∧ aCall (Sof cs17) (AV.fn (Fn.func (19 : Nat)) [] []) [AV.sl (ints t) t.length r] (H.mk [] [] []) = some (AV.sl (ints t) t.length (rcl r), H.mk [] [] []) ∧ aCall (Sof cs17) (AV.fn (Fn.func (41 : Nat)) [] []) [AV.sl (ints t) t.length (rcl r)] (H.mk [] [] []) = some (AV.tup [AV.sl (trisA (cyc t)) (cyc t).length (cR t), I 0], H.mk [] [] []) ∧ aMin false [I (↑t.length : Int), I 2] = some (I (↑(min t.length (2 : Nat)) : Int)) ∧ (↑(min t.length (2 : Nat)) : Int) ≤ (↑(clr t) : Int) ∧ (↑(clr t) : Int) ≤ (↑t.length : Int) ∧ (4 : Int) ≤ (↑t.length : Int) ∧ (3 : Int) ≤ (↑(clr t) : Int) ∧ (↑t.length : Int) < (8 : Int) ∧ (↑(clr t) : Int) ≠ (↑t.length : Int) ∧ (↑(cyc t).length : Int) ≠ (0 : Int) ∧ (↑t.length : Int) ≠ (1 : Int) ∧ aBin Tryd.prog BinOp.sub (3 : Nat) (I (↑t.length : Int)) (I 1) = some (I (↑k : Int)) ∧ aSlice Tryd.prog (22 : Nat) (AV.sl (ints t) t.length r) none (some (I (↑k : Int))) none (H.mk [] [] []) = some (AV.sl (ints (List.take k t)) k Room.no) ∧ LoopS (Env.mk Tryd.prog (Sof cs17) (Pof (P := Tryd.prog) []) H.nil.base (300 : Nat)) (loopAt Tryd.f17 (0 : Nat)) (124 : Nat) [(3 : Nat), (7 : Nat), (8 : Nat), (88 : Nat), (89 : Nat), (90 : Nat)] [I (↑(clr t) : Int), AV.sl [] (0 : Nat) Room.nil, I (↑k : Int), AV.sl (ints (List.take k t)) k Room.no, I (↑k : Int), I 0] (H.mk [] [] []) [Out.mk Unit (AX.exit (0 : Nat)) [(3 : Nat), (7 : Nat)] (fun x => True) (fun x => [I (↑(clr t) : Int), lsA (less t k k)]) (fun x => lsH (less t k k)) fun y => [Ans.o (Orc.val 105 (AV.tup [I (↑(clr (less t k k)) : Int), I 0]) (H.mk [] (tk (less t k k)) [])), Ans.o Orc.dflt, Ans.o (Orc.b true), Ans.o (Orc.val 122 (AV.bool true) (H.mk [] (tk (less t k k)) []))]] ∧ (∀ (y : Unit), True → ∀ (u : Nat → AV), aCall (Sof cs17) (AV.fn (Fn.func (49 : Nat)) [] []) [AV.sl (ints (less t k k)) (less t k k).length (rm (0 : Nat) (less t k k))] (H.mk [] (tk (less t k k)) []) = some (AV.tup [I (↑(clr (less t k k)) : Int), I 0], H.mk [] (tk (less t k k)) []) ∧ (↑(clr (less t k k)) : Int) = (↑(clr t) : Int) ∧ aCall (Sof cs17) (AV.fn (Fn.func (24 : Nat)) [] []) [] (H.mk [] (tk (less t k k)) []) = some (AV.bool true, H.mk [] (tk (less t k k)) []) ∧ (AV.bool true, H.mk [] [] []) = (AV.bool true, H.mk [] [] [])) ∧ True) (by kernel_rfl) ?_
    refine ⟨acall_hit (c := c19s.to) (t, r) _ rfl p19, ?_⟩
    refine ⟨by first | exact acall_hit (c := c49t.to) (t, rcl r) _ rfl p49 | exact acall_hit (c := c49t.to) (less t k k, rm 0 (less t k k)) _ rfl pl49, ?_⟩
    refine ⟨acall_b (acall_hit (c := c21.to) (t, r) _ rfl p21) hb, ?_⟩
    refine ⟨acall_hit (c := c19s.to) (t, r) _ rfl p19, ?_⟩
    refine ⟨acall_hit (c := c41t.to) (t, rcl r) _ rfl p49, ?_⟩
    refine ⟨congrArg (fun z => some (I z)) ev0, ?_⟩
    refine ⟨by first | with_reducible assumption | omega | assumption, ?_⟩
    refine ⟨by first | with_reducible assumption | omega | assumption, ?_⟩
    refine ⟨by first | with_reducible assumption | omega | assumption, ?_⟩
    refine ⟨by first | with_reducible assumption | omega | assumption, ?_⟩
    refine ⟨by first | with_reducible assumption | omega | assumption, ?_⟩
    refine ⟨by first | with_reducible assumption | omega | assumption, ?_⟩
    refine ⟨by first | with_reducible assumption | omega | assumption, ?_⟩
    refine ⟨by first | with_reducible assumption | omega | assumption, ?_⟩
    refine ⟨told_sub (by with_reducible assumption), ?_⟩
    refine ⟨sl_intsr (by kernel_rfl) hkt hri, ?_⟩
    refine ⟨lp, ?_⟩
    refine And.intro ?_ ?_
    · skip
      intro y
      intro w1
      intro u
      refine ⟨by first | exact acall_hit (c := c49t.to) (t, rcl r) _ rfl p49 | exact acall_hit (c := c49t.to) (less t k k, rm 0 (less t k k)) _ rfl pl49, ?_⟩
      refine ⟨by first | with_reducible assumption | omega | assumption, ?_⟩
      refine ⟨acall_hit (c := c24.to) () _ rfl trivial, ?_⟩
      first | with_reducible rfl | (refine bleaf_t ?_; omega) | (refine bleaf_f ?_; omega) | (refine ileaf ?_; omega) | rfl | (exfalso; omega)
    · skip
      trivial
  · have g8 : ((clr (less t k k) : Nat) : Int) ≠ ((clr t : Nat) : Int) := by omega
    have g9 : ((clr (less t k k) : Nat) : Int) = ((clr t : Nat) : Int) - 1 := by omega
    refine body_s ([Ans.o (Orc.val 14 (AV.sl (ints t) t.length (rcl r)) (H.mk [] [] [])), Ans.o (Orc.val 15 (AV.tup [I (↑(clr t) : Int), I 0]) (H.mk [] [] [])), Ans.o Orc.dflt, Ans.o (Orc.val 22 (AV.bool true) (H.mk [] [] [])), Ans.o (Orc.val 32 (AV.sl (ints t) t.length (rcl r)) (H.mk [] [] [])), Ans.o (Orc.val 33 (AV.tup [AV.sl (trisA (cyc t)) (cyc t).length (cR t), I 0]) (H.mk [] [] [])), Ans.o Orc.dflt, Ans.o (Orc.val 42 (I (↑(min t.length (2 : Nat)) : Int)) (H.mk [] [] [])), Ans.o (Orc.b false), Ans.o (Orc.b false), Ans.o (Orc.b true), Ans.o (Orc.b false), Ans.o (Orc.b false), Ans.o (Orc.b false), Ans.o (Orc.b false), Ans.o (Orc.b false), Ans.o (Orc.val 85 (I (↑k : Int)) H.nil), Ans.o (Orc.val 88 (AV.sl (ints (List.take k t)) k Room.no) H.nil), Ans.loop [(3 : Nat), (7 : Nat), (8 : Nat), (88 : Nat), (89 : Nat), (90 : Nat)] [Out.mk Unit (AX.exit (0 : Nat)) [(3 : Nat), (7 : Nat)] (fun x => True) (fun x => [I (↑(clr t) : Int), lsA (less t k k)]) (fun x => lsH (less t k k)) fun y => [Ans.o (Orc.val 105 (AV.tup [I (↑(clr (less t k k)) : Int), I 0]) (H.mk [] (tk (less t k k)) [])), Ans.o Orc.dflt, Ans.o (Orc.b false), Ans.o (Orc.val 117 (I ((↑(clr t) : Int) - (1 : Int))) H.nil), Ans.o (Orc.b true), Ans.o (Orc.val 122 (AV.bool true) (H.mk [] (tk (less t k k)) []))]]]) (aCall (Sof cs17) (AV.fn (Fn.func (19 : Nat)) [] []) [AV.sl (ints t) t.length r] (H.mk [] [] []) = some (AV.sl (ints t) t.length (rcl r), H.mk [] [] []) ∧ aCall (Sof cs17) (AV.fn (Fn.func (49 : Nat)) [] []) [AV.sl (ints t) t.length (rcl r)] (H.mk [] [] []) = some (AV.tup [I (↑(clr t) : Int), I 0], H.mk [] [] []) ∧ aCall (Sof cs17) (AV.fn (Fn.func (21 : Nat)) [] []) [AV.sl (ints t) t.length r] (H.mk [] [] []) = some (AV.bool true, H.mk [] [] []) ∧ aCall (Sof cs17) (AV.fn (Fn.func (19 : Nat)) [] []) [AV.sl (ints t) t.length r] (H.mk [] [] []) = some (AV.sl (ints t) t.length (rcl r), H.mk [] [] []) ∧ aCall (Sof cs17) (AV.fn (Fn.func (41 : Nat)) [] []) [AV.sl (ints t) t.length (rcl r)] (H.mk [] [] []) = some (AV.tup [AV.sl (trisA (cyc t)) (cyc t).length (cR t), I 0], H.mk [] [] []) ∧ aMin false [I (↑t.length : Int), I 2] = some (I (↑(min t.length (2 : Nat)) : Int)) ∧ (↑(min t.length (2 : Nat)) : Int) ≤ (↑(clr t) : Int) ∧ (↑(clr t) : Int) ≤ (↑t.length : Int) ∧ (4 : Int) ≤ (↑t.length : Int) ∧ (3 : Int) ≤ (↑(clr t) : Int) ∧ (↑t.length : Int) < (8 : Int) ∧ (↑(clr t) : Int) ≠ (↑t.length : Int) ∧ (↑(cyc t).length : Int) ≠ (0 : Int) ∧ (↑t.length : Int) ≠ (1 : Int) ∧ aBin Tryd.prog BinOp.sub (3 : Nat) (I (↑t.length : Int)) (I 1) = some (I (↑k : Int)) ∧ aSlice Tryd.prog (22 : Nat) (AV.sl (ints t) t.length r) none (some (I (↑k : Int))) none (H.mk [] [] []) = some (AV.sl (ints (List.take k t)) k Room.no) ∧ LoopS (Env.mk Tryd.prog (Sof cs17) (Pof (P := Tryd.prog) []) H.nil.base (300 : Nat)) (loopAt Tryd.f17 (0 : Nat)) (124 : Nat) [(3 : Nat), (7 : Nat), (8 : Nat), (88 : Nat), (89 : Nat), (90 : Nat)] [I (↑(clr t) : Int), AV.sl [] (0 : Nat) Room.nil, I (↑k : Int), AV.sl (ints (List.take k t)) k Room.no, I (↑k : Int), I 0] (H.mk [] [] []) [Out.mk Unit (AX.exit (0 : Nat)) [(3 : Nat), (7 : Nat)] (fun x => True) (fun x => [I (↑(clr t) : Int), lsA (less t k k)]) (fun x => lsH (less t k k)) fun y => [Ans.o (Orc.val 105 (AV.tup [I (↑(clr (less t k k)) : Int), I 0]) (H.mk [] (tk (less t k k)) [])), Ans.o Orc.dflt, Ans.o (Orc.b false), Ans.o (Orc.val 117 (I ((↑(clr t) : Int) - (1 : Int))) H.nil), Ans.o (Orc.b true), Ans.o (Orc.val 122 (AV.bool true) (H.mk [] (tk (less t k k)) []))]] ∧ (∀ (y : Unit), True → ∀ (u : Nat → AV), aCall (Sof cs17) (AV.fn (Fn.func (49 : Nat)) [] []) [AV.sl (ints (less t k k)) (less t k k).length (rm (0 : Nat) (less t k k))] (H.mk [] (tk (less t k k)) []) = some (AV.tup [I (↑(clr (less t k k)) : Int), I 0], H.mk [] (tk (less t k k)) []) ∧ (↑(clr (less t k k)) : Int) ≠ (↑(clr t) : Int) ∧ aBin Tryd.prog BinOp.sub (3 : Nat) (I (↑(clr t) : Int)) (I 1) = some (I ((↑(clr t) : Int) - (1 : Int))) ∧ (↑(clr (less t k k)) : Int) = (↑(clr t) : Int) - (1 : Int) ∧ aCall (Sof cs17) (AV.fn (Fn.func (24 : Nat)) [] []) [] (H.mk [] (tk (less t k k)) []) = some (AV.bool true, H.mk [] (tk (less t k k)) []) ∧ (AV.bool true, H.mk [] [] []) = (AV.bool true, H.mk [] [] [])) ∧ True) (by kernel_rfl) ?_
    refine ⟨acall_hit (c := c19s.to) (t, r) _ rfl p19, ?_⟩
    refine ⟨by first | exact acall_hit (c := c49t.to) (t, rcl r) _ rfl p49 | exact acall_hit (c := c49t.to) (less t k k, rm 0 (less t k k)) _ rfl pl49, ?_⟩
    refine ⟨acall_b (acall_hit (c := c21.to) (t, r) _ rfl p21) hb, ?_⟩
    refine ⟨acall_hit (c := c19s.to) (t, r) _ rfl p19, ?_⟩
    refine ⟨acall_hit (c := c41t.to) (t, rcl r) _ rfl p49, ?_⟩
    refine ⟨congrArg (fun z => some (I z)) ev0, ?_⟩
    refine ⟨by first | with_reducible assumption | omega | assumption, ?_⟩
    refine ⟨by first | with_reducible assumption | omega | assumption, ?_⟩
    refine ⟨by first | with_reducible assumption | omega | assumption, ?_⟩
    refine ⟨by first | with_reducible assumption | omega | assumption, ?_⟩
    refine ⟨by first | with_reducible assumption | omega | assumption, ?_⟩
    refine ⟨by first | with_reducible assumption | omega | assumption, ?_⟩
    refine ⟨by first | with_reducible assumption | omega | assumption, ?_⟩
    refine ⟨by first | with_reducible assumption | omega | assumption, ?_⟩
    refine ⟨told_sub (by with_reducible assumption), ?_⟩
    refine ⟨sl_intsr (by kernel_rfl) hkt hri, ?_⟩
    refine ⟨lp, ?_⟩
    refine And.intro ?_ ?_
    · skip
      intro y
      intro w1
      intro u
      refine ⟨by first | exact acall_hit (c := c49t.to) (t, rcl r) _ rfl p49 | exact acall_hit (c := c49t.to) (less t k k, rm 0 (less t k k)) _ rfl pl49, ?_⟩
      refine ⟨by first | with_reducible assumption | omega | assumption, ?_⟩
      refine ⟨told_sub (by with_reducible assumption), ?_⟩
      refine ⟨by first | with_reducible assumption | omega | assumption, ?_⟩
      refine ⟨acall_hit (c := c24.to) () _ rfl trivial, ?_⟩
      first | with_reducible rfl | (refine bleaf_t ?_; omega) | (refine bleaf_f ?_; omega) | (refine ileaf ?_; omega) | rfl | (exfalso; omega)
    · skip
      trivial
theorem r17_8t (t : List Int) (r : Room) (hp : pL t r) (h : Tn t) (hn : t.length = 8) (hc : cyc t = []) : Body (En6 cs17) none1 Tryd.f17 [ls t r] .nil (.bool true, .nil) := by
  obtain ⟨h1, h2⟩ := hp
  have h8 := h.s.2
  have h0 := h.s.1
  have hr := h1.2.1
  have hb := tn_t h
  have p19 : (lim t.length ∧ rok t r ∧ em t r) ∧ t.length ≤ 11 := ⟨h1, by omega⟩
  have p49 : Tn t ∧ rok t (rcl r) := ⟨h, rcl_rok hr⟩
  have p21 : lim t.length ∧ rok t r := ⟨h1.1, hr⟩
  have q1 := clr_le h
  have q2 : min t.length 2 ≤ clr t := by
    rcases Nat.lt_or_ge t.length 2 with w | w
    · have := clr_tame h (m := 0) (by omega); omega
    · have := clr_tame h (m := 1) (by omega); omega
  have ev0 : pick2 false (t.length : Int) 2 = ((min t.length 2 : Nat) : Int) := by
    simp only [pick2, Bool.false_eq_true, if_false]; split <;> omega
  have g1 : ((min t.length 2 : Nat) : Int) ≤ ((clr t : Nat) : Int) := by omega
  have g2 : ((clr t : Nat) : Int) ≤ (t.length : Int) := by omega
  obtain ⟨k, hk⟩ : ∃ k, t.length = k + 1 := ⟨t.length - 1, by omega⟩
  have hk1 : 1 ≤ k := by omega
  have hri : r ≠ .nil := rok_idx hr (show 0 < t.length by omega)
  have ek : t.length - 1 = k := by omega
  have g7 : (t.length : Int) ≠ 1 := by omega
  have hkt : k < t.length := by omega
  have ev1 : IntKind.i64.wrap ((t.length : Int) - 1) = (k : Int) := by rw [wr _ (by omega) (by omega)]; omega
  have g3 : (4 : Int) ≤ (t.length : Int) := by omega
  have g4 : (8 : Int) ≤ (t.length : Int) := by omega
  have g3b : (3 : Int) ≤ ((clr t : Nat) : Int) := by have := clr_tame h (m := 2) (by omega); omega
  have g4b : (4 : Int) ≤ ((clr t : Nat) : Int) := by have := clr_tame h (m := 3) (by omega); omega
  have g5 : ((cyc t).length : Int) = 0 := by rw [hc]; rfl
  have g6 : ((clr t : Nat) : Int) = (t.length : Int) := by rw [(clr_all h).2 hc]
  have hT := less_tn h hk1 hkt
  have hL := less_len t k k
  have pl49 : Tn (less t k k) ∧ rok (less t k k) (rm 0 (less t k k)) := ⟨hT, fun hne => by
    cases hq : less t k k with
    | nil => exact absurd hq hne
    | cons x l => intro e; cases e⟩
  have lp := lp17 t h k hk hk1
  have q4 := less_clr h (by omega)
  rw [ek] at q4
  have ev2 : IntKind.i64.wrap (((clr t : Nat) : Int) - 1) = ((clr t : Nat) : Int) - 1 := wr _ (by omega) (by omega)
  rcases q4 with q4 | q4
  · have g8 : ((clr (less t k k) : Nat) : Int) = ((clr t : Nat) : Int) := by rw [q4]
    refine body_s ([Ans.o (Orc.val 14 (AV.sl (ints t) t.length (rcl r)) (H.mk [] [] [])), Ans.o (Orc.val 15 (AV.tup [I (↑(clr t) : Int), I 0]) (H.mk [] [] [])), Ans.o Orc.dflt, Ans.o (Orc.val 22 (AV.bool true) (H.mk [] [] [])), Ans.o (Orc.val 32 (AV.sl (ints t) t.length (rcl r)) (H.mk [] [] [])), Ans.o (Orc.val 33 (AV.tup [AV.sl (trisA (cyc t)) (cyc t).length (cR t), I 0]) (H.mk [] [] [])), Ans.o Orc.dflt, Ans.o (Orc.val 42 (I (↑(min t.length (2 : Nat)) : Int)) (H.mk [] [] [])), Ans.o (Orc.b false), Ans.o (Orc.b false), Ans.o (Orc.b true), Ans.o (Orc.b false), Ans.o (Orc.b true), Ans.o (Orc.b false), Ans.o (Orc.b true), Ans.o (Orc.b true), Ans.o (Orc.b false), Ans.o (Orc.val 85 (I (↑k : Int)) H.nil), Ans.o (Orc.val 88 (AV.sl (ints (List.take k t)) k Room.no) H.nil), Ans.loop [(3 : Nat), (7 : Nat), (8 : Nat), (88 : Nat), (89 : Nat), (90 : Nat)] [Out.mk Unit (AX.exit (0 : Nat)) [(3 : Nat), (7 : Nat)] (fun x => True) (fun x => [I (↑(clr t) : Int), lsA (less t k k)]) (fun x => lsH (less t k k)) fun y => [Ans.o (Orc.val 105 (AV.tup [I (↑(clr (less t k k)) : Int), I 0]) (H.mk [] (tk (less t k k)) [])), Ans.o Orc.dflt, Ans.o (Orc.b true), Ans.o (Orc.val 122 (AV.bool true) (H.mk [] (tk (less t k k)) []))]]]) (aCall (Sof cs17) (AV.fn (Fn.func (19 : Nat)) [] []) [AV.sl (ints t) t.length r] (H.mk [] [] []) = some (AV.sl (ints t) t.length (rcl r), H.mk [] [] []) ∧ aCall (Sof cs17) (AV.fn (Fn.func (49 : Nat)) [] []) [AV.sl (ints t) t.length (rcl r)] (H.mk [] [] []) = some (AV.tup [I (↑(clr t) : Int), I 0], H.mk [] [] []) ∧ aCall (Sof cs17) (AV.fn (Fn.func (21 : Nat)) [] []) [AV.sl (ints t) t.length r] (H.mk [] [] []) = some (AV.bool true, H.mk [] [] []) ∧ aCall (Sof cs17) (AV.fn (Fn.func (19 : Nat)) [] []) [AV.sl (ints t) t.length r] (H.mk [] [] []) = some (AV.sl (ints t) t.length (rcl r), H.mk [] [] []) ∧ aCall (Sof cs17) (AV.fn (Fn.func (41 : Nat)) [] []) [AV.sl (ints t) t.length (rcl r)] (H.mk [] [] []) = some (AV.tup [AV.sl (trisA (cyc t)) (cyc t).length (cR t), I 0], H.mk [] [] []) ∧ aMin false [I (↑t.length : Int), I 2] = some (I (↑(min t.length (2 : Nat)) : Int)) ∧ (↑(min t.length (2 : Nat)) : Int) ≤ (↑(clr t) : Int) ∧ (↑(clr t) : Int) ≤ (↑t.length : Int) ∧ (4 : Int) ≤ (↑t.length : Int) ∧ (3 : Int) ≤ (↑(clr t) : Int) ∧ (8 : Int) ≤ (↑t.length : Int) ∧ (4 : Int) ≤ (↑(clr t) : Int) ∧ (↑(clr t) : Int) = (↑t.length : Int) ∧ (↑(cyc t).length : Int) = (0 : Int) ∧ (↑t.length : Int) ≠ (1 : Int) ∧ aBin Tryd.prog BinOp.sub (3 : Nat) (I (↑t.length : Int)) (I 1) = some (I (↑k : Int)) ∧ aSlice Tryd.prog (22 : Nat) (AV.sl (ints t) t.length r) none (some (I (↑k : Int))) none (H.mk [] [] []) = some (AV.sl (ints (List.take k t)) k Room.no) ∧ LoopS (Env.mk Tryd.prog (Sof cs17) (Pof (P := Tryd.prog) []) H.nil.base (300 : Nat)) (loopAt Tryd.f17 (0 : Nat)) (124 : Nat) [(3 : Nat), (7 : Nat), (8 : Nat), (88 : Nat), (89 : Nat), (90 : Nat)] [I (↑(clr t) : Int), AV.sl [] (0 : Nat) Room.nil, I (↑k : Int), AV.sl (ints (List.take k t)) k Room.no, I (↑k : Int), I 0] (H.mk [] [] []) [Out.mk Unit (AX.exit (0 : Nat)) [(3 : Nat), (7 : Nat)] (fun x => True) (fun x => [I (↑(clr t) : Int), lsA (less t k k)]) (fun x => lsH (less t k k)) fun y => [Ans.o (Orc.val 105 (AV.tup [I (↑(clr (less t k k)) : Int), I 0]) (H.mk [] (tk (less t k k)) [])), Ans.o Orc.dflt, Ans.o (Orc.b true), Ans.o (Orc.val 122 (AV.bool true) (H.mk [] (tk (less t k k)) []))]] ∧ (∀ (y : Unit), True → ∀ (u : Nat → AV), aCall (Sof cs17) (AV.fn (Fn.func (49 : Nat)) [] []) [AV.sl (ints (less t k k)) (less t k k).length (rm (0 : Nat) (less t k k))] (H.mk [] (tk (less t k k)) []) = some (AV.tup [I (↑(clr (less t k k)) : Int), I 0], H.mk [] (tk (less t k k)) []) ∧ (↑(clr (less t k k)) : Int) = (↑(clr t) : Int) ∧ aCall (Sof cs17) (AV.fn (Fn.func (24 : Nat)) [] []) [] (H.mk [] (tk (less t k k)) []) = some (AV.bool true, H.mk [] (tk (less t k k)) []) ∧ (AV.bool true, H.mk [] [] []) = (AV.bool true, H.mk [] [] [])) ∧ True) (by kernel_rfl) ?_
    refine ⟨acall_hit (c := c19s.to) (t, r) _ rfl p19, ?_⟩
    refine ⟨by first | exact acall_hit (c := c49t.to) (t, rcl r) _ rfl p49 | exact acall_hit (c := c49t.to) (less t k k, rm 0 (less t k k)) _ rfl pl49, ?_⟩
    refine ⟨acall_b (acall_hit (c := c21.to) (t, r) _ rfl p21) hb, ?_⟩
    refine ⟨acall_hit (c := c19s.to) (t, r) _ rfl p19, ?_⟩
    refine ⟨acall_hit (c := c41t.to) (t, rcl r) _ rfl p49, ?_⟩
    refine ⟨congrArg (fun z => some (I z)) ev0, ?_⟩
    refine ⟨by first | with_reducible assumption | omega | assumption, ?_⟩
    refine ⟨by first | with_reducible assumption | omega | assumption, ?_⟩
    refine ⟨by first | with_reducible assumption | omega | assumption, ?_⟩
    refine ⟨by first | with_reducible assumption | omega | assumption, ?_⟩
    refine ⟨by first | with_reducible assumption | omega | assumption, ?_⟩
    refine ⟨by first | with_reducible assumption | omega | assumption, ?_⟩
    refine ⟨by first | with_reducible assumption | omega | assumption, ?_⟩
    refine ⟨by first | with_reducible assumption | omega | assumption, ?_⟩
    refine ⟨by first | with_reducible assumption | omega | assumption, ?_⟩
    refine ⟨told_sub (by with_reducible assumption), ?_⟩
    refine ⟨sl_intsr (by kernel_rfl) hkt hri, ?_⟩
    refine ⟨lp, ?_⟩
    refine And.intro ?_ ?_
    · skip
      intro y
      intro w1
      intro u
      refine ⟨by first | exact acall_hit (c := c49t.to) (t, rcl r) _ rfl p49 | exact acall_hit (c := c49t.to) (less t k k, rm 0 (less t k k)) _ rfl pl49, ?_⟩
      refine ⟨by first | with_reducible assumption | omega | assumption, ?_⟩
      refine ⟨acall_hit (c := c24.to) () _ rfl trivial, ?_⟩
      first | with_reducible rfl | (refine bleaf_t ?_; omega) | (refine bleaf_f ?_; omega) | (refine ileaf ?_; omega) | rfl | (exfalso; omega)
    · skip
      trivial
  · have g8 : ((clr (less t k k) : Nat) : Int) ≠ ((clr t : Nat) : Int) := by omega
    have g9 : ((clr (less t k k) : Nat) : Int) = ((clr t : Nat) : Int) - 1 := by omega
    refine body_s ([Ans.o (Orc.val 14 (AV.sl (ints t) t.length (rcl r)) (H.mk [] [] [])), Ans.o (Orc.val 15 (AV.tup [I (↑(clr t) : Int), I 0]) (H.mk [] [] [])), Ans.o Orc.dflt, Ans.o (Orc.val 22 (AV.bool true) (H.mk [] [] [])), Ans.o (Orc.val 32 (AV.sl (ints t) t.length (rcl r)) (H.mk [] [] [])), Ans.o (Orc.val 33 (AV.tup [AV.sl (trisA (cyc t)) (cyc t).length (cR t), I 0]) (H.mk [] [] [])), Ans.o Orc.dflt, Ans.o (Orc.val 42 (I (↑(min t.length (2 : Nat)) : Int)) (H.mk [] [] [])), Ans.o (Orc.b false), Ans.o (Orc.b false), Ans.o (Orc.b true), Ans.o (Orc.b false), Ans.o (Orc.b true), Ans.o (Orc.b false), Ans.o (Orc.b true), Ans.o (Orc.b true), Ans.o (Orc.b false), Ans.o (Orc.val 85 (I (↑k : Int)) H.nil), Ans.o (Orc.val 88 (AV.sl (ints (List.take k t)) k Room.no) H.nil), Ans.loop [(3 : Nat), (7 : Nat), (8 : Nat), (88 : Nat), (89 : Nat), (90 : Nat)] [Out.mk Unit (AX.exit (0 : Nat)) [(3 : Nat), (7 : Nat)] (fun x => True) (fun x => [I (↑(clr t) : Int), lsA (less t k k)]) (fun x => lsH (less t k k)) fun y => [Ans.o (Orc.val 105 (AV.tup [I (↑(clr (less t k k)) : Int), I 0]) (H.mk [] (tk (less t k k)) [])), Ans.o Orc.dflt, Ans.o (Orc.b false), Ans.o (Orc.val 117 (I ((↑(clr t) : Int) - (1 : Int))) H.nil), Ans.o (Orc.b true), Ans.o (Orc.val 122 (AV.bool true) (H.mk [] (tk (less t k k)) []))]]]) (aCall (Sof cs17) (AV.fn (Fn.func (19 : Nat)) [] []) [AV.sl (ints t) t.length r] (H.mk [] [] []) = some (AV.sl (ints t) t.length (rcl r), H.mk [] [] []) ∧ aCall (Sof cs17) (AV.fn (Fn.func (49 : Nat)) [] []) [AV.sl (ints t) t.length (rcl r)] (H.mk [] [] []) = some (AV.tup [I (↑(clr t) : Int), I 0], H.mk [] [] []) ∧ aCall (Sof cs17) (AV.fn (Fn.func (21 : Nat)) [] []) [AV.sl (ints t) t.length r] (H.mk [] [] []) = some (AV.bool true, H.mk [] [] []) ∧ aCall (Sof cs17) (AV.fn (Fn.func (19 : Nat)) [] []) [AV.sl (ints t) t.length r] (H.mk [] [] []) = some (AV.sl (ints t) t.length (rcl r), H.mk [] [] []) ∧ aCall (Sof cs17) (AV.fn (Fn.func (41 : Nat)) [] []) [AV.sl (ints t) t.length (rcl r)] (H.mk [] [] []) = some (AV.tup [AV.sl (trisA (cyc t)) (cyc t).length (cR t), I 0], H.mk [] [] []) ∧ aMin false [I (↑t.length : Int), I 2] = some (I (↑(min t.length (2 : Nat)) : Int)) ∧ (↑(min t.length (2 : Nat)) : Int) ≤ (↑(clr t) : Int) ∧ (↑(clr t) : Int) ≤ (↑t.length : Int) ∧ (4 : Int) ≤ (↑t.length : Int) ∧ (3 : Int) ≤ (↑(clr t) : Int) ∧ (8 : Int) ≤ (↑t.length : Int) ∧ (4 : Int) ≤ (↑(clr t) : Int) ∧ (↑(clr t) : Int) = (↑t.length : Int) ∧ (↑(cyc t).length : Int) = (0 : Int) ∧ (↑t.length : Int) ≠ (1 : Int) ∧ aBin Tryd.prog BinOp.sub (3 : Nat) (I (↑t.length : Int)) (I 1) = some (I (↑k : Int)) ∧ aSlice Tryd.prog (22 : Nat) (AV.sl (ints t) t.length r) none (some (I (↑k : Int))) none (H.mk [] [] []) = some (AV.sl (ints (List.take k t)) k Room.no) ∧ LoopS (Env.mk Tryd.prog (Sof cs17) (Pof (P := Tryd.prog) []) H.nil.base (300 : Nat)) (loopAt Tryd.f17 (0 : Nat)) (124 : Nat) [(3 : Nat), (7 : Nat), (8 : Nat), (88 : Nat), (89 : Nat), (90 : Nat)] [I (↑(clr t) : Int), AV.sl [] (0 : Nat) Room.nil, I (↑k : Int), AV.sl (ints (List.take k t)) k Room.no, I (↑k : Int), I 0] (H.mk [] [] []) [Out.mk Unit (AX.exit (0 : Nat)) [(3 : Nat), (7 : Nat)] (fun x => True) (fun x => [I (↑(clr t) : Int), lsA (less t k k)]) (fun x => lsH (less t k k)) fun y => [Ans.o (Orc.val 105 (AV.tup [I (↑(clr (less t k k)) : Int), I 0]) (H.mk [] (tk (less t k k)) [])), Ans.o Orc.dflt, Ans.o (Orc.b false), Ans.o (Orc.val 117 (I ((↑(clr t) : Int) - (1 : Int))) H.nil), Ans.o (Orc.b true), Ans.o (Orc.val 122 (AV.bool true) (H.mk [] (tk (less t k k)) []))]] ∧ (∀ (y : Unit), True → ∀ (u : Nat → AV), aCall (Sof cs17) (AV.fn (Fn.func (49 : Nat)) [] []) [AV.sl (ints (less t k k)) (less t k k).length (rm (0 : Nat) (less t k k))] (H.mk [] (tk (less t k k)) []) = some (AV.tup [I (↑(clr (less t k k)) : Int), I 0], H.mk [] (tk (less t k k)) []) ∧ (↑(clr (less t k k)) : Int) ≠ (↑(clr t) : Int) ∧ aBin Tryd.prog BinOp.sub (3 : Nat) (I (↑(clr t) : Int)) (I 1) = some (I ((↑(clr t) : Int) - (1 : Int))) ∧ (↑(clr (less t k k)) : Int) = (↑(clr t) : Int) - (1 : Int) ∧ aCall (Sof cs17) (AV.fn (Fn.func (24 : Nat)) [] []) [] (H.mk [] (tk (less t k k)) []) = some (AV.bool true, H.mk [] (tk (less t k k)) []) ∧ (AV.bool true, H.mk [] [] []) = (AV.bool true, H.mk [] [] [])) ∧ True) (by kernel_rfl) ?_
    refine ⟨acall_hit (c := c19s.to) (t, r) _ rfl p19, ?_⟩
    refine ⟨by first | exact acall_hit (c := c49t.to) (t, rcl r) _ rfl p49 | exact acall_hit (c := c49t.to) (less t k k, rm 0 (less t k k)) _ rfl pl49, ?_⟩
    refine ⟨acall_b (acall_hit (c := c21.to) (t, r) _ rfl p21) hb, ?_⟩
    refine ⟨acall_hit (c := c19s.to) (t, r) _ rfl p19, ?_⟩
    refine ⟨acall_hit (c := c41t.to) (t, rcl r) _ rfl p49, ?_⟩
    refine ⟨congrArg (fun z => some (I z)) ev0, ?_⟩
    refine ⟨by first | with_reducible assumption | omega | assumption, ?_⟩
    refine ⟨by first | with_reducible assumption | omega | assumption, ?_⟩
    refine ⟨by first | with_reducible assumption | omega | assumption, ?_⟩
    refine ⟨by first | with_reducible assumption | omega | assumption, ?_⟩
    refine ⟨by first | with_reducible assumption | omega | assumption, ?_⟩
    refine ⟨by first | with_reducible assumption | omega | assumption, ?_⟩
    refine ⟨by first | with_reducible assumption | omega | assumption, ?_⟩
    refine ⟨by first | with_reducible assumption | omega | assumption, ?_⟩
    refine ⟨by first | with_reducible assumption | omega | assumption, ?_⟩
    refine ⟨told_sub (by with_reducible assumption), ?_⟩
    refine ⟨sl_intsr (by kernel_rfl) hkt hri, ?_⟩
    refine ⟨lp, ?_⟩
    refine And.intro ?_ ?_
    · skip
      intro y
      intro w1
      intro u
      refine ⟨by first | exact acall_hit (c := c49t.to) (t, rcl r) _ rfl p49 | exact acall_hit (c := c49t.to) (less t k k, rm 0 (less t k k)) _ rfl pl49, ?_⟩
      refine ⟨by first | with_reducible assumption | omega | assumption, ?_⟩
      refine ⟨told_sub (by with_reducible assumption), ?_⟩
      refine ⟨by first | with_reducible assumption | omega | assumption, ?_⟩
      refine ⟨acall_hit (c := c24.to) () _ rfl trivial, ?_⟩
      first | with_reducible rfl | (refine bleaf_t ?_; omega) | (refine bleaf_f ?_; omega) | (refine ileaf ?_; omega) | rfl | (exfalso; omega)
    · skip
      trivial
theorem r17_8f (t : List Int) (r : Room) (hp : pL t r) (h : Tn t) (hn : t.length = 8) (hc : ¬ cyc t = []) : Body (En6 cs17) none1 Tryd.f17 [ls t r] .nil (.bool true, .nil) := by
  obtain ⟨h1, h2⟩ := hp
  have h8 := h.s.2
  have h0 := h.s.1
  have hr := h1.2.1
  have hb := tn_t h
  have p19 : (lim t.length ∧ rok t r ∧ em t r) ∧ t.length ≤ 11 := ⟨h1, by omega⟩
  have p49 : Tn t ∧ rok t (rcl r) := ⟨h, rcl_rok hr⟩
  have p21 : lim t.length ∧ rok t r := ⟨h1.1, hr⟩
  have q1 := clr_le h
  have q2 : min t.length 2 ≤ clr t := by
    rcases Nat.lt_or_ge t.length 2 with w | w
    · have := clr_tame h (m := 0) (by omega); omega
    · have := clr_tame h (m := 1) (by omega); omega
  have ev0 : pick2 false (t.length : Int) 2 = ((min t.length 2 : Nat) : Int) := by
    simp only [pick2, Bool.false_eq_true, if_false]; split <;> omega
  have g1 : ((min t.length 2 : Nat) : Int) ≤ ((clr t : Nat) : Int) := by omega
  have g2 : ((clr t : Nat) : Int) ≤ (t.length : Int) := by omega
  obtain ⟨k, hk⟩ : ∃ k, t.length = k + 1 := ⟨t.length - 1, by omega⟩
  have hk1 : 1 ≤ k := by omega
  have hri : r ≠ .nil := rok_idx hr (show 0 < t.length by omega)
  have ek : t.length - 1 = k := by omega
  have g7 : (t.length : Int) ≠ 1 := by omega
  have hkt : k < t.length := by omega
  have ev1 : IntKind.i64.wrap ((t.length : Int) - 1) = (k : Int) := by rw [wr _ (by omega) (by omega)]; omega
  have g3 : (4 : Int) ≤ (t.length : Int) := by omega
  have g4 : (8 : Int) ≤ (t.length : Int) := by omega
  have g3b : (3 : Int) ≤ ((clr t : Nat) : Int) := by have := clr_tame h (m := 2) (by omega); omega
  have g4b : (4 : Int) ≤ ((clr t : Nat) : Int) := by have := clr_tame h (m := 3) (by omega); omega
  have g5 : ((cyc t).length : Int) ≠ 0 := fun e => hc (List.length_eq_zero_iff.1 (by omega))
  have g6 : ((clr t : Nat) : Int) ≠ (t.length : Int) := fun e => hc ((clr_all h).1 (by omega))
  have hT := less_tn h hk1 hkt
  have hL := less_len t k k
  have pl49 : Tn (less t k k) ∧ rok (less t k k) (rm 0 (less t k k)) := ⟨hT, fun hne => by
    cases hq : less t k k with
    | nil => exact absurd hq hne
    | cons x l => intro e; cases e⟩
  have lp := lp17 t h k hk hk1
  have q4 := less_clr h (by omega)
  rw [ek] at q4
  have ev2 : IntKind.i64.wrap (((clr t : Nat) : Int) - 1) = ((clr t : Nat) : Int) - 1 := wr _ (by omega) (by omega)
  rcases q4 with q4 | q4
  · have g8 : ((clr (less t k k) : Nat) : Int) = ((clr t : Nat) : Int) := by rw [q4]
    refine body_s ([Ans.o (Orc.val 14 (AV.sl (ints t) t.length (rcl r)) (H.mk [] [] [])), Ans.o (Orc.val 15 (AV.tup [I (↑(clr t) : Int), I 0]) (H.mk [] [] [])), Ans.o Orc.dflt, Ans.o (Orc.val 22 (AV.bool true) (H.mk [] [] [])), Ans.o (Orc.val 32 (AV.sl (ints t) t.length (rcl r)) (H.mk [] [] [])), Ans.o (Orc.val 33 (AV.tup [AV.sl (trisA (cyc t)) (cyc t).length (cR t), I 0]) (H.mk [] [] [])), Ans.o Orc.dflt, Ans.o (Orc.val 42 (I (↑(min t.length (2 : Nat)) : Int)) (H.mk [] [] [])), Ans.o (Orc.b false), Ans.o (Orc.b false), Ans.o (Orc.b true), Ans.o (Orc.b false), Ans.o (Orc.b true), Ans.o (Orc.b false), Ans.o (Orc.b false), Ans.o (Orc.b false), Ans.o (Orc.b false), Ans.o (Orc.val 85 (I (↑k : Int)) H.nil), Ans.o (Orc.val 88 (AV.sl (ints (List.take k t)) k Room.no) H.nil), Ans.loop [(3 : Nat), (7 : Nat), (8 : Nat), (88 : Nat), (89 : Nat), (90 : Nat)] [Out.mk Unit (AX.exit (0 : Nat)) [(3 : Nat), (7 : Nat)] (fun x => True) (fun x => [I (↑(clr t) : Int), lsA (less t k k)]) (fun x => lsH (less t k k)) fun y => [Ans.o (Orc.val 105 (AV.tup [I (↑(clr (less t k k)) : Int), I 0]) (H.mk [] (tk (less t k k)) [])), Ans.o Orc.dflt, Ans.o (Orc.b true), Ans.o (Orc.val 122 (AV.bool true) (H.mk [] (tk (less t k k)) []))]]]) (aCall (Sof cs17) (AV.fn (Fn.func (19 : Nat)) [] []) [AV.sl (ints t) t.length r] (H.mk [] [] []) = some (AV.sl (ints t) t.length (rcl r), H.mk [] [] []) ∧ aCall (Sof cs17) (AV.fn (Fn.func (49 : Nat)) [] []) [AV.sl (ints t) t.length (rcl r)] (H.mk [] [] []) = some (AV.tup [I (↑(clr t) : Int), I 0], H.mk [] [] []) ∧ aCall (Sof cs17) (AV.fn (Fn.func (21 : Nat)) [] []) [AV.sl (ints t) t.length r] (H.mk [] [] []) = some (AV.bool true, H.mk [] [] []) ∧ aCall (Sof cs17) (AV.fn (Fn.func (19 : Nat)) [] []) [AV.sl (ints t) t.length r] (H.mk [] [] []) = some (AV.sl (ints t) t.length (rcl r), H.mk [] [] []) ∧ aCall (Sof cs17) (AV.fn (Fn.func (41 : Nat)) [] []) [AV.sl (ints t) t.length (rcl r)] (H.mk [] [] []) = some (AV.tup [AV.sl (trisA (cyc t)) (cyc t).length (cR t), I 0], H.mk [] [] []) ∧ aMin false [I (↑t.length : Int), I 2] = some (I (↑(min t.length (2 : Nat)) : Int)) ∧ (↑(min t.length (2 : Nat)) : Int) ≤ (↑(clr t) : Int) ∧ (↑(clr t) : Int) ≤ (↑t.length : Int) ∧ (4 : Int) ≤ (↑t.length : Int) ∧ (3 : Int) ≤ (↑(clr t) : Int) ∧ (8 : Int) ≤ (↑t.length : Int) ∧ (4 : Int) ≤ (↑(clr t) : Int) ∧ (↑(clr t) : Int) ≠ (↑t.length : Int) ∧ (↑(cyc t).length : Int) ≠ (0 : Int) ∧ (↑t.length : Int) ≠ (1 : Int) ∧ aBin Tryd.prog BinOp.sub (3 : Nat) (I (↑t.length : Int)) (I 1) = some (I (↑k : Int)) ∧ aSlice Tryd.prog (22 : Nat) (AV.sl (ints t) t.length r) none (some (I (↑k : Int))) none (H.mk [] [] []) = some (AV.sl (ints (List.take k t)) k Room.no) ∧ LoopS (Env.mk Tryd.prog (Sof cs17) (Pof (P := Tryd.prog) []) H.nil.base (300 : Nat)) (loopAt Tryd.f17 (0 : Nat)) (124 : Nat) [(3 : Nat), (7 : Nat), (8 : Nat), (88 : Nat), (89 : Nat), (90 : Nat)] [I (↑(clr t) : Int), AV.sl [] (0 : Nat) Room.nil, I (↑k : Int), AV.sl (ints (List.take k t)) k Room.no, I (↑k : Int), I 0] (H.mk [] [] []) [Out.mk Unit (AX.exit (0 : Nat)) [(3 : Nat), (7 : Nat)] (fun x => True) (fun x => [I (↑(clr t) : Int), lsA (less t k k)]) (fun x => lsH (less t k k)) fun y => [Ans.o (Orc.val 105 (AV.tup [I (↑(clr (less t k k)) : Int), I 0]) (H.mk [] (tk (less t k k)) [])), Ans.o Orc.dflt, Ans.o (Orc.b true), Ans.o (Orc.val 122 (AV.bool true) (H.mk [] (tk (less t k k)) []))]] ∧ (∀ (y : Unit), True → ∀ (u : Nat → AV), aCall (Sof cs17) (AV.fn (Fn.func (49 : Nat)) [] []) [AV.sl (ints (less t k k)) (less t k k).length (rm (0 : Nat) (less t k k))] (H.mk [] (tk (less t k k)) []) = some (AV.tup [I (↑(clr (less t k k)) : Int), I 0], H.mk [] (tk (less t k k)) []) ∧ (↑(clr (less t k k)) : Int) = (↑(clr t) : Int) ∧ aCall (Sof cs17) (AV.fn (Fn.func (24 : Nat)) [] []) [] (H.mk [] (tk (less t k k)) []) = some (AV.bool true, H.mk [] (tk (less t k k)) []) ∧ (AV.bool true, H.mk [] [] []) = (AV.bool true, H.mk [] [] [])) ∧ True) (by kernel_rfl) ?_
    refine ⟨acall_hit (c := c19s.to) (t, r) _ rfl p19, ?_⟩
    refine ⟨by first | exact acall_hit (c := c49t.to) (t, rcl r) _ rfl p49 | exact acall_hit (c := c49t.to) (less t k k, rm 0 (less t k k)) _ rfl pl49, ?_⟩
    refine ⟨acall_b (acall_hit (c := c21.to) (t, r) _ rfl p21) hb, ?_⟩
    refine ⟨acall_hit (c := c19s.to) (t, r) _ rfl p19, ?_⟩
    refine ⟨acall_hit (c := c41t.to) (t, rcl r) _ rfl p49, ?_⟩
    refine ⟨congrArg (fun z => some (I z)) ev0, ?_⟩
    refine ⟨by first | with_reducible assumption | omega | assumption, ?_⟩
    refine ⟨by first | with_reducible assumption | omega | assumption, ?_⟩
    refine ⟨by first | with_reducible assumption | omega | assumption, ?_⟩
    refine ⟨by first | with_reducible assumption | omega | assumption, ?_⟩
    refine ⟨by first | with_reducible assumption | omega | assumption, ?_⟩
    refine ⟨by first | with_reducible assumption | omega | assumption, ?_⟩
    refine ⟨by first | with_reducible assumption | omega | assumption, ?_⟩
    refine ⟨by first | with_reducible assumption | omega | assumption, ?_⟩
    refine ⟨by first | with_reducible assumption | omega | assumption, ?_⟩
    refine ⟨told_sub (by with_reducible assumption), ?_⟩
    refine ⟨sl_intsr (by kernel_rfl) hkt hri, ?_⟩
    refine ⟨lp, ?_⟩
    refine And.intro ?_ ?_
    · skip
      intro y
      intro w1
      intro u
      refine ⟨by first | exact acall_hit (c := c49t.to) (t, rcl r) _ rfl p49 | exact acall_hit (c := c49t.to) (less t k k, rm 0 (less t k k)) _ rfl pl49, ?_⟩
      refine ⟨by first | with_reducible assumption | omega | assumption, ?_⟩
      refine ⟨acall_hit (c := c24.to) () _ rfl trivial, ?_⟩
      first | with_reducible rfl | (refine bleaf_t ?_; omega) | (refine bleaf_f ?_; omega) | (refine ileaf ?_; omega) | rfl | (exfalso; omega)
    · skip
      trivial
  · have g8 : ((clr (less t k k) : Nat) : Int) ≠ ((clr t : Nat) : Int) := by omega
    have g9 : ((clr (less t k k) : Nat) : Int) = ((clr t : Nat) : Int) - 1 := by omega
    refine body_s ([Ans.o (Orc.val 14 (AV.sl (ints t) t.length (rcl r)) (H.mk [] [] [])), Ans.o (Orc.val 15 (AV.tup [I (↑(clr t) : Int), I 0]) (H.mk [] [] [])), Ans.o Orc.dflt, Ans.o (Orc.val 22 (AV.bool true) (H.mk [] [] [])), Ans.o (Orc.val 32 (AV.sl (ints t) t.length (rcl r)) (H.mk [] [] [])), Ans.o (Orc.val 33 (AV.tup [AV.sl (trisA (cyc t)) (cyc t).length (cR t), I 0]) (H.mk [] [] [])), Ans.o Orc.dflt, Ans.o (Orc.val 42 (I (↑(min t.length (2 : Nat)) : Int)) (H.mk [] [] [])), Ans.o (Orc.b false), Ans.o (Orc.b false), Ans.o (Orc.b true), Ans.o (Orc.b false), Ans.o (Orc.b true), Ans.o (Orc.b false), Ans.o (Orc.b false), Ans.o (Orc.b false), Ans.o (Orc.b false), Ans.o (Orc.val 85 (I (↑k : Int)) H.nil), Ans.o (Orc.val 88 (AV.sl (ints (List.take k t)) k Room.no) H.nil), Ans.loop [(3 : Nat), (7 : Nat), (8 : Nat), (88 : Nat), (89 : Nat), (90 : Nat)] [Out.mk Unit (AX.exit (0 : Nat)) [(3 : Nat), (7 : Nat)] (fun x => True) (fun x => [I (↑(clr t) : Int), lsA (less t k k)]) (fun x => lsH (less t k k)) fun y => [Ans.o (Orc.val 105 (AV.tup [I (↑(clr (less t k k)) : Int), I 0]) (H.mk [] (tk (less t k k)) [])), Ans.o Orc.dflt, Ans.o (Orc.b false), Ans.o (Orc.val 117 (I ((↑(clr t) : Int) - (1 : Int))) H.nil), Ans.o (Orc.b true), Ans.o (Orc.val 122 (AV.bool true) (H.mk [] (tk (less t k k)) []))]]]) (aCall (Sof cs17) (AV.fn (Fn.func (19 : Nat)) [] []) [AV.sl (ints t) t.length r] (H.mk [] [] []) = some (AV.sl (ints t) t.length (rcl r), H.mk [] [] []) ∧ aCall (Sof cs17) (AV.fn (Fn.func (49 : Nat)) [] []) [AV.sl (ints t) t.length (rcl r)] (H.mk [] [] []) = some (AV.tup [I (↑(clr t) : Int), I 0], H.mk [] [] []) ∧ aCall (Sof cs17) (AV.fn (Fn.func (21 : Nat)) [] []) [AV.sl (ints t) t.length r] (H.mk [] [] []) = some (AV.bool true, H.mk [] [] []) ∧ aCall (Sof cs17) (AV.fn (Fn.func (19 : Nat)) [] []) [AV.sl (ints t) t.length r] (H.mk [] [] []) = some (AV.sl (ints t) t.length (rcl r), H.mk [] [] []) ∧ aCall (Sof cs17) (AV.fn (Fn.func (41 : Nat)) [] []) [AV.sl (ints t) t.length (rcl r)] (H.mk [] [] []) = some (AV.tup [AV.sl (trisA (cyc t)) (cyc t).length (cR t), I 0], H.mk [] [] []) ∧ aMin false [I (↑t.length : Int), I 2] = some (I (↑(min t.length (2 : Nat)) : Int)) ∧ (↑(min t.length (2 : Nat)) : Int) ≤ (↑(clr t) : Int) ∧ (↑(clr t) : Int) ≤ (↑t.length : Int) ∧ (4 : Int) ≤ (↑t.length : Int) ∧ (3 : Int) ≤ (↑(clr t) : Int) ∧ (8 : Int) ≤ (↑t.length : Int) ∧ (4 : Int) ≤ (↑(clr t) : Int) ∧ (↑(clr t) : Int) ≠ (↑t.length : Int) ∧ (↑(cyc t).length : Int) ≠ (0 : Int) ∧ (↑t.length : Int) ≠ (1 : Int) ∧ aBin Tryd.prog BinOp.sub (3 : Nat) (I (↑t.length : Int)) (I 1) = some (I (↑k : Int)) ∧ aSlice Tryd.prog (22 : Nat) (AV.sl (ints t) t.length r) none (some (I (↑k : Int))) none (H.mk [] [] []) = some (AV.sl (ints (List.take k t)) k Room.no) ∧ LoopS (Env.mk Tryd.prog (Sof cs17) (Pof (P := Tryd.prog) []) H.nil.base (300 : Nat)) (loopAt Tryd.f17 (0 : Nat)) (124 : Nat) [(3 : Nat), (7 : Nat), (8 : Nat), (88 : Nat), (89 : Nat), (90 : Nat)] [I (↑(clr t) : Int), AV.sl [] (0 : Nat) Room.nil, I (↑k : Int), AV.sl (ints (List.take k t)) k Room.no, I (↑k : Int), I 0] (H.mk [] [] []) [Out.mk Unit (AX.exit (0 : Nat)) [(3 : Nat), (7 : Nat)] (fun x => True) (fun x => [I (↑(clr t) : Int), lsA (less t k k)]) (fun x => lsH (less t k k)) fun y => [Ans.o (Orc.val 105 (AV.tup [I (↑(clr (less t k k)) : Int), I 0]) (H.mk [] (tk (less t k k)) [])), Ans.o Orc.dflt, Ans.o (Orc.b false), Ans.o (Orc.val 117 (I ((↑(clr t) : Int) - (1 : Int))) H.nil), Ans.o (Orc.b true), Ans.o (Orc.val 122 (AV.bool true) (H.mk [] (tk (less t k k)) []))]] ∧ (∀ (y : Unit), True → ∀ (u : Nat → AV), aCall (Sof cs17) (AV.fn (Fn.func (49 : Nat)) [] []) [AV.sl (ints (less t k k)) (less t k k).length (rm (0 : Nat) (less t k k))] (H.mk [] (tk (less t k k)) []) = some (AV.tup [I (↑(clr (less t k k)) : Int), I 0], H.mk [] (tk (less t k k)) []) ∧ (↑(clr (less t k k)) : Int) ≠ (↑(clr t) : Int) ∧ aBin Tryd.prog BinOp.sub (3 : Nat) (I (↑(clr t) : Int)) (I 1) = some (I ((↑(clr t) : Int) - (1 : Int))) ∧ (↑(clr (less t k k)) : Int) = (↑(clr t) : Int) - (1 : Int) ∧ aCall (Sof cs17) (AV.fn (Fn.func (24 : Nat)) [] []) [] (H.mk [] (tk (less t k k)) []) = some (AV.bool true, H.mk [] (tk (less t k k)) []) ∧ (AV.bool true, H.mk [] [] []) = (AV.bool true, H.mk [] [] [])) ∧ True) (by kernel_rfl) ?_
    refine ⟨acall_hit (c := c19s.to) (t, r) _ rfl p19, ?_⟩
    refine ⟨by first | exact acall_hit (c := c49t.to) (t, rcl r) _ rfl p49 | exact acall_hit (c := c49t.to) (less t k k, rm 0 (less t k k)) _ rfl pl49, ?_⟩
    refine ⟨acall_b (acall_hit (c := c21.to) (t, r) _ rfl p21) hb, ?_⟩
    refine ⟨acall_hit (c := c19s.to) (t, r) _ rfl p19, ?_⟩
    refine ⟨acall_hit (c := c41t.to) (t, rcl r) _ rfl p49, ?_⟩
    refine ⟨congrArg (fun z => some (I z)) ev0, ?_⟩
    refine ⟨by first | with_reducible assumption | omega | assumption, ?_⟩
    refine ⟨by first | with_reducible assumption | omega | assumption, ?_⟩
    refine ⟨by first | with_reducible assumption | omega | assumption, ?_⟩
    refine ⟨by first | with_reducible assumption | omega | assumption, ?_⟩
    refine ⟨by first | with_reducible assumption | omega | assumption, ?_⟩
    refine ⟨by first | with_reducible assumption | omega | assumption, ?_⟩
    refine ⟨by first | with_reducible assumption | omega | assumption, ?_⟩
    refine ⟨by first | with_reducible assumption | omega | assumption, ?_⟩
    refine ⟨by first | with_reducible assumption | omega | assumption, ?_⟩
    refine ⟨told_sub (by with_reducible assumption), ?_⟩
    refine ⟨sl_intsr (by kernel_rfl) hkt hri, ?_⟩
    refine ⟨lp, ?_⟩
    refine And.intro ?_ ?_
    · skip
      intro y
      intro w1
      intro u
      refine ⟨by first | exact acall_hit (c := c49t.to) (t, rcl r) _ rfl p49 | exact acall_hit (c := c49t.to) (less t k k, rm 0 (less t k k)) _ rfl pl49, ?_⟩
      refine ⟨by first | with_reducible assumption | omega | assumption, ?_⟩
      refine ⟨told_sub (by with_reducible assumption), ?_⟩
      refine ⟨by first | with_reducible assumption | omega | assumption, ?_⟩
      refine ⟨acall_hit (c := c24.to) () _ rfl trivial, ?_⟩
      first | with_reducible rfl | (refine bleaf_t ?_; omega) | (refine bleaf_f ?_; omega) | (refine ileaf ?_; omega) | rfl | (exfalso; omega)
    · skip
      trivial
theorem clear_ok (t : List Int) (q : RK) (h1 : t.length ≤ Go.maxLen) (h2 : q.mt = true → t = []) (h3 : inI t) : CallOk Tryd.prog 17 [ls t (rr q)] .nil (.bool true) .nil := by
  have hp := pL_rr h1 h2 h3
  by_cases h : Tn t
  · have h8 := h.s.2
    have h0 := h.s.1
    have hn : t.length = 1 ∨ (2 ≤ t.length ∧ t.length < 4) ∨ (4 ≤ t.length ∧ t.length < 8) ∨ t.length = 8 := by omega
    by_cases hc : cyc t = []
    · rcases hn with hn | hn | hn | hn
      · exact (r17_1t t _ hp h hn hc).run ok17 ct17 rfl
      · exact (r17_2t t _ hp h hn hc).run ok17 ct17 rfl
      · exact (r17_4t t _ hp h hn hc).run ok17 ct17 rfl
      · exact (r17_8t t _ hp h hn hc).run ok17 ct17 rfl
    · rcases hn with hn | hn | hn | hn
      · exact (r17_1f t _ hp h hn hc).run ok17 ct17 rfl
      · exact (r17_2f t _ hp h hn hc).run ok17 ct17 rfl
      · exact (r17_4f t _ hp h hn hc).run ok17 ct17 rfl
      · exact (r17_8f t _ hp h hn hc).run ok17 ct17 rfl
  · exact (r17f t _ hp h).run ok17 (.pure _ (.pure _ (.pure _ .nil))) rfl
end Go.Proofs.Rnk

