/- Layer 5: graphs beside each other; the reference's pairs. -/
import Derived.Test.YtlomlnkafakloaaDoorSuH
import Derived.Test.YtlomlnkafakloaaDoorSuK
import Derived.Test.YtlomlnkafakloaaDoorSuJ0
import Derived.Test.YtlomlnkafakloaaDoorSuQ0
import Derived.KernelRfl
set_option linter.unusedSimpArgs false
set_option linter.unusedVariables false
set_option linter.unnecessarySimpa false
set_option maxHeartbeats 4000000
set_option maxRecDepth 100000
namespace Go.Proofs.Sur
open Go Go.VM

abbrev shG (g : List Int) (x : Int) : Int := x * ((2 ^ g.length : Nat) : Int)
def suV (g h : List Int) : List Int := g ++ h.map (shG g)
theorem suV_len (g h : List Int) : (suV g h).length = g.length + h.length := by simp [suV]
abbrev iac1 (l : List Int) : AV := .sl (ints l) l.length (.tok 0 1)
abbrev ih1 (l : List Int) : H := ⟨[], [l.length], []⟩
theorem app_intst {P : Program} {t : TypeId} (hT : appT P t = true) {l : List Int} {x : Int} (h0 : l.length ≠ 0) (hn : l.length ≤ 1000000000) :
    aAppend P t t (iac1 l) (.sl [I x] 1 .full) (ih1 l) = some (iac1 (l ++ [x]), ih1 (l ++ [x])) := by
  have := app_one hT (xs := ints l) (c := I x) (n := l.length) (ts := [l.length]) (r := .tok 0 1) (by simp) rfl hn (.inr ⟨h0, rfl, rfl⟩)
  rw [this]
  simp [ints]
theorem sh_wrap {g : List Int} (hg : g.length ≤ 6) {x : Int} (h0 : 0 ≤ x) (h : x < 64) : IntKind.i64.wrap (x * 2 ^ min ((g.length : Int)).toNat IntKind.i64.bits) = shG g x := by
  obtain ⟨a, rfl⟩ : ∃ a : Nat, x = a := ⟨x.toNat, by omega⟩
  have h2 := pw_64 hg
  have h3 : a * 2 ^ g.length ≤ 64 * 64 := Nat.mul_le_mul (by omega) h2
  rw [i_shl (by omega) (by omega), shG, Int.natCast_mul]
abbrev o46 (g h : List Int) : List Out := [.mk Unit (.exit 0) [6] (fun _ => True) (fun _ => [iac1 (suV g h)]) (fun _ => ih1 (suV g h)) (fun _ => [])]
theorem simp46 : allSimpleM none1 (loopAt Tryd.f46 0) = true := by kernel_rfl
theorem lp46 (g : List Int) (r : Room) (h : List Int) (q : Room) (hg : Gr g) (hh : Gr h) (hq : rok h q) :
    LoopS (En6 [c67.to]) (loopAt Tryd.f46 0) 41 [0, 6, 26, 27, 28] [ls g r, iac1 g, ls h q, I h.length, I 0] (ih1 g) (o46 g h) := by
  have hR : Rests (En6 [c67.to]) none1 := rests mixed (.pure _ .nil)
  have g6 := hg.1.2
  have h6 := hh.1.2
  have g1 := hg.1.1
  refine loop_s hR simp46 none (by intro _ h; cases h) (fun j vs H => H = ih1 (g ++ (h.take j).map (shG g)) ∧ vs = [ls g r, iac1 (g ++ (h.take j).map (shG g)), ls h q, I h.length, I j]) h.length ⟨by simp, by simp⟩ (by intro _ h; cases h) ?_
  rintro j vs H hj ⟨rfl, rfl⟩
  generalize hM : g ++ (h.take j).map (shG g) = m
  have hm : m.length ≤ 100 ∧ m.length ≠ 0 := by rw [← hM, List.length_append, List.length_map, List.length_take]; omega
  by_cases hz : (j : Int) < h.length
  · have hz' : j < h.length := by omega
    have hr' := rok_idx hq hz'
    have hb := rg_lt hh.1 hh.2.1 hz'
    have ev0 := sh_wrap g6 hb.1 hb.2
    have hs : g ++ (h.take (j + 1)).map (shG g) = m ++ [shG g (at_ h j)] := by rw [take_map _ h i0 hz', ← hM, List.append_assoc]
    refine ⟨[Ans.o (Orc.b true), Ans.o (Orc.val 30 (AV.cptr (ints (List.drop j h))) H.nil), Ans.o (Orc.val 31 (I (h.getD j i0)) H.nil), Ans.o (Orc.val 36 (I (shG g (at_ h j))) H.nil), Ans.o (Orc.val 38 (AV.sl (ints (m ++ [shG g (at_ h j)])) (m ++ [shG g (at_ h j)]).length (Room.tok 0 1)) (H.mk [] [(m ++ [shG g (at_ h j)]).length] []))], fun u => of_eq ((↑j : Int) < (↑h.length : Int) ∧ aIndexAddr Tryd.prog (22 : Nat) (AV.sl (ints h) h.length q) (I (↑j : Int)) = some (AV.cptr (ints (List.drop j h))) ∧ aLoad Tryd.prog (3 : Nat) (ints (List.drop j h)) = some (I (h.getD j i0)) ∧ aBin Tryd.prog BinOp.shl (3 : Nat) (I (h.getD j i0)) (I (↑g.length : Int)) = some (I (shG g (at_ h j))) ∧ aAppend Tryd.prog (22 : Nat) (22 : Nat) (AV.sl (ints m) m.length (Room.tok 0 1)) (AV.sl [I (shG g (at_ h j))] (1 : Nat) Room.full) (H.mk [] [m.length] []) = some (AV.sl (ints (m ++ [shG g (at_ h j)])) (m ++ [shG g (at_ h j)]).length (Room.tok 0 1), H.mk [] [(m ++ [shG g (at_ h j)]).length] []) ∧ IntKind.i64.wrap ((↑j : Int) + (1 : Int)) = (↑j : Int) + (1 : Int) ∧ (41 : Nat) = (41 : Nat) ∧ j < h.length ∧ Keep (H.mk [] [(m ++ [shG g (at_ h j)]).length] [] = H.mk [] [(g ++ List.map (shG g) (List.take (j + (1 : Nat)) h)).length] [] ∧ [AV.sl (ints g) g.length r, AV.sl (ints (m ++ [shG g (at_ h j)])) (m ++ [shG g (at_ h j)]).length (Room.tok 0 1), AV.sl (ints h) h.length q, I (↑h.length : Int), I ((↑j : Int) + (1 : Int))] = [AV.sl (ints g) g.length r, AV.sl (ints (g ++ List.map (shG g) (List.take (j + (1 : Nat)) h))) (g ++ List.map (shG g) (List.take (j + (1 : Nat)) h)).length (Room.tok 0 1), AV.sl (ints h) h.length q, I (↑h.length : Int), I (↑(j + (1 : Nat)) : Int)])) (by kernel_rfl) ?_⟩
    refine ⟨by first | with_reducible assumption | omega | assumption, ?_⟩
    refine ⟨by first | exact ix_ints (by kernel_rfl) (by omega) (by assumption) | exact ix_ints (by kernel_rfl) (by omega) (rok_idx (by assumption) (by omega)), ?_⟩
    refine ⟨by first | exact ld_ints (by kernel_rfl) (by kernel_rfl) (by omega) | exact ldm_ints (by kernel_rfl) (by kernel_rfl) (by first | omega | (simp; omega)), ?_⟩
    refine ⟨by first | exact told_shl (by first | exact Int.natCast_nonneg _ | omega) (by with_reducible assumption) | exact told_shl (by omega) rfl, ?_⟩
    refine ⟨app_intst (by kernel_rfl) hm.2 (by omega), ?_⟩
    refine ⟨wr _ (by omega) (by omega), ?_⟩
    refine ⟨by first | with_reducible assumption | omega | assumption, ?_⟩
    refine ⟨by first | with_reducible assumption | omega | assumption, ?_⟩
    exact ⟨by rw [hs], by rw [hs]; rfl⟩
  · have hz : (h.length : Int) ≤ j := by omega
    have hj' : j = h.length := by omega
    subst hj'
    rw [List.take_length] at hM
    subst hM
    refine ⟨[Ans.o (Orc.b false)], fun u => of_eq ((↑h.length : Int) ≤ (↑h.length : Int) ∧ (41 : Nat) = (41 : Nat) ∧ hits [Out.mk Unit (AX.exit (0 : Nat)) [(6 : Nat)] (fun x => True) (fun x => [iac1 (suV g h)]) (fun x => ih1 (suV g h)) fun x => []] (AX.exit (0 : Nat)) [AV.sl (ints g) g.length r, u (1 : Nat), u (2 : Nat), u (3 : Nat), u (4 : Nat), u (5 : Nat), AV.sl (ints (g ++ List.map (shG g) h)) (g ++ List.map (shG g) h).length (Room.tok 0 1), u (7 : Nat), u (8 : Nat), u (9 : Nat), u (10 : Nat), u (11 : Nat), u (12 : Nat), u (13 : Nat), u (14 : Nat), u (15 : Nat), u (16 : Nat), u (17 : Nat), u (18 : Nat), u (19 : Nat), u (20 : Nat), u (21 : Nat), u (22 : Nat), u (23 : Nat), u (24 : Nat), u (25 : Nat), AV.sl (ints h) h.length q, I (↑h.length : Int), I (↑h.length : Int), AV.bool false, u (30 : Nat), u (31 : Nat), u (32 : Nat), u (33 : Nat), u (34 : Nat), u (35 : Nat), u (36 : Nat), u (37 : Nat), u (38 : Nat), u (39 : Nat), u (40 : Nat)] (H.mk [] [(g ++ List.map (shG g) h).length] [])) (by kernel_rfl) ?_⟩
    refine ⟨by first | with_reducible assumption | omega | assumption, ?_⟩
    refine ⟨by first | with_reducible assumption | omega | assumption, ?_⟩
    exact .inl ⟨(), trivial, rfl, rfl, rfl⟩
noncomputable def smE (g h : List Int) : Int := if grB g = true ∧ grB h = true then (if 6 < g.length + h.length then 6 else 0) else 2
theorem sm_ok {g h : List Int} (e : smE g h = 0) : Gr g ∧ Gr h ∧ g.length + h.length ≤ 6 := by
  simp only [smE] at e
  split at e
  · rename_i hc
    split at e
    · cases e
    · exact ⟨grB_iff.1 hc.1, grB_iff.1 hc.2, by omega⟩
  · cases e
theorem ok46g : FokM Tryd.prog none1 46 Tryd.f46 := ⟨mixed, by kernel_rfl, by kernel_rfl, by kernel_rfl, by kernel_rfl⟩
theorem r46g (g : List Int) (r : Room) (h : List Int) (q : Room) (hp : ((lim g.length ∧ rok g r) ∧ lim h.length ∧ rok h q) ∧ smE g h = 0) : Body ⟨Tryd.prog, Sof (P := Tryd.prog) [c67.to], Pof (P := Tryd.prog) [], H.nil.base, 300⟩ none1 Tryd.f46 [ls g r, ls h q] .nil (.tup [iac1 (suV g h), I 0], ⟨[], [(suV g h).length], []⟩) := by
  obtain ⟨⟨p1, p2⟩, e⟩ := hp
  obtain ⟨hg, hh, h6⟩ := sm_ok e
  have b1 := grB_t hg
  have b2 := grB_t hh
  have g6 := hg.1.2
  have g1 := hg.1.1
  have q6 := hh.1.2
  have ev0 : IntKind.i64.wrap ((g.length : Int) + (h.length : Int)) = ((g.length + h.length : Nat) : Int) := by
    have : (g.length : Int) + (h.length : Int) = ((g.length + h.length : Nat) : Int) := by simp
    rw [this]; exact i_wrap (by omega)
  have hs : ((g.length + h.length : Nat) : Int) ≤ 6 := by omega
  have lv : leave ⟨0, 0, 0⟩ (.tup [iac1 (suV g h), I 0]) (ih1 (suV g h)) = (.tup [iac1 (suV g h), I 0], ih1 (suV g h)) := by
    generalize suV g h = m
    simp [leave, AV.bnd, AV.bnds, frz, Room.bnd, retok]
  refine body_s ([Ans.o (Orc.val 10 (AV.bool true) (H.mk [] [] [])), Ans.o (Orc.val 14 (AV.bool true) (H.mk [] [] [])), Ans.o (Orc.val 21 (I (↑(g.length + h.length) : Int)) H.nil), Ans.o (Orc.b false), Ans.o (Orc.val 25 (AV.sl (ints g) g.length (Room.tok 0 1)) (H.mk [] [g.length] [])), Ans.loop [(0 : Nat), (6 : Nat), (26 : Nat), (27 : Nat), (28 : Nat)] [Out.mk Unit (AX.exit (0 : Nat)) [(6 : Nat)] (fun x => True) (fun x => [iac1 (suV g h)]) (fun x => ih1 (suV g h)) fun y => []]]) (aCall (Sof [c67.to]) (AV.fn (Fn.func (67 : Nat)) [] []) [AV.sl (ints g) g.length r] (H.mk [] [] []) = some (AV.bool true, H.mk [] [] []) ∧ aCall (Sof [c67.to]) (AV.fn (Fn.func (67 : Nat)) [] []) [AV.sl (ints h) h.length q] (H.mk [] [] []) = some (AV.bool true, H.mk [] [] []) ∧ aBin Tryd.prog BinOp.add (3 : Nat) (I (↑g.length : Int)) (I (↑h.length : Int)) = some (I (↑(g.length + h.length) : Int)) ∧ (↑(g.length + h.length) : Int) ≤ (6 : Int) ∧ aAppend Tryd.prog (22 : Nat) (22 : Nat) (AV.sl [] (0 : Nat) Room.full) (AV.sl (ints g) g.length r) (H.mk [] [] []) = some (AV.sl (ints g) g.length (Room.tok 0 1), H.mk [] [g.length] []) ∧ LoopS (Env.mk Tryd.prog (Sof [c67.to]) (Pof (P := Tryd.prog) []) H.nil.base (300 : Nat)) (loopAt Tryd.f46 (0 : Nat)) (41 : Nat) [(0 : Nat), (6 : Nat), (26 : Nat), (27 : Nat), (28 : Nat)] [AV.sl (ints g) g.length r, AV.sl (ints g) g.length (Room.tok 0 1), AV.sl (ints h) h.length q, I (↑h.length : Int), I 0] (H.mk [] [g.length] []) [Out.mk Unit (AX.exit (0 : Nat)) [(6 : Nat)] (fun x => True) (fun x => [iac1 (suV g h)]) (fun x => ih1 (suV g h)) fun y => []] ∧ (∀ (y : Unit), True → ∀ (u : Nat → AV), leave (Base.mk H.nil.blk.length H.nil.toks.length H.nil.maps.length) (AV.tup [AV.sl (ints (suV g h)) (suV g h).length (Room.tok 0 1), I 0]) (H.mk [] [(suV g h).length] []) = (AV.tup [AV.sl (ints (suV g h)) (suV g h).length (Room.tok 0 1), I 0], H.mk [] [(suV g h).length] [])) ∧ True) (by kernel_rfl) ?_
  refine ⟨by first | exact acall_b (acall_hit (c := c67.to) (g, r) _ rfl p1) b1 | exact acall_b (acall_hit (c := c67.to) (h, q) _ rfl p2) b2, ?_⟩
  refine ⟨by first | exact acall_b (acall_hit (c := c67.to) (g, r) _ rfl p1) b1 | exact acall_b (acall_hit (c := c67.to) (h, q) _ rfl p2) b2, ?_⟩
  refine ⟨told_add (by with_reducible assumption), ?_⟩
  refine ⟨by first | with_reducible assumption | omega | assumption, ?_⟩
  refine ⟨app_new (by kernel_rfl) (by omega) (by simp) (ints_one _) (by omega), ?_⟩
  refine ⟨lp46 g r h q hg hh p2.2, ?_⟩
  refine And.intro ?_ ?_
  · skip
    intro y
    intro w1
    intro u
    exact lv
  · skip
    trivial
noncomputable def c46g : PCtr Tryd.prog := slctr ok46g (X := List Int × Room × List Int × Room) (fun x => [ls x.1 x.2.1, ls x.2.2.1 x.2.2.2]) (fun x => ((lim x.1.length ∧ rok x.1 x.2.1) ∧ lim x.2.2.1.length ∧ rok x.2.2.1 x.2.2.2) ∧ smE x.1 x.2.2.1 = 0) (fun x => .tup [ls (suV x.1 x.2.2.1) .no, I 0]) (by intro x y e _ _; simp at e; simp [e]) (fun x => by simp [AV.bnds, AV.bnd, AV.wk, rm_wk_bnd]) (fun x => by first | rfl | (simp [AV.bnd, rm_wk_bnd]; done)  | (simp [AV.bnd, AV.bnds, rm_wk_bnd]; done) | simp [AV.bnd, AV.bnds, Room.bnd, rm_wk_bnd]) (fun x hx => ⟨_, _, _, .tup [iac1 (suV x.1 x.2.2.1), I 0], [(suV x.1 x.2.2.1).length], .pure c67 (.nil), r46g (x.1) (x.2.1).wk (x.2.2.1) (x.2.2.2).wk (by first | exact hx | (simp only [rok_wk]; exact hx) | (simp only [rok_wk, lst_wk]; exact hx) | (simp only [rok_wk, lst_wk, lsn_wk]; exact hx)), by simp [AV.plain, AV.plains, plains_ints, plains_rows], by first | (simp only [AV.wkd, wkds_rows]; done) | (simp only [AV.wkd, wkds_ints]; done) | simp [AV.wkd, AV.wkds, Room.wk]⟩)
theorem ok46e : FokM Tryd.prog none1 46 Tryd.f46 := ⟨mixed, by kernel_rfl, by kernel_rfl, by kernel_rfl, by kernel_rfl⟩
theorem r46e (g : List Int) (r : Room) (h : List Int) (q : Room) (hp : ((lim g.length ∧ rok g r) ∧ lim h.length ∧ rok h q) ∧ smE g h ≠ 0) : Body ⟨Tryd.prog, Sof (P := Tryd.prog) [c67.to], Pof (P := Tryd.prog) [], H.nil.base, 300⟩ none1 Tryd.f46 [ls g r, ls h q] .nil (.tup [.sl [] 0 .nil, I (smE g h)], .nil) := by
  obtain ⟨⟨p1, p2⟩, e⟩ := hp
  cases b1 : grB g
  · have e1 : smE g h = 2 := if_neg (fun c => by rw [b1] at c; cases c.1)
    rw [e1]
    cases b2 : grB h
    · refine body_s ([Ans.o (Orc.val 10 (AV.bool false) (H.mk [] [] []))]) (aCall (Sof [c67.to]) (AV.fn (Fn.func (67 : Nat)) [] []) [AV.sl (ints g) g.length r] (H.mk [] [] []) = some (AV.bool false, H.mk [] [] []) ∧ (AV.tup [AV.sl [] (0 : Nat) Room.nil, I 2], H.mk [] [] []) = (AV.tup [AV.sl [] (0 : Nat) Room.nil, I 2], H.mk [] [] [])) (by kernel_rfl) ?_
      refine ⟨by first | exact acall_b (acall_hit (c := c67.to) (g, r) _ rfl p1) b1 | exact acall_b (acall_hit (c := c67.to) (h, q) _ rfl p2) b2, ?_⟩
      rfl
    · refine body_s ([Ans.o (Orc.val 10 (AV.bool false) (H.mk [] [] []))]) (aCall (Sof [c67.to]) (AV.fn (Fn.func (67 : Nat)) [] []) [AV.sl (ints g) g.length r] (H.mk [] [] []) = some (AV.bool false, H.mk [] [] []) ∧ (AV.tup [AV.sl [] (0 : Nat) Room.nil, I 2], H.mk [] [] []) = (AV.tup [AV.sl [] (0 : Nat) Room.nil, I 2], H.mk [] [] [])) (by kernel_rfl) ?_
      refine ⟨by first | exact acall_b (acall_hit (c := c67.to) (g, r) _ rfl p1) b1 | exact acall_b (acall_hit (c := c67.to) (h, q) _ rfl p2) b2, ?_⟩
      rfl
  · cases b2 : grB h
    · have e1 : smE g h = 2 := if_neg (fun c => by rw [b2] at c; cases c.2)
      rw [e1]
      refine body_s ([Ans.o (Orc.val 10 (AV.bool true) (H.mk [] [] [])), Ans.o (Orc.val 14 (AV.bool false) (H.mk [] [] []))]) (aCall (Sof [c67.to]) (AV.fn (Fn.func (67 : Nat)) [] []) [AV.sl (ints g) g.length r] (H.mk [] [] []) = some (AV.bool true, H.mk [] [] []) ∧ aCall (Sof [c67.to]) (AV.fn (Fn.func (67 : Nat)) [] []) [AV.sl (ints h) h.length q] (H.mk [] [] []) = some (AV.bool false, H.mk [] [] []) ∧ (AV.tup [AV.sl [] (0 : Nat) Room.nil, I 2], H.mk [] [] []) = (AV.tup [AV.sl [] (0 : Nat) Room.nil, I 2], H.mk [] [] [])) (by kernel_rfl) ?_
      refine ⟨by first | exact acall_b (acall_hit (c := c67.to) (g, r) _ rfl p1) b1 | exact acall_b (acall_hit (c := c67.to) (h, q) _ rfl p2) b2, ?_⟩
      refine ⟨by first | exact acall_b (acall_hit (c := c67.to) (g, r) _ rfl p1) b1 | exact acall_b (acall_hit (c := c67.to) (h, q) _ rfl p2) b2, ?_⟩
      rfl
    · have g6 := (grB_iff.1 b1).1.2
      have q6 := (grB_iff.1 b2).1.2
      have hs : 6 < g.length + h.length := Classical.byContradiction fun c => e ((if_pos ⟨b1, b2⟩).trans (if_neg c))
      have e1 : smE g h = 6 := (if_pos ⟨b1, b2⟩).trans (if_pos hs)
      have ev0 : IntKind.i64.wrap ((g.length : Int) + (h.length : Int)) = ((g.length + h.length : Nat) : Int) := by
        have : (g.length : Int) + (h.length : Int) = ((g.length + h.length : Nat) : Int) := by simp
        rw [this]; exact i_wrap (by omega)
      have hs' : (6 : Int) < ((g.length + h.length : Nat) : Int) := by omega
      rw [e1]
      refine body_s ([Ans.o (Orc.val 10 (AV.bool true) (H.mk [] [] [])), Ans.o (Orc.val 14 (AV.bool true) (H.mk [] [] [])), Ans.o (Orc.val 21 (I (↑(g.length + h.length) : Int)) H.nil), Ans.o (Orc.b true)]) (aCall (Sof [c67.to]) (AV.fn (Fn.func (67 : Nat)) [] []) [AV.sl (ints g) g.length r] (H.mk [] [] []) = some (AV.bool true, H.mk [] [] []) ∧ aCall (Sof [c67.to]) (AV.fn (Fn.func (67 : Nat)) [] []) [AV.sl (ints h) h.length q] (H.mk [] [] []) = some (AV.bool true, H.mk [] [] []) ∧ aBin Tryd.prog BinOp.add (3 : Nat) (I (↑g.length : Int)) (I (↑h.length : Int)) = some (I (↑(g.length + h.length) : Int)) ∧ (6 : Int) < (↑(g.length + h.length) : Int) ∧ (AV.tup [AV.sl [] (0 : Nat) Room.nil, I 6], H.mk [] [] []) = (AV.tup [AV.sl [] (0 : Nat) Room.nil, I 6], H.mk [] [] [])) (by kernel_rfl) ?_
      refine ⟨by first | exact acall_b (acall_hit (c := c67.to) (g, r) _ rfl p1) b1 | exact acall_b (acall_hit (c := c67.to) (h, q) _ rfl p2) b2, ?_⟩
      refine ⟨by first | exact acall_b (acall_hit (c := c67.to) (g, r) _ rfl p1) b1 | exact acall_b (acall_hit (c := c67.to) (h, q) _ rfl p2) b2, ?_⟩
      refine ⟨told_add (by with_reducible assumption), ?_⟩
      refine ⟨by first | with_reducible assumption | omega | assumption, ?_⟩
      rfl
noncomputable def c46e : PCtr Tryd.prog := sctr ok46e (X := List Int × Room × List Int × Room) (fun x => [ls x.1 x.2.1, ls x.2.2.1 x.2.2.2]) (fun x => ((lim x.1.length ∧ rok x.1 x.2.1) ∧ lim x.2.2.1.length ∧ rok x.2.2.1 x.2.2.2) ∧ smE x.1 x.2.2.1 ≠ 0) (fun x => .tup [.sl [] 0 .nil, I (smE x.1 x.2.2.1)]) (by intro x y e _ _; simp at e; simp [e]) (fun x => by simp [AV.bnds, AV.bnd, AV.wk, rm_wk_bnd]) (fun x => by first | rfl | (simp [AV.bnd, rm_wk_bnd]; done)  | (simp [AV.bnd, AV.bnds, rm_wk_bnd]; done) | simp [AV.bnd, AV.bnds, Room.bnd, rm_wk_bnd]) (fun x hx => ⟨_, _, _, .pure c67 (.nil), r46e (x.1) (x.2.1).wk (x.2.2.1) (x.2.2.2).wk (by first | exact hx | (simp only [rok_wk]; exact hx) | (simp only [rok_wk, lst_wk]; exact hx) | (simp only [rok_wk, lst_wk, lsn_wk]; exact hx))⟩)
end Go.Proofs.Sur

