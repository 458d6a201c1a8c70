/- Layer 5: rows that fit; sums with one row more. -/
import Derived.Test.YtlomlnkafakloaaDoorSvA
import Derived.KernelRfl
set_option linter.unusedSimpArgs false
set_option linter.unusedVariables false
set_option linter.unnecessarySimpa false
set_option maxHeartbeats 4000000
set_option maxRecDepth 100000
namespace Go.Proofs.Sur
open Go Go.VM

/-- may x be row i? -/
def ftB (g : List Int) (i : Nat) (x : Int) : Bool := decide (andn x.toNat (at_ g i).toNat = 2 ^ i)
abbrev xr (y x : Int) : Int := ((y.toNat ^^^ x.toNat : Nat) : Int)
/-- all sums, with one row more -/
def wd (s : List Int) (x : Int) : List Int := s ++ s.map (xr · x)
theorem i_andng2 {s : Nat} {x : Int} (hs : s < 64) (h0 : 0 ≤ x) : IntKind.i64.wrap ((BitVec.ofInt IntKind.i64.bits (s : Int) &&& ~~~BitVec.ofInt IntKind.i64.bits x).toNat : Int) = ((andn s x.toNat : Nat) : Int) := by
  have := i_andn (a := s) (b := x.toNat) (by omega)
  have e : ((x.toNat : Nat) : Int) = x := by omega
  rw [e] at this; exact this
theorem i_xori {y x : Int} (hy : 0 ≤ y ∧ y < 64) (hx : 0 ≤ x ∧ x < 64) : IntKind.i64.wrap ((BitVec.ofInt IntKind.i64.bits y ^^^ BitVec.ofInt IntKind.i64.bits x).toNat : Int) = xr y x := by
  obtain ⟨a, rfl⟩ : ∃ a : Nat, y = a := ⟨y.toNat, by omega⟩
  obtain ⟨b, rfl⟩ : ∃ b : Nat, x = b := ⟨x.toNat, by omega⟩
  exact i_xor (by omega) (by omega)
abbrev p94 (g : List Int) (i x : Int) : Prop := Gr g ∧ (0 ≤ i ∧ i.toNat < g.length) ∧ 0 ≤ x ∧ x < 64
theorem ok94 : FokM Tryd.prog none1 94 Tryd.f94 := ⟨mixed, by kernel_rfl, by kernel_rfl, by kernel_rfl, by kernel_rfl⟩
theorem r94 (g : List Int) (r : Room) (i : Int) (x : Int) (hp : p94 g i x ∧ rok g r) : Body ⟨Tryd.prog, Sof (P := Tryd.prog) [], Pof (P := Tryd.prog) [], H.nil.base, 300⟩ none1 Tryd.f94 [ls g r, I i, I x] .nil (.bool (ftB g i.toNat x), .nil) := by
  obtain ⟨⟨hg, ⟨h0, h1⟩, h2, h3⟩, hr⟩ := hp
  obtain ⟨a, rfl⟩ : ∃ a : Nat, x = a := ⟨x.toNat, by omega⟩
  obtain ⟨n, rfl⟩ : ∃ n : Nat, i = n := ⟨i.toNat, by omega⟩
  simp only [Int.toNat_natCast] at h1 ⊢
  have hr' := rok_idx hr h1
  have hb := rg_lt hg.1 hg.2.1 h1
  have g6 := hg.1.2
  have ev0 := i_andng2 (s := a) (by omega) hb.1
  have ev1 := pw_shl (n := n) (by omega)
  by_cases c2 : andn a (at_ g n).toNat = 2 ^ n
  · have c2' : ((andn a (at_ g n).toNat : Nat) : Int) = ((2 ^ n : Nat) : Int) := by omega
    have hv : ftB g n (a : Int) = true := decide_eq_true c2
    rw [hv]
    refine body_s ([Ans.o (Orc.val 10 (AV.cptr (ints (List.drop n g))) H.nil), Ans.o (Orc.val 11 (I (g.getD n i0)) H.nil), Ans.o (Orc.val 12 (I (↑(andn a (at_ g n).toNat) : Int)) H.nil), Ans.o (Orc.val 14 (I (↑((2 : Nat) ^ n) : Int)) H.nil), Ans.o (Orc.b true)]) (aIndexAddr Tryd.prog (22 : Nat) (AV.sl (ints g) g.length r) (I (↑n : Int)) = some (AV.cptr (ints (List.drop n g))) ∧ aLoad Tryd.prog (3 : Nat) (ints (List.drop n g)) = some (I (g.getD n i0)) ∧ aBin Tryd.prog BinOp.andNot (3 : Nat) (I (↑a : Int)) (I (g.getD n i0)) = some (I (↑(andn a (at_ g n).toNat) : Int)) ∧ aBin Tryd.prog BinOp.shl (3 : Nat) (I 1) (I (↑n : Int)) = some (I (↑((2 : Nat) ^ n) : Int)) ∧ (↑(andn a (at_ g n).toNat) : Int) = (↑((2 : Nat) ^ n) : Int) ∧ (AV.bool true, H.mk [] [] []) = (AV.bool true, H.mk [] [] [])) (by kernel_rfl) ?_
    refine ⟨by first | exact ix_ints (by kernel_rfl) (by omega) (by assumption) | exact ix_ints (by kernel_rfl) (by omega) (rok_idx (by assumption) (by omega)), ?_⟩
    refine ⟨by first | exact ld_ints (by kernel_rfl) (by kernel_rfl) (by omega) | exact ldm_ints (by kernel_rfl) (by kernel_rfl) (by first | omega | (simp; omega)), ?_⟩
    refine ⟨told_andn (by with_reducible assumption), ?_⟩
    refine ⟨by first | exact told_shl (by first | exact Int.natCast_nonneg _ | omega) (by with_reducible assumption) | exact told_shl (by omega) rfl, ?_⟩
    refine ⟨by first | with_reducible assumption | omega | assumption, ?_⟩
    first | with_reducible rfl | (refine bleaf_t ?_; omega) | (refine bleaf_f ?_; omega) | (refine ileaf ?_; omega) | rfl | (exfalso; omega)
  · have c2' : ((andn a (at_ g n).toNat : Nat) : Int) ≠ ((2 ^ n : Nat) : Int) := by omega
    have hv : ftB g n (a : Int) = false := decide_eq_false c2
    rw [hv]
    refine body_s ([Ans.o (Orc.val 10 (AV.cptr (ints (List.drop n g))) H.nil), Ans.o (Orc.val 11 (I (g.getD n i0)) H.nil), Ans.o (Orc.val 12 (I (↑(andn a (at_ g n).toNat) : Int)) H.nil), Ans.o (Orc.val 14 (I (↑((2 : Nat) ^ n) : Int)) H.nil), Ans.o (Orc.b false)]) (aIndexAddr Tryd.prog (22 : Nat) (AV.sl (ints g) g.length r) (I (↑n : Int)) = some (AV.cptr (ints (List.drop n g))) ∧ aLoad Tryd.prog (3 : Nat) (ints (List.drop n g)) = some (I (g.getD n i0)) ∧ aBin Tryd.prog BinOp.andNot (3 : Nat) (I (↑a : Int)) (I (g.getD n i0)) = some (I (↑(andn a (at_ g n).toNat) : Int)) ∧ aBin Tryd.prog BinOp.shl (3 : Nat) (I 1) (I (↑n : Int)) = some (I (↑((2 : Nat) ^ n) : Int)) ∧ (↑(andn a (at_ g n).toNat) : Int) ≠ (↑((2 : Nat) ^ n) : Int) ∧ (AV.bool false, H.mk [] [] []) = (AV.bool false, H.mk [] [] [])) (by kernel_rfl) ?_
    refine ⟨by first | exact ix_ints (by kernel_rfl) (by omega) (by assumption) | exact ix_ints (by kernel_rfl) (by omega) (rok_idx (by assumption) (by omega)), ?_⟩
    refine ⟨by first | exact ld_ints (by kernel_rfl) (by kernel_rfl) (by omega) | exact ldm_ints (by kernel_rfl) (by kernel_rfl) (by first | omega | (simp; omega)), ?_⟩
    refine ⟨told_andn (by with_reducible assumption), ?_⟩
    refine ⟨by first | exact told_shl (by first | exact Int.natCast_nonneg _ | omega) (by with_reducible assumption) | exact told_shl (by omega) rfl, ?_⟩
    refine ⟨by first | with_reducible assumption | omega | assumption, ?_⟩
    first | with_reducible rfl | (refine bleaf_t ?_; omega) | (refine bleaf_f ?_; omega) | (refine ileaf ?_; omega) | rfl | (exfalso; omega)
noncomputable def c94 : PCtr Tryd.prog := sctr ok94 (X := List Int × Room × Int × Int) (fun x => [ls x.1 x.2.1, I x.2.2.1, I x.2.2.2]) (fun x => p94 x.1 x.2.2.1 x.2.2.2 ∧ rok x.1 x.2.1) (fun x => .bool (ftB x.1 x.2.2.1.toNat x.2.2.2)) (by intro x y e _ _; simp at e; simp [e]) (fun x => by simp [AV.bnds, AV.bnd, AV.wk, rm_wk_bnd]) (fun x => by first | rfl | (simp [AV.bnd, rm_wk_bnd]; done)  | (simp [AV.bnd, AV.bnds, rm_wk_bnd]; done) | simp [AV.bnd, AV.bnds, Room.bnd, rm_wk_bnd]) (fun x hx => ⟨_, _, _, .nil, r94 (x.1) (x.2.1).wk (x.2.2.1) (x.2.2.2) (by first | exact hx | (simp only [rok_wk]; exact hx) | (simp only [rok_wk, lst_wk]; exact hx) | (simp only [rok_wk, lst_wk, lsn_wk]; exact hx))⟩)
abbrev o95 (s : List Int) (q : Room) (x : Int) : List Out := [.mk Unit (.exit 0) [5] (fun _ => True) (fun _ => [iac1 (wd s x)]) (fun _ => ih1 (wd s x)) (fun _ => [])]
theorem simp95 : allSimpleM none1 (loopAt Tryd.f95 0) = true := by kernel_rfl
theorem lp95 (s : List Int) (q : Room) (x : Int) (hq : rok s q) (hl : 0 < s.length ∧ s.length ≤ 32) (hs : ∀ k, k < s.length → 0 ≤ at_ s k ∧ at_ s k < 64) (hx : 0 ≤ x ∧ x < 64) :
    LoopS (En6 []) (loopAt Tryd.f95 0) 25 [0, 1, 5, 11, 12, 13] [ls s q, I x, iac1 s, ls s q, I s.length, I 0] (ih1 s) (o95 s q x) := by
  have hR : Rests (En6 []) none1 := rests mixed .nil
  refine loop_s hR simp95 none (by intro _ h; cases h) (fun j vs H => H = ih1 (s ++ (s.take j).map (xr · x)) ∧ vs = [ls s q, I x, iac1 (s ++ (s.take j).map (xr · x)), ls s q, I s.length, I j]) s.length ⟨by simp, by simp⟩ (by intro _ h; cases h) ?_
  rintro j vs H hj ⟨rfl, rfl⟩
  generalize hM : s ++ (s.take j).map (xr · x) = m
  have hm : m.length ≤ 100 ∧ m.length ≠ 0 := by rw [← hM, List.length_append, List.length_map, List.length_take]; omega
  by_cases hz : (j : Int) < s.length
  · have hz' : j < s.length := by omega
    have hr' := rok_idx hq hz'
    have ev0 := i_xori (hs j hz') hx
    have hn : s ++ (s.take (j + 1)).map (xr · x) = m ++ [xr (at_ s j) x] := by rw [take_map _ s i0 hz', ← hM, List.append_assoc]
    refine ⟨[Ans.o (Orc.b true), Ans.o (Orc.val 15 (AV.cptr (ints (List.drop j s))) H.nil), Ans.o (Orc.val 16 (I (s.getD j i0)) H.nil), Ans.o (Orc.val 20 (I (xr (at_ s j) x)) H.nil), Ans.o (Orc.val 22 (AV.sl (ints (m ++ [xr (at_ s j) x])) (m ++ [xr (at_ s j) x]).length (Room.tok 0 1)) (H.mk [] [(m ++ [xr (at_ s j) x]).length] []))], fun u => of_eq ((↑j : Int) < (↑s.length : Int) ∧ aIndexAddr Tryd.prog (22 : Nat) (AV.sl (ints s) s.length q) (I (↑j : Int)) = some (AV.cptr (ints (List.drop j s))) ∧ aLoad Tryd.prog (3 : Nat) (ints (List.drop j s)) = some (I (s.getD j i0)) ∧ aBin Tryd.prog BinOp.xor (3 : Nat) (I (s.getD j i0)) (I x) = some (I (xr (at_ s j) x)) ∧ aAppend Tryd.prog (22 : Nat) (22 : Nat) (AV.sl (ints m) m.length (Room.tok 0 1)) (AV.sl [I (xr (at_ s j) x)] (1 : Nat) Room.full) (H.mk [] [m.length] []) = some (AV.sl (ints (m ++ [xr (at_ s j) x])) (m ++ [xr (at_ s j) x]).length (Room.tok 0 1), H.mk [] [(m ++ [xr (at_ s j) x]).length] []) ∧ IntKind.i64.wrap ((↑j : Int) + (1 : Int)) = (↑j : Int) + (1 : Int) ∧ (25 : Nat) = (25 : Nat) ∧ j < s.length ∧ Keep (H.mk [] [(m ++ [xr (at_ s j) x]).length] [] = H.mk [] [(s ++ List.map (fun x_1 => xr x_1 x) (List.take (j + (1 : Nat)) s)).length] [] ∧ [AV.sl (ints s) s.length q, I x, AV.sl (ints (m ++ [xr (at_ s j) x])) (m ++ [xr (at_ s j) x]).length (Room.tok 0 1), AV.sl (ints s) s.length q, I (↑s.length : Int), I ((↑j : Int) + (1 : Int))] = [AV.sl (ints s) s.length q, I x, AV.sl (ints (s ++ List.map (fun x_1 => xr x_1 x) (List.take (j + (1 : Nat)) s))) (s ++ List.map (fun x_1 => xr x_1 x) (List.take (j + (1 : Nat)) s)).length (Room.tok 0 1), AV.sl (ints s) s.length q, I (↑s.length : Int), I (↑(j + (1 : Nat)) : Int)])) (by kernel_rfl) ?_⟩
    refine ⟨by first | with_reducible assumption | omega | assumption, ?_⟩
    refine ⟨by first | exact ix_ints (by kernel_rfl) (by omega) (by assumption) | exact ix_ints (by kernel_rfl) (by omega) (rok_idx (by assumption) (by omega)), ?_⟩
    refine ⟨by first | exact ld_ints (by kernel_rfl) (by kernel_rfl) (by omega) | exact ldm_ints (by kernel_rfl) (by kernel_rfl) (by first | omega | (simp; omega)), ?_⟩
    refine ⟨told_xor (by with_reducible assumption), ?_⟩
    refine ⟨app_intst (by kernel_rfl) hm.2 (by omega), ?_⟩
    refine ⟨wr _ (by omega) (by omega), ?_⟩
    refine ⟨by first | with_reducible assumption | omega | assumption, ?_⟩
    refine ⟨by first | with_reducible assumption | omega | assumption, ?_⟩
    exact ⟨by rw [hn], by rw [hn]; rfl⟩
  · have hz : (s.length : Int) ≤ j := by omega
    have hj' : j = s.length := by omega
    subst hj'
    rw [List.take_length] at hM
    subst hM
    refine ⟨[Ans.o (Orc.b false)], fun u => of_eq ((↑s.length : Int) ≤ (↑s.length : Int) ∧ (25 : Nat) = (25 : Nat) ∧ hits [Out.mk Unit (AX.exit (0 : Nat)) [(5 : Nat)] (fun x => True) (fun x_1 => [iac1 (wd s x)]) (fun x_1 => ih1 (wd s x)) fun x => []] (AX.exit (0 : Nat)) [AV.sl (ints s) s.length q, I x, u (2 : Nat), u (3 : Nat), u (4 : Nat), AV.sl (ints (s ++ List.map (fun x_1 => xr x_1 x) s)) (s ++ List.map (fun x_1 => xr x_1 x) s).length (Room.tok 0 1), u (6 : Nat), u (7 : Nat), u (8 : Nat), u (9 : Nat), u (10 : Nat), AV.sl (ints s) s.length q, I (↑s.length : Int), I (↑s.length : Int), AV.bool false, u (15 : Nat), u (16 : Nat), u (17 : Nat), u (18 : Nat), u (19 : Nat), u (20 : Nat), u (21 : Nat), u (22 : Nat), u (23 : Nat), u (24 : Nat)] (H.mk [] [(s ++ List.map (fun x_1 => xr x_1 x) s).length] [])) (by kernel_rfl) ?_⟩
    refine ⟨by first | with_reducible assumption | omega | assumption, ?_⟩
    refine ⟨by first | with_reducible assumption | omega | assumption, ?_⟩
    exact .inl ⟨(), trivial, rfl, rfl, rfl⟩
abbrev p95 (s : List Int) (x : Int) : Prop := (0 < s.length ∧ s.length ≤ 32) ∧ (∀ k, k < s.length → 0 ≤ at_ s k ∧ at_ s k < 64) ∧ 0 ≤ x ∧ x < 64
theorem ok95 : FokM Tryd.prog none1 95 Tryd.f95 := ⟨mixed, by kernel_rfl, by kernel_rfl, by kernel_rfl, by kernel_rfl⟩
theorem r95 (s : List Int) (q : Room) (x : Int) (hp : p95 s x ∧ rok s q) : Body ⟨Tryd.prog, Sof (P := Tryd.prog) [], Pof (P := Tryd.prog) [], H.nil.base, 300⟩ none1 Tryd.f95 [ls s q, I x] .nil (iac1 (wd s x), ⟨[], [(wd s x).length], []⟩) := by
  obtain ⟨⟨hl, hs, hx⟩, hq⟩ := hp
  have lv : leave ⟨0, 0, 0⟩ (iac1 (wd s x)) (ih1 (wd s x)) = (iac1 (wd s x), ih1 (wd s x)) := by
    generalize wd s x = m
    simp [leave, AV.bnd, AV.bnds, frz, Room.bnd, retok]
  refine body_s ([Ans.o (Orc.val 10 (AV.sl (ints s) s.length (Room.tok 0 1)) (H.mk [] [s.length] [])), Ans.loop [(0 : Nat), (1 : Nat), (5 : Nat), (11 : Nat), (12 : Nat), (13 : Nat)] [Out.mk Unit (AX.exit (0 : Nat)) [(5 : Nat)] (fun x => True) (fun x_1 => [iac1 (wd s x)]) (fun x_1 => ih1 (wd s x)) fun y => []]]) (aAppend Tryd.prog (22 : Nat) (22 : Nat) (AV.sl [] (0 : Nat) Room.full) (AV.sl (ints s) s.length q) (H.mk [] [] []) = some (AV.sl (ints s) s.length (Room.tok 0 1), H.mk [] [s.length] []) ∧ LoopS (Env.mk Tryd.prog (Sof (P := Tryd.prog) []) (Pof (P := Tryd.prog) []) H.nil.base (300 : Nat)) (loopAt Tryd.f95 (0 : Nat)) (25 : Nat) [(0 : Nat), (1 : Nat), (5 : Nat), (11 : Nat), (12 : Nat), (13 : Nat)] [AV.sl (ints s) s.length q, I x, AV.sl (ints s) s.length (Room.tok 0 1), AV.sl (ints s) s.length q, I (↑s.length : Int), I 0] (H.mk [] [s.length] []) [Out.mk Unit (AX.exit (0 : Nat)) [(5 : Nat)] (fun x => True) (fun x_1 => [iac1 (wd s x)]) (fun x_1 => ih1 (wd s x)) fun y => []] ∧ (∀ (y : Unit), True → ∀ (u : Nat → AV), leave (Base.mk H.nil.blk.length H.nil.toks.length H.nil.maps.length) (AV.sl (ints (wd s x)) (wd s x).length (Room.tok 0 1)) (H.mk [] [(wd s x).length] []) = (AV.sl (ints (wd s x)) (wd s x).length (Room.tok 0 1), H.mk [] [(wd s x).length] [])) ∧ True) (by kernel_rfl) ?_
  refine ⟨app_new (by kernel_rfl) (by omega) (by simp) (ints_one _) (by omega), ?_⟩
  refine ⟨lp95 s q x hq hl hs hx, ?_⟩
  refine And.intro ?_ ?_
  · skip
    intro y
    intro w1
    intro u
    exact lv
  · skip
    trivial
noncomputable def c95 : PCtr Tryd.prog := slctr ok95 (X := List Int × Room × Int) (fun x => [ls x.1 x.2.1, I x.2.2]) (fun x => p95 x.1 x.2.2 ∧ rok x.1 x.2.1) (fun x => ls (wd x.1 x.2.2) .no) (by intro x y e _ _; simp at e; simp [e]) (fun x => by simp [AV.bnds, AV.bnd, AV.wk, rm_wk_bnd]) (fun x => by first | rfl | (simp [AV.bnd, rm_wk_bnd]; done)  | (simp [AV.bnd, AV.bnds, rm_wk_bnd]; done) | simp [AV.bnd, AV.bnds, Room.bnd, rm_wk_bnd]) (fun x hx => ⟨_, _, _, iac1 (wd x.1 x.2.2), [(wd x.1 x.2.2).length], .nil, r95 (x.1) (x.2.1).wk (x.2.2) (by first | exact hx | (simp only [rok_wk]; exact hx) | (simp only [rok_wk, lst_wk]; exact hx) | (simp only [rok_wk, lst_wk, lsn_wk]; exact hx)), by simp [AV.plain, AV.plains, plains_ints, plains_rows], by first | (simp only [AV.wkd, wkds_rows]; done) | (simp only [AV.wkd, wkds_ints]; done) | simp [AV.wkd, AV.wkds, Room.wk]⟩)
end Go.Proofs.Sur

