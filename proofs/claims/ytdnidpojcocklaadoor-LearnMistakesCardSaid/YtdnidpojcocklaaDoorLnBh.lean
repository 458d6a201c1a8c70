/- Layer 4: areTold; how many bits a number has. -/
import Derived.Test.YtdnidpojcocklaaDoorLnBg
import Derived.Test.YtdnidpojcocklaaDoorVm8
import Derived.Test.YtdnidpojcocklaaDoorVm7
import Derived.KernelRfl
set_option linter.unusedSimpArgs false
set_option linter.unusedVariables false
set_option linter.unnecessarySimpa false
set_option maxHeartbeats 4000000
set_option maxRecDepth 100000
namespace Go.Proofs.Lrn
open Go Go.VM
noncomputable abbrev o61 (l : List Tri) : List Out := [.mk H .ret [2] (fun _ => ¬ tdA l) (fun _ => [.bool false]) (fun h => h) (fun _ => []), .mk Unit (.exit 0) [] (fun _ => tdA l) (fun _ => []) (fun _ => h61 l (2 * l.length)) (fun _ => [])]
theorem simp61 : allSimpleM none1 (loopAt Tryd.f61 0) = true := by kernel_rfl
theorem lp61 (l : List Tri) (r : Room) (hl : l.length ≤ 1000) (hr : rok l r) (hrb : r.bnd 0 = true) :
    LoopS (En4 []) (loopAt Tryd.f61 0) 48 [0, 3, 11, 12, 13] [tS l r, mT l, tS l r, I l.length, I 0] (h61 l 0) (o61 l) := by
  have hR : Rests (En4 []) none1 := rests mixed .nil
  refine loop_s hR simp61 (some 1) (by intro nb h; cases h; exact ⟨Nat.zero_le _, Nat.le_refl 1⟩) (fun j vs H => H = h61 l (2 * j) ∧ vs = [tS l r, mT l, tS l r, I l.length, I j] ∧ ∀ i, i < 2 * j → okN l i) l.length ⟨rfl, rfl, fun i hi => absurd hi (by omega)⟩ (by rintro nb h j vs h' ⟨rfl, _⟩; cases h; exact Nat.le_refl 1) ?_
  rintro j vs H hj ⟨rfl, rfl, hq⟩
  by_cases hz : (j : Int) < l.length
  · have hz' : j < l.length := by omega
    have hri := rok_idx hr hz'
    have ev0 : IntKind.i64.wrap ((j : Int) + 1) = ((j + 1 : Nat) : Int) := by rw [wr _ (by omega) (by omega)]; omega
    obtain ⟨⟨x0, x1, x2⟩, hx⟩ : ∃ x, x = nd l j := ⟨_, rfl⟩
    have hld : aLoad Tryd.prog 62 (trisA (l.drop j)) = some (.agg [I x0, I x1, I x2]) := by
      have := ld_tris (P := Tryd.prog) (t := 62) (by kernel_rfl) (by kernel_rfl) (by kernel_rfl) hz'
      rw [this]
      show some (triA (nd l j)) = _
      rw [← hx]; rfl
    have lp := lp61i l r j hl hz' x0 x1 x2 hx.symm hq
    have hcn : ∀ z, (H.mk [bools (tdB l (2 * j + 2)), z] [] []).clean 1 := fun z cs hcs => by simp at hcs; subst hcs; exact bools_bnds _ _ _ _
    refine ⟨[Ans.o (Orc.b true), Ans.o (Orc.val 16 (AV.cptr (trisA (List.drop j l))) H.nil), Ans.o (Orc.val 17 (AV.agg [I x0, I x1, I x2]) H.nil), Ans.loop [(0 : Nat), (3 : Nat), (4 : Nat), (11 : Nat), (12 : Nat), (13 : Nat), (22 : Nat), (23 : Nat)] [Out.mk Nat AX.ret [(2 : Nat)] (fun x => ¬tdA l) (fun x => [AV.bool false]) (fun k => h61i l x0 x1 x2 ((2 : Nat) * j + k)) fun y => [], Out.mk Unit (AX.exit (2 : Nat)) [(0 : Nat), (3 : Nat), (11 : Nat), (12 : Nat), (13 : Nat)] (fun x => ∀ (i : Nat), i < (2 : Nat) * (j + (1 : Nat)) → okN l i) (fun x => [tS l r, mT l, tS l r, I (↑l.length : Int), I (↑j : Int)]) (fun x => h61i l x0 x1 x2 ((2 : Nat) * j + (2 : Nat))) fun y => [Ans.o (Orc.val 47 (I (↑(j + (1 : Nat)) : Int)) H.nil)]]], fun u => of_eq ((↑j : Int) < (↑l.length : Int) ∧ aIndexAddr Tryd.prog (38 : Nat) (AV.sl (trisA l) l.length r) (I (↑j : Int)) = some (AV.cptr (trisA (List.drop j l))) ∧ aLoad Tryd.prog (62 : Nat) (trisA (List.drop j l)) = some (AV.agg [I x0, I x1, I x2]) ∧ LoopS (Env.mk Tryd.prog (Sof (P := Tryd.prog) []) (Pof (P := Tryd.prog) []) H.nil.base (300 : Nat)) (loopAt Tryd.f61 (1 : Nat)) (48 : Nat) [(0 : Nat), (3 : Nat), (4 : Nat), (11 : Nat), (12 : Nat), (13 : Nat), (22 : Nat), (23 : Nat)] [AV.sl (trisA l) l.length r, AV.msl 0 0 l.length l.length (1 : Nat), I (↑j : Int), AV.sl (trisA l) l.length r, I (↑l.length : Int), I (↑j : Int), AV.agg [I x1, I x2], I 0] (H.mk [bools (tdB l ((2 : Nat) * j)), [I x0, I x1, I x2]] [] []) [Out.mk Nat AX.ret [(2 : Nat)] (fun x => ¬tdA l) (fun x => [AV.bool false]) (fun k => h61i l x0 x1 x2 ((2 : Nat) * j + k)) fun y => [], Out.mk Unit (AX.exit (2 : Nat)) [(0 : Nat), (3 : Nat), (11 : Nat), (12 : Nat), (13 : Nat)] (fun x => ∀ (i : Nat), i < (2 : Nat) * (j + (1 : Nat)) → okN l i) (fun x => [tS l r, mT l, tS l r, I (↑l.length : Int), I (↑j : Int)]) (fun x => h61i l x0 x1 x2 ((2 : Nat) * j + (2 : Nat))) fun y => [Ans.o (Orc.val 47 (I (↑(j + (1 : Nat)) : Int)) H.nil)]] ∧ (∀ (y : Nat), ¬tdA l → ∀ (u : Nat → AV), (48 : Nat) = (48 : Nat) ∧ hits [Out.mk H AX.ret [(2 : Nat)] (fun x => ¬tdA l) (fun x => [AV.bool false]) (fun h => h) fun x => [], Out.mk Unit (AX.exit (0 : Nat)) [] (fun x => tdA l) (fun x => []) (fun x => h61 l ((2 : Nat) * l.length)) fun x => []] AX.ret [u (0 : Nat), u (1 : Nat), AV.bool false, u (3 : Nat), u (4 : Nat), u (5 : Nat), u (6 : Nat), u (7 : Nat), u (8 : Nat), u (9 : Nat), u (10 : Nat), u (11 : Nat), u (12 : Nat), u (13 : Nat), u (14 : Nat), u (15 : Nat), u (16 : Nat), u (17 : Nat), u (18 : Nat), u (19 : Nat), u (20 : Nat), u (21 : Nat), u (22 : Nat), u (23 : Nat), u (24 : Nat), u (25 : Nat), u (26 : Nat), u (27 : Nat), u (28 : Nat), u (29 : Nat), u (30 : Nat), u (31 : Nat), u (32 : Nat), u (33 : Nat), u (34 : Nat), u (35 : Nat), u (36 : Nat), u (37 : Nat), u (38 : Nat), u (39 : Nat), u (40 : Nat), u (41 : Nat), u (42 : Nat), u (43 : Nat), u (44 : Nat), u (45 : Nat), u (46 : Nat), u (47 : Nat)] (H.mk [bools (tdB l ((2 : Nat) * j + y)), [I x0, I x1, I x2]] [] [])) ∧ (∀ (y : Unit), (∀ (i : Nat), i < (2 : Nat) * (j + (1 : Nat)) → nx l i = (-1 : Int) ∨ (↑(i / (2 : Nat)) : Int) < nx l i ∧ nx l i < (↑l.length : Int) ∧ ∀ (k : Nat), k < i → nx l k ≠ nx l i) → ∀ (u : Nat → AV), aBin Tryd.prog BinOp.add (3 : Nat) (I (↑j : Int)) (I 1) = some (I (↑(j + (1 : Nat)) : Int)) ∧ (48 : Nat) = (48 : Nat) ∧ j < l.length ∧ Keep (AV.bnds (1 : Nat) (0 : Nat) (0 : Nat) [AV.sl (trisA l) l.length r, AV.msl 0 0 l.length l.length (1 : Nat), AV.sl (trisA l) l.length r, I (↑l.length : Int), I (↑(j + (1 : Nat)) : Int)] = true ∧ (H.mk [bools (tdB l ((2 : Nat) * j + (2 : Nat))), [I x0, I x1, I x2]] [] []).clean (1 : Nat) ∧ H.mk [bools (tdB l ((2 : Nat) * j + (2 : Nat)))] [] [] = H.mk [bools (tdB l ((2 : Nat) * (j + (1 : Nat))))] [] [] ∧ [AV.sl (trisA l) l.length r, AV.msl 0 0 l.length l.length (1 : Nat), AV.sl (trisA l) l.length r, I (↑l.length : Int), I (↑(j + (1 : Nat)) : Int)] = [AV.sl (trisA l) l.length r, AV.msl 0 0 l.length l.length (1 : Nat), AV.sl (trisA l) l.length r, I (↑l.length : Int), I (↑(j + (1 : Nat)) : Int)] ∧ ∀ (i : Nat), i < (2 : Nat) * (j + (1 : Nat)) → okN l i)) ∧ True) (by kernel_rfl) ?_⟩
    refine ⟨by first | with_reducible assumption | omega | assumption, ?_⟩
    refine ⟨by first | exact ix_tris (by kernel_rfl) (by omega) (by assumption) | exact ix_tris (by kernel_rfl) (by omega) (rok_idx (by assumption) (by omega)), ?_⟩
    refine ⟨hld, ?_⟩
    refine ⟨lp, ?_⟩
    refine And.intro ?_ ?_
    · skip
      intro y
      intro w1
      intro u
      refine ⟨by first | with_reducible assumption | omega | assumption, ?_⟩
      exact .inl ⟨_, w1, rfl, rfl, rfl⟩
    · skip
      refine And.intro ?_ ?_
      · skip
        intro y
        intro w1
        intro u
        refine ⟨told_add (by with_reducible assumption), ?_⟩
        refine ⟨by first | with_reducible assumption | omega | assumption, ?_⟩
        refine ⟨by first | with_reducible assumption | omega | assumption, ?_⟩
        exact ⟨by simp [AV.bnds, AV.bnd, hrb], hcn _, rfl, rfl, w1⟩
      · skip
        trivial
  · have hz : (l.length : Int) ≤ j := by omega
    have e : j = l.length := by omega
    subst e
    refine ⟨[Ans.o (Orc.b false)], fun u => of_eq ((↑l.length : Int) ≤ (↑l.length : Int) ∧ (48 : Nat) = (48 : Nat) ∧ hits [Out.mk H AX.ret [(2 : Nat)] (fun x => ¬tdA l) (fun x => [AV.bool false]) (fun h => h) fun x => [], Out.mk Unit (AX.exit (0 : Nat)) [] (fun x => tdA l) (fun x => []) (fun x => h61 l ((2 : Nat) * l.length)) fun x => []] (AX.exit (0 : Nat)) [AV.sl (trisA l) l.length r, u (1 : Nat), u (2 : Nat), AV.msl 0 0 l.length l.length (1 : Nat), u (4 : Nat), u (5 : Nat), u (6 : Nat), u (7 : Nat), u (8 : Nat), u (9 : Nat), u (10 : Nat), AV.sl (trisA l) l.length r, I (↑l.length : Int), I (↑l.length : Int), AV.bool false, u (15 : Nat), u (16 : Nat), u (17 : Nat), u (18 : Nat), u (19 : Nat), u (20 : Nat), u (21 : Nat), u (22 : Nat), u (23 : Nat), u (24 : Nat), u (25 : Nat), u (26 : Nat), u (27 : Nat), u (28 : Nat), u (29 : Nat), u (30 : Nat), u (31 : Nat), u (32 : Nat), u (33 : Nat), u (34 : Nat), u (35 : Nat), u (36 : Nat), u (37 : Nat), u (38 : Nat), u (39 : Nat), u (40 : Nat), u (41 : Nat), u (42 : Nat), u (43 : Nat), u (44 : Nat), u (45 : Nat), u (46 : Nat), u (47 : Nat)] (H.mk [bools (tdB l ((2 : Nat) * l.length))] [] [])) (by kernel_rfl) ?_⟩
    refine ⟨by first | with_reducible assumption | omega | assumption, ?_⟩
    refine ⟨by first | with_reducible assumption | omega | assumption, ?_⟩
    exact .inr (.inl ⟨(), hq, rfl, rfl, rfl⟩)
theorem ok61 : FokM Tryd.prog none1 61 Tryd.f61 := ⟨mixed, by kernel_rfl, by kernel_rfl, by kernel_rfl, by kernel_rfl⟩
open Classical in
noncomputable def tdQ (l : List Tri) : Bool := decide (tdA l)
theorem tdQ_t {l : List Tri} (h : tdA l) : tdQ l = true := by simp only [tdQ, decide_eq_true_eq]; exact h
theorem tdQ_f {l : List Tri} (h : ¬ tdA l) : tdQ l = false := by simp only [tdQ, decide_eq_false_iff_not]; exact h
theorem r61t (l : List Tri) (r : Room) (hl : l.length ≤ 1000) (hr : rok l r) (hrb : r.bnd 0 = true) (h : tdA l) : Body (En4 []) none1 Tryd.f61 [tS l r] .nil (.bool true, .nil) := by
  have lp := lp61 l r hl hr hrb
  have hmk := mk_bools (P := Tryd.prog) (t := 87) (by kernel_rfl) (n := l.length) (h := .nil) (by omega)
  have e0 : bools (List.replicate l.length b0) = bools (tdB l 0) := by rw [tdB_zero]
  rw [e0] at hmk
  have hmk : aMake Tryd.prog 87 (l.length : Int) (l.length : Int) .nil = some (.msl 0 0 l.length l.length 1, h61 l 0) := hmk
  refine body_s ([Ans.o (Orc.val 10 (AV.msl H.nil.blk.length (0 : Nat) l.length l.length (1 : Nat)) (H.mk (H.nil.blk ++ [bools (tdB l (0 : Nat))]) H.nil.toks H.nil.maps)), Ans.loop [(0 : Nat), (3 : Nat), (11 : Nat), (12 : Nat), (13 : Nat)] [Out.mk H AX.ret [(2 : Nat)] (fun x => ¬tdA l) (fun x => [AV.bool false]) (fun h => h) fun y => [], Out.mk Unit (AX.exit (0 : Nat)) [] (fun x => tdA l) (fun x => []) (fun x => h61 l ((2 : Nat) * l.length)) fun y => []]]) (aMake Tryd.prog (87 : Nat) (↑l.length : Int) (↑l.length : Int) (H.mk [] [] []) = some (AV.msl 0 0 l.length l.length (1 : Nat), H.mk [bools (tdB l (0 : Nat))] [] []) ∧ LoopS (Env.mk Tryd.prog (Sof (P := Tryd.prog) []) (Pof (P := Tryd.prog) []) H.nil.base (300 : Nat)) (loopAt Tryd.f61 (0 : Nat)) (48 : Nat) [(0 : Nat), (3 : Nat), (11 : Nat), (12 : Nat), (13 : Nat)] [AV.sl (trisA l) l.length r, AV.msl 0 0 l.length l.length (1 : Nat), AV.sl (trisA l) l.length r, I (↑l.length : Int), I 0] (H.mk [bools (tdB l (0 : Nat))] [] []) [Out.mk H AX.ret [(2 : Nat)] (fun x => ¬tdA l) (fun x => [AV.bool false]) (fun h => h) fun y => [], Out.mk Unit (AX.exit (0 : Nat)) [] (fun x => tdA l) (fun x => []) (fun x => h61 l ((2 : Nat) * l.length)) fun y => []] ∧ (∀ (y : H), ¬tdA l → ∀ (u : Nat → AV), (AV.bool false, H.mk [] [] []) = (AV.bool true, H.mk [] [] [])) ∧ (∀ (y : Unit), (∀ (i : Nat), i < (2 : Nat) * l.length → nx l i = (-1 : Int) ∨ (↑(i / (2 : Nat)) : Int) < nx l i ∧ nx l i < (↑l.length : Int) ∧ ∀ (k : Nat), k < i → nx l k ≠ nx l i) → ∀ (u : Nat → AV), (AV.bool true, H.mk [] [] []) = (AV.bool true, H.mk [] [] [])) ∧ True) (by kernel_rfl) ?_
  refine ⟨hmk, ?_⟩
  refine ⟨lp, ?_⟩
  refine And.intro ?_ ?_
  · skip
    intro y
    intro w1
    intro u
    first | rfl | exact absurd h w0 | exact absurd h w1
  · skip
    refine And.intro ?_ ?_
    · skip
      intro y
      intro w1
      intro u
      first | rfl | exact absurd h w0 | exact absurd h w1
    · skip
      trivial
theorem r61f (l : List Tri) (r : Room) (hl : l.length ≤ 1000) (hr : rok l r) (hrb : r.bnd 0 = true) (h : ¬ tdA l) : Body (En4 []) none1 Tryd.f61 [tS l r] .nil (.bool false, .nil) := by
  have lp := lp61 l r hl hr hrb
  have hmk := mk_bools (P := Tryd.prog) (t := 87) (by kernel_rfl) (n := l.length) (h := .nil) (by omega)
  have e0 : bools (List.replicate l.length b0) = bools (tdB l 0) := by rw [tdB_zero]
  rw [e0] at hmk
  have hmk : aMake Tryd.prog 87 (l.length : Int) (l.length : Int) .nil = some (.msl 0 0 l.length l.length 1, h61 l 0) := hmk
  refine body_s ([Ans.o (Orc.val 10 (AV.msl H.nil.blk.length (0 : Nat) l.length l.length (1 : Nat)) (H.mk (H.nil.blk ++ [bools (tdB l (0 : Nat))]) H.nil.toks H.nil.maps)), Ans.loop [(0 : Nat), (3 : Nat), (11 : Nat), (12 : Nat), (13 : Nat)] [Out.mk H AX.ret [(2 : Nat)] (fun x => ¬tdA l) (fun x => [AV.bool false]) (fun h => h) fun y => [], Out.mk Unit (AX.exit (0 : Nat)) [] (fun x => tdA l) (fun x => []) (fun x => h61 l ((2 : Nat) * l.length)) fun y => []]]) (aMake Tryd.prog (87 : Nat) (↑l.length : Int) (↑l.length : Int) (H.mk [] [] []) = some (AV.msl 0 0 l.length l.length (1 : Nat), H.mk [bools (tdB l (0 : Nat))] [] []) ∧ LoopS (Env.mk Tryd.prog (Sof (P := Tryd.prog) []) (Pof (P := Tryd.prog) []) H.nil.base (300 : Nat)) (loopAt Tryd.f61 (0 : Nat)) (48 : Nat) [(0 : Nat), (3 : Nat), (11 : Nat), (12 : Nat), (13 : Nat)] [AV.sl (trisA l) l.length r, AV.msl 0 0 l.length l.length (1 : Nat), AV.sl (trisA l) l.length r, I (↑l.length : Int), I 0] (H.mk [bools (tdB l (0 : Nat))] [] []) [Out.mk H AX.ret [(2 : Nat)] (fun x => ¬tdA l) (fun x => [AV.bool false]) (fun h => h) fun y => [], Out.mk Unit (AX.exit (0 : Nat)) [] (fun x => tdA l) (fun x => []) (fun x => h61 l ((2 : Nat) * l.length)) fun y => []] ∧ (∀ (y : H), ¬tdA l → ∀ (u : Nat → AV), (AV.bool false, H.mk [] [] []) = (AV.bool false, H.mk [] [] [])) ∧ (∀ (y : Unit), (∀ (i : Nat), i < (2 : Nat) * l.length → nx l i = (-1 : Int) ∨ (↑(i / (2 : Nat)) : Int) < nx l i ∧ nx l i < (↑l.length : Int) ∧ ∀ (k : Nat), k < i → nx l k ≠ nx l i) → ∀ (u : Nat → AV), (AV.bool true, H.mk [] [] []) = (AV.bool false, H.mk [] [] [])) ∧ True) (by kernel_rfl) ?_
  refine ⟨hmk, ?_⟩
  refine ⟨lp, ?_⟩
  refine And.intro ?_ ?_
  · skip
    intro y
    intro w1
    intro u
    first | rfl | exact absurd w0 h | exact absurd w1 h
  · skip
    refine And.intro ?_ ?_
    · skip
      intro y
      intro w1
      intro u
      first | rfl | exact absurd w0 h | exact absurd w1 h
    · skip
      trivial
/-- 'areTold' -/
noncomputable def c61 : PCtr Tryd.prog where
  f := 61
  X := List Tri × Room
  args q := [tS q.1 q.2]
  pre q := q.1.length ≤ 1000 ∧ rok q.1 q.2
  v q := .bool (tdQ q.1)
  det := by
    rintro ⟨l, r⟩ ⟨l', r'⟩ e _ _
    simp at e
    simp [e]
  ok := by
    rintro ⟨l, r⟩ ⟨h1, h2⟩
    refine ⟨ok61.call, fun H => CallOk.wk ?_⟩
    have h2 : rok l r.wk := by simpa using h2
    have k : CallOk Tryd.prog 61 [tS l r.wk] .nil (.bool (tdQ l)) .nil := by
      by_cases h : tdA l
      · rw [tdQ_t h]
        exact (r61t l r.wk h1 h2 (rm_wk_bnd _) h).run ok61 .nil rfl
      · rw [tdQ_f h]
        exact (r61f l r.wk h1 h2 (rm_wk_bnd _) h).run ok61 .nil rfl
    exact pure_call k (by simp [AV.bnds, AV.bnd, rm_wk_bnd]) rfl H
/-- how many bits -/
def bl (n : Nat) : Nat := if n = 0 then 0 else Nat.log2 n + 1
def resIs (r : Option (AV × H)) (v : AV) : Bool :=
  match r with
  | some (x, h) => AV.beq x v && H.beq h .nil
  | none => false
theorem resIs_ok {r : Option (AV × H)} {v : AV} (h : resIs r v = true) : r = some (v, .nil) := by
  unfold resIs at h
  split at h
  · simp only [Bool.and_eq_true] at h
    rw [AV.beq_eq _ _ h.1, H.beq_eq h.2]
  · cases h
noncomputable def run60 (s : Nat) : Bool := resIs (deepW Tryd.prog (fun _ => false) (fun _ => false) 100 4 0 60 [.int .u64 s] .nil) (.int .i64 (bl s : Nat))
theorem all60 : (List.range 71).all run60 = true := by kernel_rfl
theorem r60 {s : Nat} (h : s < 71) : CallOk Tryd.prog 60 [.int .u64 s] .nil (.int .i64 (bl s : Nat)) .nil := by
  have h1 := List.all_eq_true.1 all60 s (List.mem_range.2 h)
  have h2 := deepW_ok (P := Tryd.prog) mixed 4 0 _ _ _ _ _ (resIs_ok h1)
  exact pure_callB h2.2 rfl rfl .nil
theorem call60 : callable Tryd.prog 60 = true := by kernel_rfl
noncomputable def c60 : PCtr Tryd.prog where
  f := 60
  X := Nat
  args s := [.int .u64 s]
  pre s := s < 71
  v s := I (bl s : Nat)
  det := by
    intro x y e _ _
    simp only [List.cons.injEq, AV.int.injEq, true_and, and_true] at e
    rw [show x = y by omega]
  ok s hs := ⟨call60, fun h => (pure_call (r60 hs) rfl rfl h).wk⟩
end Go.Proofs.Lrn

