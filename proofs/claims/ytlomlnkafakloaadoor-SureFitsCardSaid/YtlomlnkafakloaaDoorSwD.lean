/- Layer 5: the reference's least rank. -/
import Derived.Test.YtlomlnkafakloaaDoorSwC
import Derived.Test.YtlomlnkafakloaaDoorSvE
import Derived.KernelRfl
set_option linter.unusedSimpArgs false
set_option linter.unusedVariables false
set_option linter.unnecessarySimpa false
set_option maxHeartbeats 4000000
set_option maxRecDepth 100000
namespace Go.Proofs.Sur
open Go Go.VM

theorem lda_ints {P : Program} {t : TypeId} (hu : (P.underlying t).isSome = true) (ha : isAggT P t = true) {n : Nat} (hz : sizeT P t = some n) {l : List Int} (h : l.length = n) : aLoad P t (ints l) = some (.agg (ints l)) := by
  obtain ⟨u, hu⟩ := Option.isSome_iff_exists.1 hu
  subst h
  have : (ints l).take l.length = ints l := List.take_of_length_le (by simp)
  simp [aLoad, hu, ha, hz, this]
/-- a row that was chosen -/
abbrev rw1 (i j : Nat) : Int := ((j ||| 2 ^ i : Nat) : Int)
def rfF (g : List Int) : Nat → List Int → Nat → Nat
  | 0, R, b => min b (rk2 g.length R g.length).2
  | d + 1, R, b => ((List.range (2 ^ g.length)).foldl (fun (z : List Int × Nat) (j : Nat) => if andn j (at_ g (g.length - (d + 1))).toNat = 0 then (z.1.set (g.length - (d + 1)) (rw1 (g.length - (d + 1)) j), rfF g d (z.1.set (g.length - (d + 1)) (rw1 (g.length - (d + 1)) j)) z.2) else z) (R, b)).2
def rfS (g : List Int) (d : Nat) (z : List Int × Nat) (j : Nat) : List Int × Nat := if andn j (at_ g (g.length - (d + 1))).toNat = 0 then (z.1.set (g.length - (d + 1)) (rw1 (g.length - (d + 1)) j), rfF g d (z.1.set (g.length - (d + 1)) (rw1 (g.length - (d + 1)) j)) z.2) else z
def rfP (g : List Int) (d : Nat) (R : List Int) (b j : Nat) : List Int × Nat := (List.range j).foldl (rfS g d) (R, b)
theorem rfP_suc (g : List Int) (d : Nat) (R : List Int) (b j : Nat) : rfP g d R b (j + 1) = rfS g d (rfP g d R b j) j := by
  rw [rfP, List.range_succ, List.foldl_append]; rfl
theorem rfF_suc (g : List Int) (d : Nat) (R : List Int) (b : Nat) : rfF g (d + 1) R b = (rfP g d R b (2 ^ g.length)).2 := rfl
theorem rfF_le (g : List Int) : ∀ (d : Nat) (R : List Int) (b : Nat), rfF g d R b ≤ b
  | 0, _, _ => Nat.min_le_left _ _
  | d + 1, R, b => by
    rw [rfF_suc]
    have : ∀ j, (rfP g d R b j).2 ≤ b := by
      intro j
      induction j with
      | zero => exact Nat.le_refl _
      | succ j ih =>
        rw [rfP_suc, rfS]
        split
        · exact Nat.le_trans (rfF_le g d _ _) ih
        · exact ih
    exact this _
theorem or_lt {i j : Nat} (hi : i ≤ 5) (hj : j < 64) : 0 ≤ rw1 i j ∧ rw1 i j < 64 := by
  have h2 : 2 ^ i ≤ 2 ^ 5 := Nat.pow_le_pow_right (by decide) hi
  have h2 : 2 ^ i ≤ 32 := h2
  have := Nat.or_lt_two_pow (n := 6) (x := j) (y := 2 ^ i) (by omega) (by omega)
  constructor
  · exact Int.natCast_nonneg _
  · show ((j ||| 2 ^ i : Nat) : Int) < 64
    omega
theorem rfP_rs {g : List Int} {d : Nat} {R : List Int} {b : Nat} (h : rs R) (hg : g.length ≤ 5) : ∀ j, j ≤ 64 → rs (rfP g d R b j).1 ∧ (rfP g d R b j).2 ≤ b
  | 0, _ => ⟨h, Nat.le_refl _⟩
  | j + 1, hj => by
    obtain ⟨h1, h2⟩ := rfP_rs (d := d) (b := b) h hg j (by omega)
    rw [rfP_suc, rfS]
    split
    · exact ⟨rs_set h1 (or_lt (by omega) (by omega)), Nat.le_trans (rfF_le g d _ _) h2⟩
    · exact ⟨h1, h2⟩
abbrev p75 (g : List Int) (R : List Int) (i b : Int) : Prop := (Gr g ∧ g.length ≤ 5) ∧ rs R ∧ (0 ≤ i ∧ i.toNat ≤ g.length) ∧ 0 ≤ b ∧ b ≤ 64
abbrev w75 (g : List Int) (r : Room) (R : List Int) (i b : Int) : Prop := p75 g R i b ∧ rok g r
abbrev v75 (g : List Int) (R : List Int) (i b : Int) : AV := I (rfF g (g.length - i.toNat) R b.toNat : Nat)
abbrev C75ok (n : Nat) : Prop := ∀ g r R i b, w75 g r R i b ∧ g.length - i.toNat < n → CallOk Tryd.prog 75 [ls g r, .agg (ints R), I i, I b] .nil (v75 g R i b) .nil
theorem ok75 : FokM Tryd.prog none1 75 Tryd.f75 := ⟨mixed, by kernel_rfl, by kernel_rfl, by kernel_rfl, by kernel_rfl⟩
noncomputable def C75 (n : Nat) (ih : C75ok n) : PCtr Tryd.prog where
  f := 75
  X := List Int × Room × List Int × Int × Int
  args x := [ls x.1 x.2.1, .agg (ints x.2.2.1), I x.2.2.2.1, I x.2.2.2.2]
  pre x := w75 x.1 x.2.1 x.2.2.1 x.2.2.2.1 x.2.2.2.2 ∧ x.1.length - x.2.2.2.1.toNat < n
  v x := v75 x.1 x.2.2.1 x.2.2.2.1 x.2.2.2.2
  det := by
    rintro ⟨g, r, R, i, b⟩ ⟨g', r', R', i', b'⟩ e _ _
    simp at e
    simp [e]
  ok := by
    rintro ⟨g, r, R, i, b⟩ h
    have h' : w75 g r.wk R i b ∧ g.length - i.toNat < n := ⟨⟨h.1.1, (rok_wk _ _).2 h.1.2⟩, h.2⟩
    exact ⟨ok75.call, fun H => (pure_call (ih g r.wk R i b h') (by simp [AV.bnds, AV.bnd, rm_wk_bnd]) rfl H).wk⟩
abbrev o75 (g : List Int) (d : Nat) (R : List Int) (b : Nat) : List Out :=
  [.mk Unit (.exit 0) [3] (fun _ => True) (fun _ => [I ((rfP g d R b (2 ^ g.length)).2 : Nat)]) (fun _ => hR (rfP g d R b (2 ^ g.length)).1) (fun _ => [])]
theorem simp75 : allSimpleM none1 (loopAt Tryd.f75 0) = true := by kernel_rfl
theorem lp75 (n : Nat) (ih : C75ok n) (g : List Int) (r : Room) (R : List Int) (i d b : Nat) (h0 : w75 g r R (i : Nat) (b : Nat)) (hd : i + d + 1 = g.length) (hn : g.length - i < n + 1) (M : Nat) (hM : 2 ^ g.length = M) :
    LoopS (En6 [c96.to, (C75 n ih).to]) (loopAt Tryd.f75 0) 47 [0, 2, 3, 5, 22, 23] [ls g r, I (i : Nat), I (b : Nat), .ptr 0 0, I (M : Nat), I 0] (hR R) (o75 g d R b) := by
  have hRe : Rests (En6 [c96.to, (C75 n ih).to]) none1 := rests mixed (.pure _ (.pure _ .nil))
  obtain ⟨⟨⟨hg, g5⟩, hRs, hi, hb⟩, hr⟩ := h0
  simp only [Int.toNat_natCast] at hi
  have hM6 := pw_64 hg.1.2
  rw [hM] at hM6
  refine loop_s hRe simp75 none (by intro _ h; cases h) (fun j vs H => H = hR (rfP g d R b j).1 ∧ vs = [ls g r, I (i : Nat), I ((rfP g d R b j).2 : Nat), .ptr 0 0, I (M : Nat), I j]) M ⟨rfl, rfl⟩ (by intro _ h; cases h) ?_
  rintro j vs H hj ⟨rfl, rfl⟩
  have hs1 := rfP_suc g d R b j
  have hrs := rfP_rs (d := d) (b := b) hRs g5 j (by omega)
  have ei : g.length - (d + 1) = i := by omega
  by_cases hz : (j : Int) < M
  · have hz' : j < M := by omega
    rw [rfS, ei] at hs1
    have hig : i < g.length := by omega
    have hr' := rok_idx hr hig
    have hgb := rg_lt hg.1 hg.2.1 hig
    generalize rfP g d R b j = Z at hs1 hrs
    obtain ⟨S, c⟩ := Z
    simp only at hs1 hrs ⊢
    have ev0 := i_andng2 (s := j) (by omega) hgb.1
    by_cases ha : andn j (at_ g i).toNat = 0
    · have ha' : ((andn j (at_ g i).toNat : Nat) : Int) = 0 := by omega
      have hk : rfP g d R b (j + 1) = (S.set i (rw1 i j), rfF g d (S.set i (rw1 i j)) c) := by rw [hs1, if_pos ha]
      have ev1 := pw_shl (n := i) (by omega)
      have h2 : 2 ^ i ≤ 2 ^ 5 := Nat.pow_le_pow_right (by decide) (by omega)
      have h2 : 2 ^ i ≤ 32 := h2
      have ev2 := i_or (a := j) (b := 2 ^ i) (by omega) (by omega)
      have ev3 : IntKind.i64.wrap (((i : Nat) : Int) + 1) = ((i + 1 : Nat) : Int) := by
        have : ((i : Nat) : Int) + 1 = ((i + 1 : Nat) : Int) := by omega
        rw [this]; exact i_wrap (by omega)
      have hrs' := rs_set (i := i) hrs.1 (or_lt (i := i) (j := j) (by omega) (by omega))
      have hl1 : i < S.length := by rw [hrs.1.1]; omega
      have hl5 : (S.set i (rw1 i j)).length = 5 := hrs'.1
      have p75' : w75 g r (S.set i (rw1 i j)) ((i + 1 : Nat) : Int) (c : Nat) ∧ g.length - ((i + 1 : Nat) : Int).toNat < n := ⟨⟨⟨⟨hg, g5⟩, hrs', ⟨by omega, by simp only [Int.toNat_natCast]; omega⟩, by omega, by omega⟩, hr⟩, by simp only [Int.toNat_natCast]; omega⟩
      have ed : g.length - ((i + 1 : Nat) : Int).toNat = d := by simp only [Int.toNat_natCast]; omega
      refine ⟨[Ans.o (Orc.b true), Ans.o (Orc.val (29 : Nat) (AV.cptr (ints (List.drop i g))) (H.mk [ints S] [] [])), Ans.o (Orc.val (30 : Nat) (I (g.getD i i0)) (H.mk [ints S] [] [])), Ans.o (Orc.val (31 : Nat) (I (↑(andn j (at_ g i).toNat) : Int)) (H.mk [ints S] [] [])), Ans.o (Orc.b true), Ans.o (Orc.val (36 : Nat) (I (↑((2 : Nat) ^ i) : Int)) (H.mk [ints S] [] [])), Ans.o (Orc.val (37 : Nat) (I (↑(j ||| (2 : Nat) ^ i) : Int)) (H.mk [ints S] [] [])), Ans.o (Orc.val (38 : Nat) (AV.ptr (0 : Nat) i) (H.mk [ints S] [] [])), Ans.o (Orc.val (9999 : Nat) (AV.tup []) (H.mk [ints (S.set i (↑(j ||| (2 : Nat) ^ i) : Int))] [] [])), Ans.o (Orc.val (40 : Nat) (AV.agg (ints (S.set i (↑(j ||| (2 : Nat) ^ i) : Int)))) (H.mk [ints (S.set i (↑(j ||| (2 : Nat) ^ i) : Int))] [] [])), Ans.o (Orc.val (42 : Nat) (I (↑(i + (1 : Nat)) : Int)) (H.mk [ints (S.set i (↑(j ||| (2 : Nat) ^ i) : Int))] [] [])), Ans.o (Orc.val (44 : Nat) (I (↑(rfF g (g.length - (↑(i + (1 : Nat)) : Int).toNat) (S.set i (↑(j ||| (2 : Nat) ^ i) : Int)) (↑c : Int).toNat) : Int)) (H.mk [ints (S.set i (↑(j ||| (2 : Nat) ^ i) : Int))] [] []))], fun u => of_eq ((↑j : Int) < (↑M : Int) ∧ aIndexAddr Tryd.prog (22 : Nat) (AV.sl (ints g) g.length r) (I (↑i : Int)) = some (AV.cptr (ints (List.drop i g))) ∧ aLoad Tryd.prog (3 : Nat) (ints (List.drop i g)) = some (I (g.getD i i0)) ∧ aBin Tryd.prog BinOp.andNot (3 : Nat) (I (↑j : Int)) (I (g.getD i i0)) = some (I (↑(andn j (at_ g i).toNat) : Int)) ∧ (↑(andn j (at_ g i).toNat) : Int) = (0 : Int) ∧ aBin Tryd.prog BinOp.shl (3 : Nat) (I (1 : Int)) (I (↑i : Int)) = some (I (↑((2 : Nat) ^ i) : Int)) ∧ aBin Tryd.prog BinOp.or (3 : Nat) (I (↑j : Int)) (I (↑((2 : Nat) ^ i) : Int)) = some (I (↑(j ||| (2 : Nat) ^ i) : Int)) ∧ aIndexAddr Tryd.prog (80 : Nat) (AV.ptr (0 : Nat) (0 : Nat)) (I (↑i : Int)) = some (AV.ptr (0 : Nat) i) ∧ aStore Tryd.prog H.nil.base (3 : Nat) (AV.ptr (0 : Nat) i) (I (↑(j ||| (2 : Nat) ^ i) : Int)) (H.mk [ints S] [] []) = some (H.mk [ints (S.set i (↑(j ||| (2 : Nat) ^ i) : Int))] [] []) ∧ aLoad Tryd.prog (80 : Nat) (List.drop (0 : Nat) (ints (S.set i (↑(j ||| (2 : Nat) ^ i) : Int)))) = some (AV.agg (ints (S.set i (↑(j ||| (2 : Nat) ^ i) : Int)))) ∧ aBin Tryd.prog BinOp.add (3 : Nat) (I (↑i : Int)) (I (1 : Int)) = some (I (↑(i + (1 : Nat)) : Int)) ∧ aCall (Sof [c96.to, (C75 n ih).to]) (AV.fn (Fn.func (75 : Nat)) [] []) [AV.sl (ints g) g.length r, AV.agg (ints (S.set i (↑(j ||| (2 : Nat) ^ i) : Int))), I (↑(i + (1 : Nat)) : Int), I (↑c : Int)] (H.mk [ints (S.set i (↑(j ||| (2 : Nat) ^ i) : Int))] [] []) = some (I (↑(rfF g (g.length - (↑(i + (1 : Nat)) : Int).toNat) (S.set i (↑(j ||| (2 : Nat) ^ i) : Int)) (↑c : Int).toNat) : Int), H.mk [ints (S.set i (↑(j ||| (2 : Nat) ^ i) : Int))] [] []) ∧ IntKind.i64.wrap ((↑j : Int) + (1 : Int)) = (↑j : Int) + (1 : Int) ∧ (47 : Nat) = (47 : Nat) ∧ j < M ∧ Keep (H.mk [ints (S.set i (↑(j ||| (2 : Nat) ^ i) : Int))] [] [] = H.mk [ints (rfP g d R b (j + (1 : Nat))).fst] [] [] ∧ [AV.sl (ints g) g.length r, I (↑i : Int), I (↑(rfF g (g.length - (↑(i + (1 : Nat)) : Int).toNat) (S.set i (↑(j ||| (2 : Nat) ^ i) : Int)) (↑c : Int).toNat) : Int), AV.ptr (0 : Nat) (0 : Nat), I (↑M : Int), I ((↑j : Int) + (1 : Int))] = [AV.sl (ints g) g.length r, I (↑i : Int), I (↑(rfP g d R b (j + (1 : Nat))).snd : Int), AV.ptr (0 : Nat) (0 : Nat), I (↑M : Int), I (↑(j + (1 : Nat)) : Int)])) (by kernel_rfl) ?_⟩
      refine And.intro (by first | with_reducible assumption | omega | assumption) ?_
      refine And.intro (by first | exact ix_ints (by kernel_rfl) (by omega) (by assumption) | exact ix_ints (by kernel_rfl) (by omega) (rok_idx (by assumption) (by omega))) ?_
      refine And.intro (by first | exact lda_ints (by kernel_rfl) (by kernel_rfl) (by kernel_rfl) hl5 | exact ld_ints (by kernel_rfl) (by kernel_rfl) (by omega)) ?_
      refine And.intro (by exact told_andn (by with_reducible assumption)) ?_
      refine And.intro (by first | with_reducible assumption | omega | assumption) ?_
      refine And.intro (by first | exact told_shl (by first | exact Int.natCast_nonneg _ | omega) (by with_reducible assumption) | exact told_shl (by omega) rfl) ?_
      refine And.intro (by exact told_or (by with_reducible assumption)) ?_
      refine And.intro (by first | exact ixa0 (n := 5) (by kernel_rfl) (by omega) | exact ix_ints (by kernel_rfl) (by omega) hr') ?_
      refine And.intro (by exact st_ints (by kernel_rfl) rfl hl1) ?_
      refine And.intro (by first | exact lda_ints (by kernel_rfl) (by kernel_rfl) (by kernel_rfl) hl5 | exact ld_ints (by kernel_rfl) (by kernel_rfl) (by omega)) ?_
      refine And.intro (by exact told_add (by with_reducible assumption)) ?_
      refine And.intro (by exact acall_hit (c := (C75 n ih).to) (g, r, S.set i (rw1 i j), ((i + 1 : Nat) : Int), (c : Nat)) _ rfl p75') ?_
      refine And.intro (by exact wr _ (by omega) (by omega)) ?_
      refine And.intro (by first | with_reducible assumption | omega | assumption) ?_
      refine And.intro (by first | with_reducible assumption | omega | assumption) ?_
      exact ⟨by rw [hk], by rw [hk, ← ed]; rfl⟩
    · have ha' : ((andn j (at_ g i).toNat : Nat) : Int) ≠ 0 := by omega
      have hk : rfP g d R b (j + 1) = (S, c) := by rw [hs1, if_neg ha]
      refine ⟨[Ans.o (Orc.b true), Ans.o (Orc.val (29 : Nat) (AV.cptr (ints (List.drop i g))) (H.mk [ints S] [] [])), Ans.o (Orc.val (30 : Nat) (I (g.getD i i0)) (H.mk [ints S] [] [])), Ans.o (Orc.val (31 : Nat) (I (↑(andn j (at_ g i).toNat) : Int)) (H.mk [ints S] [] [])), Ans.o (Orc.b false)], fun u => of_eq ((↑j : Int) < (↑M : Int) ∧ aIndexAddr Tryd.prog (22 : Nat) (AV.sl (ints g) g.length r) (I (↑i : Int)) = some (AV.cptr (ints (List.drop i g))) ∧ aLoad Tryd.prog (3 : Nat) (ints (List.drop i g)) = some (I (g.getD i i0)) ∧ aBin Tryd.prog BinOp.andNot (3 : Nat) (I (↑j : Int)) (I (g.getD i i0)) = some (I (↑(andn j (at_ g i).toNat) : Int)) ∧ (↑(andn j (at_ g i).toNat) : Int) ≠ (0 : Int) ∧ IntKind.i64.wrap ((↑j : Int) + (1 : Int)) = (↑j : Int) + (1 : Int) ∧ (47 : Nat) = (47 : Nat) ∧ j < M ∧ Keep (H.mk [ints S] [] [] = H.mk [ints (rfP g d R b (j + (1 : Nat))).fst] [] [] ∧ [AV.sl (ints g) g.length r, I (↑i : Int), I (↑c : Int), AV.ptr (0 : Nat) (0 : Nat), I (↑M : Int), I ((↑j : Int) + (1 : Int))] = [AV.sl (ints g) g.length r, I (↑i : Int), I (↑(rfP g d R b (j + (1 : Nat))).snd : Int), AV.ptr (0 : Nat) (0 : Nat), I (↑M : Int), I (↑(j + (1 : Nat)) : Int)])) (by kernel_rfl) ?_⟩
      refine And.intro (by first | with_reducible assumption | omega | assumption) ?_
      refine And.intro (by first | exact ix_ints (by kernel_rfl) (by omega) (by assumption) | exact ix_ints (by kernel_rfl) (by omega) (rok_idx (by assumption) (by omega))) ?_
      refine And.intro (by first | exact ld_ints (by kernel_rfl) (by kernel_rfl) (by omega) | exact ldm_ints (by kernel_rfl) (by kernel_rfl) (by first | omega | (simp; omega))) ?_
      refine And.intro (by exact told_andn (by with_reducible assumption)) ?_
      refine And.intro (by first | with_reducible assumption | omega | assumption) ?_
      refine And.intro (by exact wr _ (by omega) (by omega)) ?_
      refine And.intro (by first | with_reducible assumption | omega | assumption) ?_
      refine And.intro (by first | with_reducible assumption | omega | assumption) ?_
      exact ⟨by rw [hk], by rw [hk]; rfl⟩
  · have hz : (M : Int) ≤ j := by omega
    have e : j = M := by omega
    subst e
    refine ⟨[Ans.o (Orc.b false)], fun u => of_eq ((↑j : Int) ≤ (↑j : Int) ∧ (47 : Nat) = (47 : Nat) ∧ hits [Out.mk Unit (AX.exit (0 : Nat)) [(3 : Nat)] (fun x => True) (fun x => [I (↑(rfP g d R b ((2 : Nat) ^ g.length)).snd : Int)]) (fun x => hR (rfP g d R b ((2 : Nat) ^ g.length)).fst) fun x => []] (AX.exit (0 : Nat)) [AV.sl (ints g) g.length r, u (1 : Nat), I (↑i : Int), I (↑(rfP g d R b j).snd : Int), u (4 : Nat), AV.ptr (0 : Nat) (0 : Nat), u (6 : Nat), u (7 : Nat), u (8 : Nat), u (9 : Nat), u (10 : Nat), u (11 : Nat), u (12 : Nat), u (13 : Nat), u (14 : Nat), u (15 : Nat), u (16 : Nat), u (17 : Nat), u (18 : Nat), u (19 : Nat), u (20 : Nat), u (21 : Nat), I (↑j : Int), I (↑j : Int), AV.bool false, u (25 : Nat), u (26 : Nat), u (27 : Nat), u (28 : Nat), u (29 : Nat), u (30 : Nat), u (31 : Nat), u (32 : Nat), u (33 : Nat), u (34 : Nat), u (35 : Nat), u (36 : Nat), u (37 : Nat), u (38 : Nat), u (39 : Nat), u (40 : Nat), u (41 : Nat), u (42 : Nat), u (43 : Nat), u (44 : Nat), u (45 : Nat), u (46 : Nat)] (H.mk [ints (rfP g d R b j).fst] [] [])) (by kernel_rfl) ?_⟩
    refine And.intro (by first | with_reducible assumption | omega | assumption) ?_
    refine And.intro (by first | with_reducible assumption | omega | assumption) ?_
    exact .inl ⟨(), trivial, rfl, by rw [hM]; rfl, by rw [hM]⟩
theorem r75 (n : Nat) (ih : C75ok n) (g : List Int) (r : Room) (R : List Int) (i b : Int) (hp : w75 g r R i b ∧ g.length - i.toNat < n + 1) : Body (En6 [c96.to, (C75 n ih).to]) none1 Tryd.f75 [ls g r, .agg (ints R), I i, I b] .nil (v75 g R i b, .nil) := by
  obtain ⟨h0, hn⟩ := hp
  obtain ⟨k, rfl⟩ : ∃ k : Nat, i = k := ⟨i.toNat, by have := h0.1.2.2.1.1; omega⟩
  obtain ⟨c, rfl⟩ : ∃ c : Nat, b = c := ⟨b.toNat, by have := h0.1.2.2.2.1; omega⟩
  simp only [v75, Int.toNat_natCast] at hn ⊢
  have hk := h0.1.2.2.1.2
  simp only [Int.toNat_natCast] at hk
  have g5 := h0.1.1.2
  have hl5 : R.length = 5 := h0.1.2.1.1
  by_cases hz : k = g.length
  · have hu : ((k : Nat) : Int) = g.length := by omega
    have p96' : rs R ∧ 0 ≤ (g.length : Int) ∧ (g.length : Int) ≤ 5 := ⟨h0.1.2.1, by omega, by omega⟩
    have hm : rfF g (g.length - k) R c = min c (rk2 g.length R g.length).2 := by rw [hz, Nat.sub_self]; rfl
    have hmn := mn_nat c (rk2 g.length R g.length).2
    rw [hm]
    refine body_s ([Ans.o (Orc.b true), Ans.o (Orc.val (15 : Nat) (AV.agg (ints R)) (H.mk [ints R] [] [])), Ans.o (Orc.val (18 : Nat) (I (↑(rk2 (↑g.length : Int).toNat R (↑g.length : Int).toNat).snd : Int)) (H.mk [ints R] [] []))]) ((↑k : Int) = (↑g.length : Int) ∧ aLoad Tryd.prog (80 : Nat) (List.drop (0 : Nat) (ints R)) = some (AV.agg (ints R)) ∧ aCall (Sof [c96.to, (C75 n ih).to]) (AV.fn (Fn.func (96 : Nat)) [] []) [AV.agg (ints R), I (↑g.length : Int)] (H.mk [ints R] [] []) = some (I (↑(rk2 (↑g.length : Int).toNat R (↑g.length : Int).toNat).snd : Int), H.mk [ints R] [] []) ∧ (I (pick2 false (↑c : Int) (↑(rk2 (↑g.length : Int).toNat R (↑g.length : Int).toNat).snd : Int)), H.mk [] [] []) = (I (↑(min c (rk2 g.length R g.length).snd) : Int), H.mk [] [] [])) (by kernel_rfl) ?_
    refine And.intro (by first | with_reducible assumption | omega | assumption) ?_
    refine And.intro (by exact lda_ints (by kernel_rfl) (by kernel_rfl) (by kernel_rfl) hl5) ?_
    refine And.intro (by exact acall_hit (c := c96.to) (R, (g.length : Int)) _ rfl p96') ?_
    exact congrArg (fun z => (I z, H.nil)) hmn
  · have hu : ((k : Nat) : Int) ≠ g.length := by omega
    obtain ⟨d, hd⟩ : ∃ d, k + d + 1 = g.length := ⟨g.length - k - 1, by omega⟩
    have e : g.length - k = d + 1 := by omega
    have hm : rfF g (g.length - k) R c = (rfP g d R c (2 ^ g.length)).2 := by rw [e, rfF_suc]
    rw [hm]
    have ev0 := pw_shl (n := g.length) (by omega)
    have l1 := lp75 n ih g r R k d c h0 hd hn _ rfl
    refine body_s ([Ans.o (Orc.b false), Ans.o (Orc.val (22 : Nat) (I (↑((2 : Nat) ^ g.length) : Int)) (H.mk [ints R] [] [])), Ans.loop [(0 : Nat), (2 : Nat), (3 : Nat), (5 : Nat), (22 : Nat), (23 : Nat)] [Out.mk Unit (AX.exit (0 : Nat)) [(3 : Nat)] (fun x => True) (fun x => [I (↑(rfP g d R c ((2 : Nat) ^ g.length)).snd : Int)]) (fun x => hR (rfP g d R c ((2 : Nat) ^ g.length)).fst) fun y => []]]) ((↑k : Int) ≠ (↑g.length : Int) ∧ aBin Tryd.prog BinOp.shl (3 : Nat) (I (1 : Int)) (I (↑g.length : Int)) = some (I (↑((2 : Nat) ^ g.length) : Int)) ∧ LoopS (Env.mk Tryd.prog (Sof [c96.to, (C75 n ih).to]) (Pof (P := Tryd.prog) []) H.nil.base (300 : Nat)) (loopAt Tryd.f75 (0 : Nat)) (47 : Nat) [(0 : Nat), (2 : Nat), (3 : Nat), (5 : Nat), (22 : Nat), (23 : Nat)] [AV.sl (ints g) g.length r, I (↑k : Int), I (↑c : Int), AV.ptr (0 : Nat) (0 : Nat), I (↑((2 : Nat) ^ g.length) : Int), I (0 : Int)] (H.mk [ints R] [] []) [Out.mk Unit (AX.exit (0 : Nat)) [(3 : Nat)] (fun x => True) (fun x => [I (↑(rfP g d R c ((2 : Nat) ^ g.length)).snd : Int)]) (fun x => hR (rfP g d R c ((2 : Nat) ^ g.length)).fst) fun y => []] ∧ (∀ (y : Unit), True → ∀ (u : Nat → AV), (I (↑(rfP g d R c ((2 : Nat) ^ g.length)).snd : Int), H.mk [] [] []) = (I (↑(rfP g d R c ((2 : Nat) ^ g.length)).snd : Int), H.mk [] [] [])) ∧ True) (by kernel_rfl) ?_
    refine And.intro (by first | with_reducible assumption | omega | assumption) ?_
    refine And.intro (by first | exact told_shl (by first | exact Int.natCast_nonneg _ | omega) (by with_reducible assumption) | exact told_shl (by omega) rfl) ?_
    refine And.intro (by exact l1) ?_
    refine And.intro ?_ ?_
    · skip
      intro y
      intro w1
      intro u
      rfl
    · skip
      trivial
theorem C75_all : ∀ n, C75ok n
  | 0 => fun _ _ _ _ _ hp => absurd hp.2 (Nat.not_lt_zero _)
  | n + 1 => fun g r R i b hp => (r75 n (C75_all n) g r R i b hp).run ok75 (.pure _ (.pure _ .nil)) rfl
noncomputable def c75 : PCtr Tryd.prog where
  f := 75
  X := List Int × Room
  args x := [ls x.1 x.2, .agg [I 0, I 0, I 0, I 0, I 0], I 0, I x.1.length]
  pre x := (Gr x.1 ∧ x.1.length ≤ 5) ∧ rok x.1 x.2
  v x := I (rfF x.1 x.1.length [0, 0, 0, 0, 0] x.1.length : Nat)
  det := by
    rintro ⟨g, r⟩ ⟨g', r'⟩ e _ _
    simp at e
    simp [e]
  ok := by
    rintro ⟨g, r⟩ h
    have h5 : g.length ≤ 5 := h.1.2
    have hz : rs [0, 0, 0, 0, 0] := by decide
    have hw : w75 g r [0, 0, 0, 0, 0] 0 g.length := ⟨⟨h.1, hz, ⟨by omega, by simp⟩, by omega, by omega⟩, h.2⟩
    exact (C75 65 (C75_all 65)).ok (g, r, [0, 0, 0, 0, 0], 0, g.length) ⟨hw, by show g.length - 0 < 65; omega⟩
theorem ok44 : FokM Tryd.prog none1 44 Tryd.f44 := ⟨mixed, by kernel_rfl, by kernel_rfl, by kernel_rfl, by kernel_rfl⟩
theorem r44 (g : List Int) (r : Room) (hp : (Gr g ∧ g.length ≤ 5) ∧ rok g r) : Body ⟨Tryd.prog, Sof (P := Tryd.prog) [c75.to], Pof (P := Tryd.prog) [], H.nil.base, 300⟩ none1 Tryd.f44 [ls g r] .nil (I (rfF g g.length [0, 0, 0, 0, 0] g.length : Nat), .nil) := by
  refine body_s ([Ans.o (Orc.val (7 : Nat) (I (↑(rfF g g.length [(0 : Int), (0 : Int), (0 : Int), (0 : Int), (0 : Int)] g.length) : Int)) (H.mk [] [] []))]) (aCall (Sof [c75.to]) (AV.fn (Fn.func (75 : Nat)) [] []) [AV.sl (ints g) g.length r, AV.agg [I (0 : Int), I (0 : Int), I (0 : Int), I (0 : Int), I (0 : Int)], I (0 : Int), I (↑g.length : Int)] (H.mk [] [] []) = some (I (↑(rfF g g.length [(0 : Int), (0 : Int), (0 : Int), (0 : Int), (0 : Int)] g.length) : Int), H.mk [] [] []) ∧ (I (↑(rfF g g.length [(0 : Int), (0 : Int), (0 : Int), (0 : Int), (0 : Int)] g.length) : Int), H.mk [] [] []) = (I (↑(rfF g g.length [(0 : Int), (0 : Int), (0 : Int), (0 : Int), (0 : Int)] g.length) : Int), H.mk [] [] [])) (by kernel_rfl) ?_
  refine And.intro (by exact acall_hit (c := c75.to) (g, r) _ rfl hp) ?_
  rfl
noncomputable def c44 : PCtr Tryd.prog := sctr ok44 (X := List Int × Room) (fun x => [ls x.1 x.2]) (fun x => (Gr x.1 ∧ x.1.length ≤ 5) ∧ rok x.1 x.2) (fun x => I (rfF x.1 x.1.length [0, 0, 0, 0, 0] x.1.length : Nat)) (by intro x y e _ _; simp at e; simp [e]) (fun x => by simp [AV.bnds, AV.bnd, AV.wk, rm_wk_bnd]) (fun x => by first | rfl | (simp [AV.bnd, rm_wk_bnd]; done)  | (simp [AV.bnd, AV.bnds, rm_wk_bnd]; done) | simp [AV.bnd, AV.bnds, Room.bnd, rm_wk_bnd]) (fun x hx => ⟨_, _, _, .pure c75 (.nil), r44 (x.1) (x.2).wk (by first | exact hx | (simp only [rok_wk]; exact hx) | (simp only [rok_wk, lst_wk]; exact hx) | (simp only [rok_wk, lst_wk, lsn_wk]; exact hx))⟩)
end Go.Proofs.Sur
