/- Layer 2: the law of kings and scores. -/
import Derived.Test.YtnnhomkkggkkfaaDoorRkJ
import Derived.KernelRfl
set_option linter.unusedSimpArgs false
set_option linter.unusedVariables false
set_option linter.unnecessarySimpa false
set_option maxHeartbeats 4000000
set_option maxRecDepth 100000
namespace Go.Proofs.Rnk
open Go Go.VM
open Go.Proofs.Sur (andn andn_bit andn_le i_wrap i_and i_or i_andn i_shl i_shr bit_01)

theorem cut_eq {t : List Int} (h : t.length ≤ 11) : cut t = t := List.take_of_length_le h
theorem cut_get {t : List Int} {i : Nat} (h : i < (cut t).length) : ia (cut t) i = ia t i := by
  have h1 : i < 11 := by simp only [cut, List.length_take] at h; omega
  simp only [ia, cut, List.getD_eq_getElem?_getD, List.getElem?_take, if_pos h1]
theorem cut_in {t : List Int} (h : inI t) : inI (cut t) := fun i hi => by
  rw [cut_get hi]; exact h i (by simp only [cut, List.length_take] at hi; omega)
theorem cut_tn {t : List Int} (h : ¬ Tn t) : ¬ Tn (cut t) := fun k => by
  have h8 := k.s.2
  have : t.length ≤ 11 := by simp only [cut, List.length_take] at h8; omega
  rw [cut_eq this] at k
  exact h k
/-- 'list' of a slice that is not longer -/
noncomputable def c19s : PCtr Tryd.prog where
  f := 19
  X := List Int × Room
  args x := [ls x.1 x.2]
  pre x := (lim x.1.length ∧ rok x.1 x.2 ∧ em x.1 x.2) ∧ x.1.length ≤ 11
  v x := ls x.1 (rcl x.2)
  det := by
    rintro ⟨l, r⟩ ⟨l', r'⟩ e _ _
    simp at e
    simp [e]
  ok := by
    rintro ⟨l, r⟩ ⟨h1, h2⟩
    have := c19.ok (l, r) h1
    have e : c19.v (l, r) = ls l (rcl r) := by show ls (cut l) (rcl r) = _; rw [cut_eq h2]
    rw [e] at this
    exact this
/-- what is asked of a slice as an argument -/
abbrev pL (t : List Int) (r : Room) : Prop := (lim t.length ∧ rok t r ∧ em t r) ∧ inI t
theorem ok13 : FokM Tryd.prog none1 13 Tryd.f13 := ⟨mixed, by kernel_rfl, by kernel_rfl, by kernel_rfl, by kernel_rfl⟩
theorem r13f (t : List Int) (r : Room) (hp : pL t r) (h : ¬ Tn t) : Body (En6 [c19.to, c32f.to, c24.to]) none1 Tryd.f13 [ls t r] .nil (.bool true, .nil) := by
  obtain ⟨h1, h2⟩ := hp
  have p32 : (lim (cut t).length ∧ rok (cut t) (rcl r) ∧ inI (cut t)) ∧ ¬ Tn (cut t) := ⟨⟨cut_lim t, fun hne => rcl_rok h1.2.1 (fun e => hne (by rw [e]; rfl)), cut_in h2⟩, cut_tn h⟩
  refine body_s ([Ans.o (Orc.val 13 (AV.sl (ints (cut t)) (cut t).length (rcl r)) (H.mk [] [] [])), Ans.o (Orc.val 14 (AV.tup [I 0, I 2]) (H.mk [] [] [])), Ans.o Orc.dflt, Ans.o Orc.dflt, Ans.o (Orc.val 27 (AV.bool true) (H.mk [] [] []))]) (aCall (Sof [c19.to, c32f.to, c24.to]) (AV.fn (Fn.func (19 : Nat)) [] []) [AV.sl (ints t) t.length r] (H.mk [] [] []) = some (AV.sl (ints (cut t)) (cut t).length (rcl r), H.mk [] [] []) ∧ aCall (Sof [c19.to, c32f.to, c24.to]) (AV.fn (Fn.func (32 : Nat)) [] []) [AV.sl (ints (cut t)) (cut t).length (rcl r)] (H.mk [] [] []) = some (AV.tup [I 0, I 2], H.mk [] [] []) ∧ aCall (Sof [c19.to, c32f.to, c24.to]) (AV.fn (Fn.func (24 : Nat)) [] []) [] (H.mk [] [] []) = some (AV.bool true, H.mk [] [] []) ∧ (AV.bool true, H.mk [] [] []) = (AV.bool true, H.mk [] [] [])) (by kernel_rfl) ?_
  refine ⟨acall_hit (c := c19.to) (t, r) _ rfl h1, ?_⟩
  refine ⟨acall_hit (c := c32f.to) (cut t, rcl r) _ rfl p32, ?_⟩
  refine ⟨acall_hit (c := c24.to) () _ rfl trivial, ?_⟩
  first | with_reducible rfl | (refine bleaf_t ?_; omega) | (refine bleaf_f ?_; omega) | (refine ileaf ?_; omega) | rfl | (exfalso; omega)
/-- the greatest score of the first ones -/
def mxV (t : List Int) : Nat → Nat
  | 0 => 0
  | j + 1 => max (mxV t j) (pc (sn t j))
theorem mxV_le {t : List Int} : ∀ {j k : Nat}, k < j → pc (sn t k) ≤ mxV t j
  | 0, k, h => by omega
  | j + 1, k, h => by
    simp only [mxV]
    rcases Nat.lt_or_ge k j with q | q
    · have := @mxV_le t j k q; omega
    · have : k = j := by omega
      subst this; omega
theorem mx_pick (t : List Int) (j : Nat) : pick2 true ((mxV t j : Nat) : Int) ((pc (sn t j) : Nat) : Int) = ((mxV t (j + 1) : Nat) : Int) := by
  simp only [pick2, if_true, mxV]
  split <;> omega
/-- one of the first ones beats all others -/
def alV (t : List Int) : Nat → Bool
  | 0 => false
  | j + 1 => alV t j || decide (pc (sn t j) = t.length - 1)
theorem alV_iff {t : List Int} : ∀ j, alV t j = true ↔ ∃ i, i < j ∧ pc (sn t i) = t.length - 1
  | 0 => by simp [alV]
  | j + 1 => by
    simp only [alV, Bool.or_eq_true, decide_eq_true_eq, alV_iff j]
    constructor
    · rintro (⟨i, h1, h2⟩ | h)
      · exact ⟨i, by omega, h2⟩
      · exact ⟨j, by omega, h⟩
    · rintro ⟨i, h1, h2⟩
      rcases Nat.lt_or_ge i j with q | q
      · exact .inl ⟨i, q, h2⟩
      · have : i = j := by omega
        subst this; exact .inr h2
noncomputable abbrev cs13 : List (Ctr Tryd.prog) := [c19s.to, c32t.to, c21.to, c27.to, c24.to]
theorem ct13 : Ctrs Tryd.prog none1 cs13 := .pure _ (.pure _ (.pure _ (.pure _ (.pure _ .nil))))
abbrev o13a (t : List Int) (r : Room) : List Out := [.mk Unit (.exit 0) [0, 3, 5, 6] (fun _ => True) (fun _ => [ls t r, I (kgs t : Nat), I (mxV t t.length : Nat), .bool false]) (fun _ => .nil) (fun _ => [])]
theorem simp13a : allSimpleM none1 (loopAt Tryd.f13 0) = true := by kernel_rfl
theorem lp13a (t : List Int) (r : Room) (h : Tn t) (hr : rok t r) : LoopS (En6 cs13) (loopAt Tryd.f13 0) 95 [0, 3, 5, 6, 29, 30, 31] [ls t r, I (kgs t : Nat), I 0, .bool false, ls t r, I t.length, I 0] .nil (o13a t r) := by
  have hR : Rests (En6 cs13) none1 := rests mixed ct13
  have h8 := h.s.2
  refine loop_s hR simp13a none (by intro _ h; cases h) (fun j vs h => h = .nil ∧ vs = [ls t r, I (kgs t : Nat), I (mxV t j : Nat), .bool false, ls t r, I t.length, I j]) t.length ⟨rfl, rfl⟩ (by intro _ h; cases h) ?_
  rintro j vs h' hj ⟨rfl, rfl⟩
  by_cases hz : (j : Int) < t.length
  · have hz' : j < t.length := by omega
    have hri := rok_idx hr hz'
    have ev0 := wj1 (j := j) (by omega)
    have ev1 := mx_pick t j
    have s8 := h.s8 j
    refine ⟨[Ans.o (Orc.b true), Ans.o (Orc.val 33 (AV.cptr (ints (List.drop j t))) H.nil), Ans.o (Orc.val 34 (I (t.getD j i0)) H.nil), Ans.o (Orc.val 37 (I (↑(pc (t.getD j i0).toNat) : Int)) (H.mk [] [] [])), Ans.o (Orc.val 38 (I (↑(mxV t (j + (1 : Nat))) : Int)) (H.mk [] [] [])), Ans.o (Orc.val 39 (I (↑(j + (1 : Nat)) : Int)) H.nil)], fun u => of_eq ((↑j : Int) < (↑t.length : Int) ∧ aIndexAddr Tryd.prog (22 : Nat) (AV.sl (ints t) t.length r) (I (↑j : Int)) = some (AV.cptr (ints (List.drop j t))) ∧ aLoad Tryd.prog (3 : Nat) (ints (List.drop j t)) = some (I (t.getD j i0)) ∧ aCall (Sof cs13) (AV.fn (Fn.func (27 : Nat)) [] []) [I (t.getD j i0)] (H.mk [] [] []) = some (I (↑(pc (t.getD j i0).toNat) : Int), H.mk [] [] []) ∧ aMin true [I (↑(mxV t j) : Int), I (↑(pc (t.getD j i0).toNat) : Int)] = some (I (↑(mxV t (j + (1 : Nat))) : Int)) ∧ aBin Tryd.prog BinOp.add (3 : Nat) (I (↑j : Int)) (I 1) = some (I (↑(j + (1 : Nat)) : Int)) ∧ (95 : Nat) = (95 : Nat) ∧ j < t.length ∧ Keep (H.mk [] [] [] = H.mk [] [] [] ∧ [AV.sl (ints t) t.length r, I (↑(kgs t) : Int), I (↑(mxV t (j + (1 : Nat))) : Int), AV.bool false, AV.sl (ints t) t.length r, I (↑t.length : Int), I (↑(j + (1 : Nat)) : Int)] = [AV.sl (ints t) t.length r, I (↑(kgs t) : Int), I (↑(mxV t (j + (1 : Nat))) : Int), AV.bool false, AV.sl (ints t) t.length r, I (↑t.length : Int), I (↑(j + (1 : Nat)) : Int)])) (by kernel_rfl) ?_⟩
    refine ⟨by first | with_reducible assumption | omega | assumption, ?_⟩
    refine ⟨ix_ints (by kernel_rfl) hz' hri, ?_⟩
    refine ⟨by first | exact ld_ints (by kernel_rfl) (by kernel_rfl) (by omega) | exact ldm_ints (by kernel_rfl) (by kernel_rfl) (by first | omega | (simp; omega)), ?_⟩
    refine ⟨acall_hit (c := c27.to) (t.getD j i0) _ rfl s8, ?_⟩
    refine ⟨congrArg (fun z => some (I z)) ev1, ?_⟩
    refine ⟨told_add (by with_reducible assumption), ?_⟩
    refine ⟨by first | with_reducible assumption | omega | assumption, ?_⟩
    refine ⟨by first | with_reducible assumption | omega | assumption, ?_⟩
    exact ⟨rfl, rfl⟩
  · have hz : (t.length : Int) ≤ j := by omega
    have e : j = t.length := by omega
    subst e
    refine ⟨[Ans.o (Orc.b false)], fun u => of_eq ((↑t.length : Int) ≤ (↑t.length : Int) ∧ (95 : Nat) = (95 : Nat) ∧ hits [Out.mk Unit (AX.exit (0 : Nat)) [(0 : Nat), (3 : Nat), (5 : Nat), (6 : Nat)] (fun x => True) (fun x => [ls t r, I (↑(kgs t) : Int), I (↑(mxV t t.length) : Int), AV.bool false]) (fun x => H.nil) fun x => []] (AX.exit (0 : Nat)) [AV.sl (ints t) t.length r, u (1 : Nat), u (2 : Nat), I (↑(kgs t) : Int), u (4 : Nat), I (↑(mxV t t.length) : Int), AV.bool false, u (7 : Nat), u (8 : Nat), u (9 : Nat), u (10 : Nat), u (11 : Nat), u (12 : Nat), u (13 : Nat), u (14 : Nat), u (15 : Nat), u (16 : Nat), u (17 : Nat), u (18 : Nat), u (19 : Nat), u (20 : Nat), u (21 : Nat), u (22 : Nat), u (23 : Nat), u (24 : Nat), u (25 : Nat), u (26 : Nat), u (27 : Nat), u (28 : Nat), AV.sl (ints t) t.length r, I (↑t.length : Int), I (↑t.length : Int), AV.bool false, u (33 : Nat), u (34 : Nat), u (35 : Nat), u (36 : Nat), u (37 : Nat), u (38 : Nat), u (39 : Nat), u (40 : Nat), u (41 : Nat), u (42 : Nat), u (43 : Nat), u (44 : Nat), u (45 : Nat), u (46 : Nat), u (47 : Nat), u (48 : Nat), u (49 : Nat), u (50 : Nat), u (51 : Nat), u (52 : Nat), u (53 : Nat), u (54 : Nat), u (55 : Nat), u (56 : Nat), u (57 : Nat), u (58 : Nat), u (59 : Nat), u (60 : Nat), u (61 : Nat), u (62 : Nat), u (63 : Nat), u (64 : Nat), u (65 : Nat), u (66 : Nat), u (67 : Nat), u (68 : Nat), u (69 : Nat), u (70 : Nat), u (71 : Nat), u (72 : Nat), u (73 : Nat), u (74 : Nat), u (75 : Nat), u (76 : Nat), u (77 : Nat), u (78 : Nat), u (79 : Nat), u (80 : Nat), u (81 : Nat), u (82 : Nat), u (83 : Nat), u (84 : Nat), u (85 : Nat), u (86 : Nat), u (87 : Nat), u (88 : Nat), u (89 : Nat), u (90 : Nat), u (91 : Nat), u (92 : Nat), u (93 : Nat), u (94 : Nat)] (H.mk [] [] [])) (by kernel_rfl) ?_⟩
    refine ⟨by first | with_reducible assumption | omega | assumption, ?_⟩
    refine ⟨by first | with_reducible assumption | omega | assumption, ?_⟩
    exact .inl ⟨(), trivial, rfl, rfl, rfl⟩
abbrev o13b (t : List Int) (r : Room) : List Out := [.mk Unit .ret [2] (fun _ => False) (fun _ => [.bool false]) (fun _ => .nil) (fun _ => []), .mk Unit (.exit 2) [0, 3, 6] (fun _ => True) (fun _ => [ls t r, I (kgs t : Nat), .bool (alV t t.length)]) (fun _ => .nil) (fun _ => [])]
theorem simp13b : allSimpleM none1 (loopAt Tryd.f13 1) = true := by kernel_rfl
theorem lp13b (t : List Int) (r : Room) (h : Tn t) (hr : rok t r) : LoopS (En6 cs13) (loopAt Tryd.f13 1) 95 [0, 3, 5, 6, 40, 41, 42] [ls t r, I (kgs t : Nat), I (mxV t t.length : Nat), .bool false, ls t r, I t.length, I 0] .nil (o13b t r) := by
  have hR : Rests (En6 cs13) none1 := rests mixed ct13
  have h8 := h.s.2
  have h1 := h.s.1
  refine loop_s hR simp13b none (by intro _ h; cases h) (fun j vs h => h = .nil ∧ vs = [ls t r, I (kgs t : Nat), I (mxV t t.length : Nat), .bool (alV t j), ls t r, I t.length, I j]) t.length ⟨rfl, rfl⟩ (by intro _ h; cases h) ?_
  rintro j vs h' hj ⟨rfl, rfl⟩
  by_cases hz : (j : Int) < t.length
  · have hz' : j < t.length := by omega
    have hri := rok_idx hr hz'
    have ev0 := wj1 (j := j) (by omega)
    have ev1 : IntKind.i64.wrap ((t.length : Int) - 1) = ((t.length - 1 : Nat) : Int) := by rw [wr _ (by omega) (by omega)]; omega
    have s8 := h.s8 j
    have ks : Rnk.s8 ((kgs t : Nat) : Int) := ⟨by omega, by have := kgs_lt h; omega⟩
    have hK : pc (sn t j) = mxV t t.length → bi ((kgs t : Nat) : Int) j = true := fun e => by
      show (((kgs t : Nat) : Int).toNat).testBit j = true
      rw [Int.toNat_natCast]
      exact (kgs_bit h).2 ⟨hz', max_king h hz' fun i hi => by rw [e]; exact mxV_le hi⟩
    cases hal : alV t j
    · by_cases hd : pc (sn t j) = t.length - 1
      · have hd' : ((pc (t.getD j i0).toNat : Nat) : Int) = ((t.length - 1 : Nat) : Int) := by exact congrArg (fun n : Nat => (n : Int)) hd
        have hk : alV t (j + 1) = true := by simp only [alV, hal, hd, decide_true, Bool.or_true]
        by_cases c : pc (sn t j) = mxV t t.length
        · have c' : ((pc (t.getD j i0).toNat : Nat) : Int) = ((mxV t t.length : Nat) : Int) := congrArg (fun n : Nat => (n : Int)) c
          obtain ⟨ev2, ev3⟩ := i_bit1 ks (show j ≤ 64 by omega) (hK c)
          refine ⟨[Ans.o (Orc.b true), Ans.o (Orc.val 45 (AV.cptr (ints (List.drop j t))) H.nil), Ans.o (Orc.val 46 (I (t.getD j i0)) H.nil), Ans.o (Orc.val 48 (I (↑(pc (t.getD j i0).toNat) : Int)) (H.mk [] [] [])), Ans.o (Orc.b true), Ans.o (Orc.val 54 (I (↑((↑(kgs t) : Int).toNat >>> j) : Int)) H.nil), Ans.o (Orc.val 55 (I 1) H.nil), Ans.o Orc.dflt, Ans.o (Orc.val 61 (I (↑(pc (t.getD j i0).toNat) : Int)) (H.mk [] [] [])), Ans.o (Orc.val 64 (I (↑(t.length - (1 : Nat)) : Int)) H.nil), Ans.o (Orc.b true), Ans.o (Orc.val 67 (I (↑(j + (1 : Nat)) : Int)) H.nil)], fun u => of_eq ((↑j : Int) < (↑t.length : Int) ∧ aIndexAddr Tryd.prog (22 : Nat) (AV.sl (ints t) t.length r) (I (↑j : Int)) = some (AV.cptr (ints (List.drop j t))) ∧ aLoad Tryd.prog (3 : Nat) (ints (List.drop j t)) = some (I (t.getD j i0)) ∧ aCall (Sof cs13) (AV.fn (Fn.func (27 : Nat)) [] []) [I (t.getD j i0)] (H.mk [] [] []) = some (I (↑(pc (t.getD j i0).toNat) : Int), H.mk [] [] []) ∧ (↑(pc (t.getD j i0).toNat) : Int) = (↑(mxV t t.length) : Int) ∧ aBin Tryd.prog BinOp.shr (3 : Nat) (I (↑(kgs t) : Int)) (I (↑j : Int)) = some (I (↑((↑(kgs t) : Int).toNat >>> j) : Int)) ∧ aBin Tryd.prog BinOp.and (3 : Nat) (I (↑((↑(kgs t) : Int).toNat >>> j) : Int)) (I 1) = some (I 1) ∧ aCall (Sof cs13) (AV.fn (Fn.func (27 : Nat)) [] []) [I (t.getD j i0)] (H.mk [] [] []) = some (I (↑(pc (t.getD j i0).toNat) : Int), H.mk [] [] []) ∧ aBin Tryd.prog BinOp.sub (3 : Nat) (I (↑t.length : Int)) (I 1) = some (I (↑(t.length - (1 : Nat)) : Int)) ∧ (↑(pc (t.getD j i0).toNat) : Int) = (↑(t.length - (1 : Nat)) : Int) ∧ aBin Tryd.prog BinOp.add (3 : Nat) (I (↑j : Int)) (I 1) = some (I (↑(j + (1 : Nat)) : Int)) ∧ (95 : Nat) = (95 : Nat) ∧ j < t.length ∧ Keep (H.mk [] [] [] = H.mk [] [] [] ∧ [AV.sl (ints t) t.length r, I (↑(kgs t) : Int), I (↑(mxV t t.length) : Int), AV.bool true, AV.sl (ints t) t.length r, I (↑t.length : Int), I (↑(j + (1 : Nat)) : Int)] = [AV.sl (ints t) t.length r, I (↑(kgs t) : Int), I (↑(mxV t t.length) : Int), AV.bool (alV t (j + (1 : Nat))), AV.sl (ints t) t.length r, I (↑t.length : Int), I (↑(j + (1 : Nat)) : Int)])) (by kernel_rfl) ?_⟩
          refine ⟨by first | with_reducible assumption | omega | assumption, ?_⟩
          refine ⟨ix_ints (by kernel_rfl) hz' hri, ?_⟩
          refine ⟨by first | exact ld_ints (by kernel_rfl) (by kernel_rfl) (by omega) | exact ldm_ints (by kernel_rfl) (by kernel_rfl) (by first | omega | (simp; omega)), ?_⟩
          refine ⟨acall_hit (c := c27.to) (t.getD j i0) _ rfl s8, ?_⟩
          refine ⟨by first | with_reducible assumption | omega | assumption, ?_⟩
          refine ⟨by first | exact told_shr (by first | exact Int.natCast_nonneg _ | omega) (by with_reducible assumption) | exact told_shr (by omega) rfl, ?_⟩
          refine ⟨told_and (by with_reducible assumption), ?_⟩
          refine ⟨acall_hit (c := c27.to) (t.getD j i0) _ rfl s8, ?_⟩
          refine ⟨told_sub (by with_reducible assumption), ?_⟩
          refine ⟨by first | with_reducible assumption | omega | assumption, ?_⟩
          refine ⟨told_add (by with_reducible assumption), ?_⟩
          refine ⟨by first | with_reducible assumption | omega | assumption, ?_⟩
          refine ⟨by first | with_reducible assumption | omega | assumption, ?_⟩
          (rw [hk]; exact ⟨rfl, rfl⟩)
        · have c' : ((pc (t.getD j i0).toNat : Nat) : Int) ≠ ((mxV t t.length : Nat) : Int) := fun e => c (Int.ofNat.inj e)
          refine ⟨[Ans.o (Orc.b true), Ans.o (Orc.val 45 (AV.cptr (ints (List.drop j t))) H.nil), Ans.o (Orc.val 46 (I (t.getD j i0)) H.nil), Ans.o (Orc.val 48 (I (↑(pc (t.getD j i0).toNat) : Int)) (H.mk [] [] [])), Ans.o (Orc.b false), Ans.o (Orc.val 61 (I (↑(pc (t.getD j i0).toNat) : Int)) (H.mk [] [] [])), Ans.o (Orc.val 64 (I (↑(t.length - (1 : Nat)) : Int)) H.nil), Ans.o (Orc.b true), Ans.o (Orc.val 67 (I (↑(j + (1 : Nat)) : Int)) H.nil)], fun u => of_eq ((↑j : Int) < (↑t.length : Int) ∧ aIndexAddr Tryd.prog (22 : Nat) (AV.sl (ints t) t.length r) (I (↑j : Int)) = some (AV.cptr (ints (List.drop j t))) ∧ aLoad Tryd.prog (3 : Nat) (ints (List.drop j t)) = some (I (t.getD j i0)) ∧ aCall (Sof cs13) (AV.fn (Fn.func (27 : Nat)) [] []) [I (t.getD j i0)] (H.mk [] [] []) = some (I (↑(pc (t.getD j i0).toNat) : Int), H.mk [] [] []) ∧ (↑(pc (t.getD j i0).toNat) : Int) ≠ (↑(mxV t t.length) : Int) ∧ aCall (Sof cs13) (AV.fn (Fn.func (27 : Nat)) [] []) [I (t.getD j i0)] (H.mk [] [] []) = some (I (↑(pc (t.getD j i0).toNat) : Int), H.mk [] [] []) ∧ aBin Tryd.prog BinOp.sub (3 : Nat) (I (↑t.length : Int)) (I 1) = some (I (↑(t.length - (1 : Nat)) : Int)) ∧ (↑(pc (t.getD j i0).toNat) : Int) = (↑(t.length - (1 : Nat)) : Int) ∧ aBin Tryd.prog BinOp.add (3 : Nat) (I (↑j : Int)) (I 1) = some (I (↑(j + (1 : Nat)) : Int)) ∧ (95 : Nat) = (95 : Nat) ∧ j < t.length ∧ Keep (H.mk [] [] [] = H.mk [] [] [] ∧ [AV.sl (ints t) t.length r, I (↑(kgs t) : Int), I (↑(mxV t t.length) : Int), AV.bool true, AV.sl (ints t) t.length r, I (↑t.length : Int), I (↑(j + (1 : Nat)) : Int)] = [AV.sl (ints t) t.length r, I (↑(kgs t) : Int), I (↑(mxV t t.length) : Int), AV.bool (alV t (j + (1 : Nat))), AV.sl (ints t) t.length r, I (↑t.length : Int), I (↑(j + (1 : Nat)) : Int)])) (by kernel_rfl) ?_⟩
          refine ⟨by first | with_reducible assumption | omega | assumption, ?_⟩
          refine ⟨ix_ints (by kernel_rfl) hz' hri, ?_⟩
          refine ⟨by first | exact ld_ints (by kernel_rfl) (by kernel_rfl) (by omega) | exact ldm_ints (by kernel_rfl) (by kernel_rfl) (by first | omega | (simp; omega)), ?_⟩
          refine ⟨acall_hit (c := c27.to) (t.getD j i0) _ rfl s8, ?_⟩
          refine ⟨by first | with_reducible assumption | omega | assumption, ?_⟩
          refine ⟨acall_hit (c := c27.to) (t.getD j i0) _ rfl s8, ?_⟩
          refine ⟨told_sub (by with_reducible assumption), ?_⟩
          refine ⟨by first | with_reducible assumption | omega | assumption, ?_⟩
          refine ⟨told_add (by with_reducible assumption), ?_⟩
          refine ⟨by first | with_reducible assumption | omega | assumption, ?_⟩
          refine ⟨by first | with_reducible assumption | omega | assumption, ?_⟩
          (rw [hk]; exact ⟨rfl, rfl⟩)
      · have hd' : ((pc (t.getD j i0).toNat : Nat) : Int) ≠ ((t.length - 1 : Nat) : Int) := fun e => hd (Int.ofNat.inj e)
        have hk : alV t (j + 1) = false := by simp only [alV, hal, hd, decide_false, Bool.or_false]
        by_cases c : pc (sn t j) = mxV t t.length
        · have c' : ((pc (t.getD j i0).toNat : Nat) : Int) = ((mxV t t.length : Nat) : Int) := congrArg (fun n : Nat => (n : Int)) c
          obtain ⟨ev2, ev3⟩ := i_bit1 ks (show j ≤ 64 by omega) (hK c)
          refine ⟨[Ans.o (Orc.b true), Ans.o (Orc.val 45 (AV.cptr (ints (List.drop j t))) H.nil), Ans.o (Orc.val 46 (I (t.getD j i0)) H.nil), Ans.o (Orc.val 48 (I (↑(pc (t.getD j i0).toNat) : Int)) (H.mk [] [] [])), Ans.o (Orc.b true), Ans.o (Orc.val 54 (I (↑((↑(kgs t) : Int).toNat >>> j) : Int)) H.nil), Ans.o (Orc.val 55 (I 1) H.nil), Ans.o Orc.dflt, Ans.o (Orc.val 61 (I (↑(pc (t.getD j i0).toNat) : Int)) (H.mk [] [] [])), Ans.o (Orc.val 64 (I (↑(t.length - (1 : Nat)) : Int)) H.nil), Ans.o (Orc.b false), Ans.o (Orc.val 67 (I (↑(j + (1 : Nat)) : Int)) H.nil)], fun u => of_eq ((↑j : Int) < (↑t.length : Int) ∧ aIndexAddr Tryd.prog (22 : Nat) (AV.sl (ints t) t.length r) (I (↑j : Int)) = some (AV.cptr (ints (List.drop j t))) ∧ aLoad Tryd.prog (3 : Nat) (ints (List.drop j t)) = some (I (t.getD j i0)) ∧ aCall (Sof cs13) (AV.fn (Fn.func (27 : Nat)) [] []) [I (t.getD j i0)] (H.mk [] [] []) = some (I (↑(pc (t.getD j i0).toNat) : Int), H.mk [] [] []) ∧ (↑(pc (t.getD j i0).toNat) : Int) = (↑(mxV t t.length) : Int) ∧ aBin Tryd.prog BinOp.shr (3 : Nat) (I (↑(kgs t) : Int)) (I (↑j : Int)) = some (I (↑((↑(kgs t) : Int).toNat >>> j) : Int)) ∧ aBin Tryd.prog BinOp.and (3 : Nat) (I (↑((↑(kgs t) : Int).toNat >>> j) : Int)) (I 1) = some (I 1) ∧ aCall (Sof cs13) (AV.fn (Fn.func (27 : Nat)) [] []) [I (t.getD j i0)] (H.mk [] [] []) = some (I (↑(pc (t.getD j i0).toNat) : Int), H.mk [] [] []) ∧ aBin Tryd.prog BinOp.sub (3 : Nat) (I (↑t.length : Int)) (I 1) = some (I (↑(t.length - (1 : Nat)) : Int)) ∧ (↑(pc (t.getD j i0).toNat) : Int) ≠ (↑(t.length - (1 : Nat)) : Int) ∧ aBin Tryd.prog BinOp.add (3 : Nat) (I (↑j : Int)) (I 1) = some (I (↑(j + (1 : Nat)) : Int)) ∧ (95 : Nat) = (95 : Nat) ∧ j < t.length ∧ Keep (H.mk [] [] [] = H.mk [] [] [] ∧ [AV.sl (ints t) t.length r, I (↑(kgs t) : Int), I (↑(mxV t t.length) : Int), AV.bool false, AV.sl (ints t) t.length r, I (↑t.length : Int), I (↑(j + (1 : Nat)) : Int)] = [AV.sl (ints t) t.length r, I (↑(kgs t) : Int), I (↑(mxV t t.length) : Int), AV.bool (alV t (j + (1 : Nat))), AV.sl (ints t) t.length r, I (↑t.length : Int), I (↑(j + (1 : Nat)) : Int)])) (by kernel_rfl) ?_⟩
          refine ⟨by first | with_reducible assumption | omega | assumption, ?_⟩
          refine ⟨ix_ints (by kernel_rfl) hz' hri, ?_⟩
          refine ⟨by first | exact ld_ints (by kernel_rfl) (by kernel_rfl) (by omega) | exact ldm_ints (by kernel_rfl) (by kernel_rfl) (by first | omega | (simp; omega)), ?_⟩
          refine ⟨acall_hit (c := c27.to) (t.getD j i0) _ rfl s8, ?_⟩
          refine ⟨by first | with_reducible assumption | omega | assumption, ?_⟩
          refine ⟨by first | exact told_shr (by first | exact Int.natCast_nonneg _ | omega) (by with_reducible assumption) | exact told_shr (by omega) rfl, ?_⟩
          refine ⟨told_and (by with_reducible assumption), ?_⟩
          refine ⟨acall_hit (c := c27.to) (t.getD j i0) _ rfl s8, ?_⟩
          refine ⟨told_sub (by with_reducible assumption), ?_⟩
          refine ⟨by first | with_reducible assumption | omega | assumption, ?_⟩
          refine ⟨told_add (by with_reducible assumption), ?_⟩
          refine ⟨by first | with_reducible assumption | omega | assumption, ?_⟩
          refine ⟨by first | with_reducible assumption | omega | assumption, ?_⟩
          (rw [hk]; exact ⟨rfl, rfl⟩)
        · have c' : ((pc (t.getD j i0).toNat : Nat) : Int) ≠ ((mxV t t.length : Nat) : Int) := fun e => c (Int.ofNat.inj e)
          refine ⟨[Ans.o (Orc.b true), Ans.o (Orc.val 45 (AV.cptr (ints (List.drop j t))) H.nil), Ans.o (Orc.val 46 (I (t.getD j i0)) H.nil), Ans.o (Orc.val 48 (I (↑(pc (t.getD j i0).toNat) : Int)) (H.mk [] [] [])), Ans.o (Orc.b false), Ans.o (Orc.val 61 (I (↑(pc (t.getD j i0).toNat) : Int)) (H.mk [] [] [])), Ans.o (Orc.val 64 (I (↑(t.length - (1 : Nat)) : Int)) H.nil), Ans.o (Orc.b false), Ans.o (Orc.val 67 (I (↑(j + (1 : Nat)) : Int)) H.nil)], fun u => of_eq ((↑j : Int) < (↑t.length : Int) ∧ aIndexAddr Tryd.prog (22 : Nat) (AV.sl (ints t) t.length r) (I (↑j : Int)) = some (AV.cptr (ints (List.drop j t))) ∧ aLoad Tryd.prog (3 : Nat) (ints (List.drop j t)) = some (I (t.getD j i0)) ∧ aCall (Sof cs13) (AV.fn (Fn.func (27 : Nat)) [] []) [I (t.getD j i0)] (H.mk [] [] []) = some (I (↑(pc (t.getD j i0).toNat) : Int), H.mk [] [] []) ∧ (↑(pc (t.getD j i0).toNat) : Int) ≠ (↑(mxV t t.length) : Int) ∧ aCall (Sof cs13) (AV.fn (Fn.func (27 : Nat)) [] []) [I (t.getD j i0)] (H.mk [] [] []) = some (I (↑(pc (t.getD j i0).toNat) : Int), H.mk [] [] []) ∧ aBin Tryd.prog BinOp.sub (3 : Nat) (I (↑t.length : Int)) (I 1) = some (I (↑(t.length - (1 : Nat)) : Int)) ∧ (↑(pc (t.getD j i0).toNat) : Int) ≠ (↑(t.length - (1 : Nat)) : Int) ∧ aBin Tryd.prog BinOp.add (3 : Nat) (I (↑j : Int)) (I 1) = some (I (↑(j + (1 : Nat)) : Int)) ∧ (95 : Nat) = (95 : Nat) ∧ j < t.length ∧ Keep (H.mk [] [] [] = H.mk [] [] [] ∧ [AV.sl (ints t) t.length r, I (↑(kgs t) : Int), I (↑(mxV t t.length) : Int), AV.bool false, AV.sl (ints t) t.length r, I (↑t.length : Int), I (↑(j + (1 : Nat)) : Int)] = [AV.sl (ints t) t.length r, I (↑(kgs t) : Int), I (↑(mxV t t.length) : Int), AV.bool (alV t (j + (1 : Nat))), AV.sl (ints t) t.length r, I (↑t.length : Int), I (↑(j + (1 : Nat)) : Int)])) (by kernel_rfl) ?_⟩
          refine ⟨by first | with_reducible assumption | omega | assumption, ?_⟩
          refine ⟨ix_ints (by kernel_rfl) hz' hri, ?_⟩
          refine ⟨by first | exact ld_ints (by kernel_rfl) (by kernel_rfl) (by omega) | exact ldm_ints (by kernel_rfl) (by kernel_rfl) (by first | omega | (simp; omega)), ?_⟩
          refine ⟨acall_hit (c := c27.to) (t.getD j i0) _ rfl s8, ?_⟩
          refine ⟨by first | with_reducible assumption | omega | assumption, ?_⟩
          refine ⟨acall_hit (c := c27.to) (t.getD j i0) _ rfl s8, ?_⟩
          refine ⟨told_sub (by with_reducible assumption), ?_⟩
          refine ⟨by first | with_reducible assumption | omega | assumption, ?_⟩
          refine ⟨told_add (by with_reducible assumption), ?_⟩
          refine ⟨by first | with_reducible assumption | omega | assumption, ?_⟩
          refine ⟨by first | with_reducible assumption | omega | assumption, ?_⟩
          (rw [hk]; exact ⟨rfl, rfl⟩)
    · have hk : alV t (j + 1) = true := by simp only [alV, hal, Bool.true_or]
      by_cases c : pc (sn t j) = mxV t t.length
      · have c' : ((pc (t.getD j i0).toNat : Nat) : Int) = ((mxV t t.length : Nat) : Int) := congrArg (fun n : Nat => (n : Int)) c
        obtain ⟨ev2, ev3⟩ := i_bit1 ks (show j ≤ 64 by omega) (hK c)
        refine ⟨[Ans.o (Orc.b true), Ans.o (Orc.val 45 (AV.cptr (ints (List.drop j t))) H.nil), Ans.o (Orc.val 46 (I (t.getD j i0)) H.nil), Ans.o (Orc.val 48 (I (↑(pc (t.getD j i0).toNat) : Int)) (H.mk [] [] [])), Ans.o (Orc.b true), Ans.o (Orc.val 54 (I (↑((↑(kgs t) : Int).toNat >>> j) : Int)) H.nil), Ans.o (Orc.val 55 (I 1) H.nil), Ans.o Orc.dflt, Ans.o (Orc.val 67 (I (↑(j + (1 : Nat)) : Int)) H.nil)], fun u => of_eq ((↑j : Int) < (↑t.length : Int) ∧ aIndexAddr Tryd.prog (22 : Nat) (AV.sl (ints t) t.length r) (I (↑j : Int)) = some (AV.cptr (ints (List.drop j t))) ∧ aLoad Tryd.prog (3 : Nat) (ints (List.drop j t)) = some (I (t.getD j i0)) ∧ aCall (Sof cs13) (AV.fn (Fn.func (27 : Nat)) [] []) [I (t.getD j i0)] (H.mk [] [] []) = some (I (↑(pc (t.getD j i0).toNat) : Int), H.mk [] [] []) ∧ (↑(pc (t.getD j i0).toNat) : Int) = (↑(mxV t t.length) : Int) ∧ aBin Tryd.prog BinOp.shr (3 : Nat) (I (↑(kgs t) : Int)) (I (↑j : Int)) = some (I (↑((↑(kgs t) : Int).toNat >>> j) : Int)) ∧ aBin Tryd.prog BinOp.and (3 : Nat) (I (↑((↑(kgs t) : Int).toNat >>> j) : Int)) (I 1) = some (I 1) ∧ aBin Tryd.prog BinOp.add (3 : Nat) (I (↑j : Int)) (I 1) = some (I (↑(j + (1 : Nat)) : Int)) ∧ (95 : Nat) = (95 : Nat) ∧ j < t.length ∧ Keep (H.mk [] [] [] = H.mk [] [] [] ∧ [AV.sl (ints t) t.length r, I (↑(kgs t) : Int), I (↑(mxV t t.length) : Int), AV.bool true, AV.sl (ints t) t.length r, I (↑t.length : Int), I (↑(j + (1 : Nat)) : Int)] = [AV.sl (ints t) t.length r, I (↑(kgs t) : Int), I (↑(mxV t t.length) : Int), AV.bool (alV t (j + (1 : Nat))), AV.sl (ints t) t.length r, I (↑t.length : Int), I (↑(j + (1 : Nat)) : Int)])) (by kernel_rfl) ?_⟩
        refine ⟨by first | with_reducible assumption | omega | assumption, ?_⟩
        refine ⟨ix_ints (by kernel_rfl) hz' hri, ?_⟩
        refine ⟨by first | exact ld_ints (by kernel_rfl) (by kernel_rfl) (by omega) | exact ldm_ints (by kernel_rfl) (by kernel_rfl) (by first | omega | (simp; omega)), ?_⟩
        refine ⟨acall_hit (c := c27.to) (t.getD j i0) _ rfl s8, ?_⟩
        refine ⟨by first | with_reducible assumption | omega | assumption, ?_⟩
        refine ⟨by first | exact told_shr (by first | exact Int.natCast_nonneg _ | omega) (by with_reducible assumption) | exact told_shr (by omega) rfl, ?_⟩
        refine ⟨told_and (by with_reducible assumption), ?_⟩
        refine ⟨told_add (by with_reducible assumption), ?_⟩
        refine ⟨by first | with_reducible assumption | omega | assumption, ?_⟩
        refine ⟨by first | with_reducible assumption | omega | assumption, ?_⟩
        (rw [hk]; exact ⟨rfl, rfl⟩)
      · have c' : ((pc (t.getD j i0).toNat : Nat) : Int) ≠ ((mxV t t.length : Nat) : Int) := fun e => c (Int.ofNat.inj e)
        refine ⟨[Ans.o (Orc.b true), Ans.o (Orc.val 45 (AV.cptr (ints (List.drop j t))) H.nil), Ans.o (Orc.val 46 (I (t.getD j i0)) H.nil), Ans.o (Orc.val 48 (I (↑(pc (t.getD j i0).toNat) : Int)) (H.mk [] [] [])), Ans.o (Orc.b false), Ans.o (Orc.val 67 (I (↑(j + (1 : Nat)) : Int)) H.nil)], fun u => of_eq ((↑j : Int) < (↑t.length : Int) ∧ aIndexAddr Tryd.prog (22 : Nat) (AV.sl (ints t) t.length r) (I (↑j : Int)) = some (AV.cptr (ints (List.drop j t))) ∧ aLoad Tryd.prog (3 : Nat) (ints (List.drop j t)) = some (I (t.getD j i0)) ∧ aCall (Sof cs13) (AV.fn (Fn.func (27 : Nat)) [] []) [I (t.getD j i0)] (H.mk [] [] []) = some (I (↑(pc (t.getD j i0).toNat) : Int), H.mk [] [] []) ∧ (↑(pc (t.getD j i0).toNat) : Int) ≠ (↑(mxV t t.length) : Int) ∧ aBin Tryd.prog BinOp.add (3 : Nat) (I (↑j : Int)) (I 1) = some (I (↑(j + (1 : Nat)) : Int)) ∧ (95 : Nat) = (95 : Nat) ∧ j < t.length ∧ Keep (H.mk [] [] [] = H.mk [] [] [] ∧ [AV.sl (ints t) t.length r, I (↑(kgs t) : Int), I (↑(mxV t t.length) : Int), AV.bool true, AV.sl (ints t) t.length r, I (↑t.length : Int), I (↑(j + (1 : Nat)) : Int)] = [AV.sl (ints t) t.length r, I (↑(kgs t) : Int), I (↑(mxV t t.length) : Int), AV.bool (alV t (j + (1 : Nat))), AV.sl (ints t) t.length r, I (↑t.length : Int), I (↑(j + (1 : Nat)) : Int)])) (by kernel_rfl) ?_⟩
        refine ⟨by first | with_reducible assumption | omega | assumption, ?_⟩
        refine ⟨ix_ints (by kernel_rfl) hz' hri, ?_⟩
        refine ⟨by first | exact ld_ints (by kernel_rfl) (by kernel_rfl) (by omega) | exact ldm_ints (by kernel_rfl) (by kernel_rfl) (by first | omega | (simp; omega)), ?_⟩
        refine ⟨acall_hit (c := c27.to) (t.getD j i0) _ rfl s8, ?_⟩
        refine ⟨by first | with_reducible assumption | omega | assumption, ?_⟩
        refine ⟨told_add (by with_reducible assumption), ?_⟩
        refine ⟨by first | with_reducible assumption | omega | assumption, ?_⟩
        refine ⟨by first | with_reducible assumption | omega | assumption, ?_⟩
        (rw [hk]; exact ⟨rfl, rfl⟩)
  · have hz : (t.length : Int) ≤ j := by omega
    have e : j = t.length := by omega
    subst e
    refine ⟨[Ans.o (Orc.b false)], fun u => of_eq ((↑t.length : Int) ≤ (↑t.length : Int) ∧ (95 : Nat) = (95 : Nat) ∧ hits [Out.mk Unit AX.ret [(2 : Nat)] (fun x => False) (fun x => [AV.bool false]) (fun x => H.nil) fun x => [], Out.mk Unit (AX.exit (2 : Nat)) [(0 : Nat), (3 : Nat), (6 : Nat)] (fun x => True) (fun x => [ls t r, I (↑(kgs t) : Int), AV.bool (alV t t.length)]) (fun x => H.nil) fun x => []] (AX.exit (2 : Nat)) [AV.sl (ints t) t.length r, u (1 : Nat), u (2 : Nat), I (↑(kgs t) : Int), u (4 : Nat), I (↑(mxV t t.length) : Int), AV.bool (alV t t.length), u (7 : Nat), u (8 : Nat), u (9 : Nat), u (10 : Nat), u (11 : Nat), u (12 : Nat), u (13 : Nat), u (14 : Nat), u (15 : Nat), u (16 : Nat), u (17 : Nat), u (18 : Nat), u (19 : Nat), u (20 : Nat), u (21 : Nat), u (22 : Nat), u (23 : Nat), u (24 : Nat), u (25 : Nat), u (26 : Nat), u (27 : Nat), u (28 : Nat), u (29 : Nat), u (30 : Nat), u (31 : Nat), u (32 : Nat), u (33 : Nat), u (34 : Nat), u (35 : Nat), u (36 : Nat), u (37 : Nat), u (38 : Nat), u (39 : Nat), AV.sl (ints t) t.length r, I (↑t.length : Int), I (↑t.length : Int), AV.bool false, u (44 : Nat), u (45 : Nat), u (46 : Nat), u (47 : Nat), u (48 : Nat), u (49 : Nat), u (50 : Nat), u (51 : Nat), u (52 : Nat), u (53 : Nat), u (54 : Nat), u (55 : Nat), u (56 : Nat), u (57 : Nat), u (58 : Nat), u (59 : Nat), u (60 : Nat), u (61 : Nat), u (62 : Nat), u (63 : Nat), u (64 : Nat), u (65 : Nat), u (66 : Nat), u (67 : Nat), u (68 : Nat), u (69 : Nat), u (70 : Nat), u (71 : Nat), u (72 : Nat), u (73 : Nat), u (74 : Nat), u (75 : Nat), u (76 : Nat), u (77 : Nat), u (78 : Nat), u (79 : Nat), u (80 : Nat), u (81 : Nat), u (82 : Nat), u (83 : Nat), u (84 : Nat), u (85 : Nat), u (86 : Nat), u (87 : Nat), u (88 : Nat), u (89 : Nat), u (90 : Nat), u (91 : Nat), u (92 : Nat), u (93 : Nat), u (94 : Nat)] (H.mk [] [] [])) (by kernel_rfl) ?_⟩
    refine ⟨by first | with_reducible assumption | omega | assumption, ?_⟩
    refine ⟨by first | with_reducible assumption | omega | assumption, ?_⟩
    exact .inr (.inl ⟨(), trivial, rfl, rfl, rfl⟩)
theorem r13t (t : List Int) (r : Room) (hp : pL t r) (h : Tn t) : Body (En6 cs13) none1 Tryd.f13 [ls t r] .nil (.bool true, .nil) := by
  obtain ⟨h1, h2⟩ := hp
  have h8 := h.s.2
  have hr := h1.2.1
  have hb := tn_t h
  have lpa := lp13a t r h hr
  have lpb := lp13b t r h hr
  have p19 : (lim t.length ∧ rok t r ∧ em t r) ∧ t.length ≤ 11 := ⟨h1, by omega⟩
  have p32 : Tn t ∧ rok t (rcl r) := ⟨h, rcl_rok hr⟩
  have p21 : lim t.length ∧ rok t r := ⟨h1.1, hr⟩
  have ks : s8 ((kgs t : Nat) : Int) := ⟨by omega, by have := kgs_lt h; omega⟩
  have k1 : (0 : Int) < ((kgs t : Nat) : Int) := by have := kgs_pos h; omega
  have ev0 := pw_shl (n := t.length) (by omega)
  have k2 : ((kgs t : Nat) : Int) < ((2 ^ t.length : Nat) : Int) := by have := kgs_pow h; omega
  cases hal : alV t t.length
  · have hn : ∀ i, i < t.length → ¬ allb t i := fun i hi ha => by
      have : alV t t.length = true := (alV_iff _).2 ⟨i, hi, (score_all h hi).2 ha⟩
      rw [hal] at this; cases this
    have k3 := kgs_three h hn
    have k4 : ((pc ((kgs t : Nat) : Int).toNat : Nat) : Int) ≠ 1 := by rw [Int.toNat_natCast]; omega
    have k5 : (3 : Int) ≤ ((pc ((kgs t : Nat) : Int).toNat : Nat) : Int) := by rw [Int.toNat_natCast]; omega
    refine body_s ([Ans.o (Orc.val 13 (AV.sl (ints t) t.length (rcl r)) (H.mk [] [] [])), Ans.o (Orc.val 14 (AV.tup [I (↑(kgV t t.length) : Int), I 0]) (H.mk [] [] [])), Ans.o Orc.dflt, Ans.o (Orc.val 21 (AV.bool true) (H.mk [] [] [])), Ans.loop [(0 : Nat), (3 : Nat), (5 : Nat), (6 : Nat), (29 : Nat), (30 : Nat), (31 : Nat)] [Out.mk Unit (AX.exit (0 : Nat)) [(0 : Nat), (3 : Nat), (5 : Nat), (6 : Nat)] (fun x => True) (fun x => [ls t r, I (↑(kgs t) : Int), I (↑(mxV t t.length) : Int), AV.bool false]) (fun x => H.nil) fun y => [Ans.loop [(0 : Nat), (3 : Nat), (5 : Nat), (6 : Nat), (40 : Nat), (41 : Nat), (42 : Nat)] [Out.mk Unit AX.ret [(2 : Nat)] (fun x => False) (fun x => [AV.bool false]) (fun x => H.nil) fun y => [], Out.mk Unit (AX.exit (2 : Nat)) [(0 : Nat), (3 : Nat), (6 : Nat)] (fun x => True) (fun x => [ls t r, I (↑(kgs t) : Int), AV.bool (alV t t.length)]) (fun x => H.nil) fun y => [Ans.o (Orc.b true), Ans.o (Orc.val 74 (I (↑((2 : Nat) ^ t.length) : Int)) H.nil), Ans.o (Orc.b true), Ans.o (Orc.val 79 (I (↑(pc (↑(kgs t) : Int).toNat) : Int)) (H.mk [] [] [])), Ans.o (Orc.b false), Ans.btold (81 : Nat) false, Ans.btold (85 : Nat) false, Ans.o (Orc.val 88 (I (↑(pc (↑(kgs t) : Int).toNat) : Int)) (H.mk [] [] [])), Ans.o (Orc.b true), Ans.o (Orc.val 93 (AV.bool true) (H.mk [] [] []))]]]]]) (aCall (Sof cs13) (AV.fn (Fn.func (19 : Nat)) [] []) [AV.sl (ints t) t.length r] (H.mk [] [] []) = some (AV.sl (ints t) t.length (rcl r), H.mk [] [] []) ∧ aCall (Sof cs13) (AV.fn (Fn.func (32 : Nat)) [] []) [AV.sl (ints t) t.length (rcl r)] (H.mk [] [] []) = some (AV.tup [I (↑(kgV t t.length) : Int), I 0], H.mk [] [] []) ∧ aCall (Sof cs13) (AV.fn (Fn.func (21 : Nat)) [] []) [AV.sl (ints t) t.length r] (H.mk [] [] []) = some (AV.bool true, H.mk [] [] []) ∧ LoopS (Env.mk Tryd.prog (Sof cs13) (Pof (P := Tryd.prog) []) H.nil.base (300 : Nat)) (loopAt Tryd.f13 (0 : Nat)) (95 : Nat) [(0 : Nat), (3 : Nat), (5 : Nat), (6 : Nat), (29 : Nat), (30 : Nat), (31 : Nat)] [AV.sl (ints t) t.length r, I (↑(kgV t t.length) : Int), I 0, AV.bool false, AV.sl (ints t) t.length r, I (↑t.length : Int), I 0] (H.mk [] [] []) [Out.mk Unit (AX.exit (0 : Nat)) [(0 : Nat), (3 : Nat), (5 : Nat), (6 : Nat)] (fun x => True) (fun x => [ls t r, I (↑(kgs t) : Int), I (↑(mxV t t.length) : Int), AV.bool false]) (fun x => H.nil) fun y => [Ans.loop [(0 : Nat), (3 : Nat), (5 : Nat), (6 : Nat), (40 : Nat), (41 : Nat), (42 : Nat)] [Out.mk Unit AX.ret [(2 : Nat)] (fun x => False) (fun x => [AV.bool false]) (fun x => H.nil) fun y => [], Out.mk Unit (AX.exit (2 : Nat)) [(0 : Nat), (3 : Nat), (6 : Nat)] (fun x => True) (fun x => [ls t r, I (↑(kgs t) : Int), AV.bool (alV t t.length)]) (fun x => H.nil) fun y => [Ans.o (Orc.b true), Ans.o (Orc.val 74 (I (↑((2 : Nat) ^ t.length) : Int)) H.nil), Ans.o (Orc.b true), Ans.o (Orc.val 79 (I (↑(pc (↑(kgs t) : Int).toNat) : Int)) (H.mk [] [] [])), Ans.o (Orc.b false), Ans.btold (81 : Nat) false, Ans.btold (85 : Nat) false, Ans.o (Orc.val 88 (I (↑(pc (↑(kgs t) : Int).toNat) : Int)) (H.mk [] [] [])), Ans.o (Orc.b true), Ans.o (Orc.val 93 (AV.bool true) (H.mk [] [] []))]]]] ∧ (∀ (y : Unit), True → ∀ (u : Nat → AV), LoopS (Env.mk Tryd.prog (Sof cs13) (Pof (P := Tryd.prog) []) H.nil.base (300 : Nat)) (loopAt Tryd.f13 (1 : Nat)) (95 : Nat) [(0 : Nat), (3 : Nat), (5 : Nat), (6 : Nat), (40 : Nat), (41 : Nat), (42 : Nat)] [AV.sl (ints t) t.length r, I (↑(kgs t) : Int), I (↑(mxV t t.length) : Int), AV.bool false, AV.sl (ints t) t.length r, I (↑t.length : Int), I 0] (H.mk [] [] []) [Out.mk Unit AX.ret [(2 : Nat)] (fun x => False) (fun x => [AV.bool false]) (fun x => H.nil) fun y => [], Out.mk Unit (AX.exit (2 : Nat)) [(0 : Nat), (3 : Nat), (6 : Nat)] (fun x => True) (fun x => [ls t r, I (↑(kgs t) : Int), AV.bool (alV t t.length)]) (fun x => H.nil) fun y => [Ans.o (Orc.b true), Ans.o (Orc.val 74 (I (↑((2 : Nat) ^ t.length) : Int)) H.nil), Ans.o (Orc.b true), Ans.o (Orc.val 79 (I (↑(pc (↑(kgs t) : Int).toNat) : Int)) (H.mk [] [] [])), Ans.o (Orc.b false), Ans.btold (81 : Nat) false, Ans.btold (85 : Nat) false, Ans.o (Orc.val 88 (I (↑(pc (↑(kgs t) : Int).toNat) : Int)) (H.mk [] [] [])), Ans.o (Orc.b true), Ans.o (Orc.val 93 (AV.bool true) (H.mk [] [] []))]] ∧ (∀ (y : Unit), False → ∀ (u : Nat → AV), (AV.bool false, H.mk [] [] []) = (AV.bool true, H.mk [] [] [])) ∧ (∀ (y : Unit), True → ∀ (u : Nat → AV), (0 : Int) < (↑(kgs t) : Int) ∧ aBin Tryd.prog BinOp.shl (3 : Nat) (I 1) (I (↑t.length : Int)) = some (I (↑((2 : Nat) ^ t.length) : Int)) ∧ (↑(kgs t) : Int) < (↑((2 : Nat) ^ t.length) : Int) ∧ aCall (Sof cs13) (AV.fn (Fn.func (27 : Nat)) [] []) [I (↑(kgs t) : Int)] (H.mk [] [] []) = some (I (↑(pc (↑(kgs t) : Int).toNat) : Int), H.mk [] [] []) ∧ (↑(pc (↑(kgs t) : Int).toNat) : Int) ≠ (1 : Int) ∧ alV t t.length = false ∧ alV t t.length = false ∧ aCall (Sof cs13) (AV.fn (Fn.func (27 : Nat)) [] []) [I (↑(kgs t) : Int)] (H.mk [] [] []) = some (I (↑(pc (↑(kgs t) : Int).toNat) : Int), H.mk [] [] []) ∧ (3 : Int) ≤ (↑(pc (↑(kgs t) : Int).toNat) : Int) ∧ aCall (Sof cs13) (AV.fn (Fn.func (24 : Nat)) [] []) [] (H.mk [] [] []) = some (AV.bool true, H.mk [] [] []) ∧ (AV.bool true, H.mk [] [] []) = (AV.bool true, H.mk [] [] [])) ∧ True) ∧ True) (by kernel_rfl) ?_
    refine ⟨acall_hit (c := c19s.to) (t, r) _ rfl p19, ?_⟩
    refine ⟨acall_hit (c := c32t.to) (t, rcl r) _ rfl p32, ?_⟩
    refine ⟨acall_b (acall_hit (c := c21.to) (t, r) _ rfl p21) hb, ?_⟩
    refine ⟨lpa, ?_⟩
    refine And.intro ?_ ?_
    · skip
      intro y
      intro w1
      intro u
      refine ⟨lpb, ?_⟩
      refine And.intro ?_ ?_
      · skip
        intro y
        intro w4
        intro u
        first | rfl | (exfalso; assumption)
      · skip
        refine And.intro ?_ ?_
        · skip
          intro y
          intro w4
          intro u
          refine ⟨by first | with_reducible assumption | omega | assumption, ?_⟩
          refine ⟨by first | exact told_shl (by first | exact Int.natCast_nonneg _ | omega) (by with_reducible assumption) | exact told_shl (by omega) rfl, ?_⟩
          refine ⟨by first | with_reducible assumption | omega | assumption, ?_⟩
          refine ⟨acall_hit (c := c27.to) ((kgs t : Nat) : Int) _ rfl ks, ?_⟩
          refine ⟨by first | with_reducible assumption | omega | assumption, ?_⟩
          refine ⟨by first | with_reducible assumption | omega | assumption, ?_⟩
          refine ⟨by first | with_reducible assumption | omega | assumption, ?_⟩
          refine ⟨acall_hit (c := c27.to) ((kgs t : Nat) : Int) _ rfl ks, ?_⟩
          refine ⟨by first | with_reducible assumption | omega | assumption, ?_⟩
          refine ⟨acall_hit (c := c24.to) () _ rfl trivial, ?_⟩
          first | rfl | (exfalso; assumption)
        · skip
          trivial
    · skip
      trivial
  · have k3 : pc (kgs t) = 1 := by
      obtain ⟨i, hi, hs⟩ := (alV_iff _).1 hal
      exact kgs_one h hi ((score_all h hi).1 hs)
    have k4 : ((pc ((kgs t : Nat) : Int).toNat : Nat) : Int) = 1 := by rw [Int.toNat_natCast]; omega
    refine body_s ([Ans.o (Orc.val 13 (AV.sl (ints t) t.length (rcl r)) (H.mk [] [] [])), Ans.o (Orc.val 14 (AV.tup [I (↑(kgV t t.length) : Int), I 0]) (H.mk [] [] [])), Ans.o Orc.dflt, Ans.o (Orc.val 21 (AV.bool true) (H.mk [] [] [])), Ans.loop [(0 : Nat), (3 : Nat), (5 : Nat), (6 : Nat), (29 : Nat), (30 : Nat), (31 : Nat)] [Out.mk Unit (AX.exit (0 : Nat)) [(0 : Nat), (3 : Nat), (5 : Nat), (6 : Nat)] (fun x => True) (fun x => [ls t r, I (↑(kgs t) : Int), I (↑(mxV t t.length) : Int), AV.bool false]) (fun x => H.nil) fun y => [Ans.loop [(0 : Nat), (3 : Nat), (5 : Nat), (6 : Nat), (40 : Nat), (41 : Nat), (42 : Nat)] [Out.mk Unit AX.ret [(2 : Nat)] (fun x => False) (fun x => [AV.bool false]) (fun x => H.nil) fun y => [], Out.mk Unit (AX.exit (2 : Nat)) [(0 : Nat), (3 : Nat), (6 : Nat)] (fun x => True) (fun x => [ls t r, I (↑(kgs t) : Int), AV.bool (alV t t.length)]) (fun x => H.nil) fun y => [Ans.o (Orc.b true), Ans.o (Orc.val 74 (I (↑((2 : Nat) ^ t.length) : Int)) H.nil), Ans.o (Orc.b true), Ans.o (Orc.val 79 (I (↑(pc (↑(kgs t) : Int).toNat) : Int)) (H.mk [] [] [])), Ans.o (Orc.b true), Ans.btold (81 : Nat) true, Ans.btold (85 : Nat) true, Ans.o (Orc.val 93 (AV.bool true) (H.mk [] [] []))]]]]]) (aCall (Sof cs13) (AV.fn (Fn.func (19 : Nat)) [] []) [AV.sl (ints t) t.length r] (H.mk [] [] []) = some (AV.sl (ints t) t.length (rcl r), H.mk [] [] []) ∧ aCall (Sof cs13) (AV.fn (Fn.func (32 : Nat)) [] []) [AV.sl (ints t) t.length (rcl r)] (H.mk [] [] []) = some (AV.tup [I (↑(kgV t t.length) : Int), I 0], H.mk [] [] []) ∧ aCall (Sof cs13) (AV.fn (Fn.func (21 : Nat)) [] []) [AV.sl (ints t) t.length r] (H.mk [] [] []) = some (AV.bool true, H.mk [] [] []) ∧ LoopS (Env.mk Tryd.prog (Sof cs13) (Pof (P := Tryd.prog) []) H.nil.base (300 : Nat)) (loopAt Tryd.f13 (0 : Nat)) (95 : Nat) [(0 : Nat), (3 : Nat), (5 : Nat), (6 : Nat), (29 : Nat), (30 : Nat), (31 : Nat)] [AV.sl (ints t) t.length r, I (↑(kgV t t.length) : Int), I 0, AV.bool false, AV.sl (ints t) t.length r, I (↑t.length : Int), I 0] (H.mk [] [] []) [Out.mk Unit (AX.exit (0 : Nat)) [(0 : Nat), (3 : Nat), (5 : Nat), (6 : Nat)] (fun x => True) (fun x => [ls t r, I (↑(kgs t) : Int), I (↑(mxV t t.length) : Int), AV.bool false]) (fun x => H.nil) fun y => [Ans.loop [(0 : Nat), (3 : Nat), (5 : Nat), (6 : Nat), (40 : Nat), (41 : Nat), (42 : Nat)] [Out.mk Unit AX.ret [(2 : Nat)] (fun x => False) (fun x => [AV.bool false]) (fun x => H.nil) fun y => [], Out.mk Unit (AX.exit (2 : Nat)) [(0 : Nat), (3 : Nat), (6 : Nat)] (fun x => True) (fun x => [ls t r, I (↑(kgs t) : Int), AV.bool (alV t t.length)]) (fun x => H.nil) fun y => [Ans.o (Orc.b true), Ans.o (Orc.val 74 (I (↑((2 : Nat) ^ t.length) : Int)) H.nil), Ans.o (Orc.b true), Ans.o (Orc.val 79 (I (↑(pc (↑(kgs t) : Int).toNat) : Int)) (H.mk [] [] [])), Ans.o (Orc.b true), Ans.btold (81 : Nat) true, Ans.btold (85 : Nat) true, Ans.o (Orc.val 93 (AV.bool true) (H.mk [] [] []))]]]] ∧ (∀ (y : Unit), True → ∀ (u : Nat → AV), LoopS (Env.mk Tryd.prog (Sof cs13) (Pof (P := Tryd.prog) []) H.nil.base (300 : Nat)) (loopAt Tryd.f13 (1 : Nat)) (95 : Nat) [(0 : Nat), (3 : Nat), (5 : Nat), (6 : Nat), (40 : Nat), (41 : Nat), (42 : Nat)] [AV.sl (ints t) t.length r, I (↑(kgs t) : Int), I (↑(mxV t t.length) : Int), AV.bool false, AV.sl (ints t) t.length r, I (↑t.length : Int), I 0] (H.mk [] [] []) [Out.mk Unit AX.ret [(2 : Nat)] (fun x => False) (fun x => [AV.bool false]) (fun x => H.nil) fun y => [], Out.mk Unit (AX.exit (2 : Nat)) [(0 : Nat), (3 : Nat), (6 : Nat)] (fun x => True) (fun x => [ls t r, I (↑(kgs t) : Int), AV.bool (alV t t.length)]) (fun x => H.nil) fun y => [Ans.o (Orc.b true), Ans.o (Orc.val 74 (I (↑((2 : Nat) ^ t.length) : Int)) H.nil), Ans.o (Orc.b true), Ans.o (Orc.val 79 (I (↑(pc (↑(kgs t) : Int).toNat) : Int)) (H.mk [] [] [])), Ans.o (Orc.b true), Ans.btold (81 : Nat) true, Ans.btold (85 : Nat) true, Ans.o (Orc.val 93 (AV.bool true) (H.mk [] [] []))]] ∧ (∀ (y : Unit), False → ∀ (u : Nat → AV), (AV.bool false, H.mk [] [] []) = (AV.bool true, H.mk [] [] [])) ∧ (∀ (y : Unit), True → ∀ (u : Nat → AV), (0 : Int) < (↑(kgs t) : Int) ∧ aBin Tryd.prog BinOp.shl (3 : Nat) (I 1) (I (↑t.length : Int)) = some (I (↑((2 : Nat) ^ t.length) : Int)) ∧ (↑(kgs t) : Int) < (↑((2 : Nat) ^ t.length) : Int) ∧ aCall (Sof cs13) (AV.fn (Fn.func (27 : Nat)) [] []) [I (↑(kgs t) : Int)] (H.mk [] [] []) = some (I (↑(pc (↑(kgs t) : Int).toNat) : Int), H.mk [] [] []) ∧ (↑(pc (↑(kgs t) : Int).toNat) : Int) = (1 : Int) ∧ alV t t.length = true ∧ alV t t.length = true ∧ aCall (Sof cs13) (AV.fn (Fn.func (24 : Nat)) [] []) [] (H.mk [] [] []) = some (AV.bool true, H.mk [] [] []) ∧ (AV.bool true, H.mk [] [] []) = (AV.bool true, H.mk [] [] [])) ∧ True) ∧ True) (by kernel_rfl) ?_
    refine ⟨acall_hit (c := c19s.to) (t, r) _ rfl p19, ?_⟩
    refine ⟨acall_hit (c := c32t.to) (t, rcl r) _ rfl p32, ?_⟩
    refine ⟨acall_b (acall_hit (c := c21.to) (t, r) _ rfl p21) hb, ?_⟩
    refine ⟨lpa, ?_⟩
    refine And.intro ?_ ?_
    · skip
      intro y
      intro w1
      intro u
      refine ⟨lpb, ?_⟩
      refine And.intro ?_ ?_
      · skip
        intro y
        intro w4
        intro u
        first | rfl | (exfalso; assumption)
      · skip
        refine And.intro ?_ ?_
        · skip
          intro y
          intro w4
          intro u
          refine ⟨by first | with_reducible assumption | omega | assumption, ?_⟩
          refine ⟨by first | exact told_shl (by first | exact Int.natCast_nonneg _ | omega) (by with_reducible assumption) | exact told_shl (by omega) rfl, ?_⟩
          refine ⟨by first | with_reducible assumption | omega | assumption, ?_⟩
          refine ⟨acall_hit (c := c27.to) ((kgs t : Nat) : Int) _ rfl ks, ?_⟩
          refine ⟨by first | with_reducible assumption | omega | assumption, ?_⟩
          refine ⟨by first | with_reducible assumption | omega | assumption, ?_⟩
          refine ⟨by first | with_reducible assumption | omega | assumption, ?_⟩
          refine ⟨acall_hit (c := c24.to) () _ rfl trivial, ?_⟩
          first | rfl | (exfalso; assumption)
        · skip
          trivial
    · skip
      trivial
theorem pL_rr {t : List Int} {q : RK} (h1 : t.length ≤ Go.maxLen) (h2 : q.mt = true → t = []) (h3 : inI t) : pL t (rr q) := by
  refine ⟨⟨Nat.le_trans h1 (by decide), fun hl e => ?_, fun e => ?_⟩, h3⟩
  · cases q <;> simp_all [rr, RK.mt]
  · cases q <;> simp_all [rr, RK.mt]
theorem crowned_ok (t : List Int) (q : RK) (h1 : t.length ≤ Go.maxLen) (h2 : q.mt = true → t = []) (h3 : inI t) : CallOk Tryd.prog 13 [ls t (rr q)] .nil (.bool true) .nil := by
  have hp := pL_rr h1 h2 h3
  by_cases h : Tn t
  · exact (r13t t _ hp h).run ok13 ct13 rfl
  · exact (r13f t _ hp h).run ok13 (.pure _ (.pure _ (.pure _ .nil))) rfl
end Go.Proofs.Rnk

