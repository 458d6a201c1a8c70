/- Layer 2: the law of fewer pairs. -/
import Derived.Test.YtnnhomkkggkkfaaDoorRkAu
import Derived.Test.YtnnhomkkggkkfaaDoorRkAq
import Derived.KernelRfl
set_option linter.unusedSimpArgs false
set_option linter.unusedVariables false
set_option linter.unnecessarySimpa false
set_option maxHeartbeats 4000000
set_option maxRecDepth 100000
namespace Go.Proofs.Rnk
open Go Go.VM
open Go.Proofs.Sur (andn andn_bit andn_le i_wrap i_and i_or i_xor i_andn i_shl i_shr bit_01)

theorem oL_get {t : List Int} {n k : Nat} (h : k < n) : (oL t n).getD k i0 = ((oo (sn t) (alls t.length) k : Nat) : Int) := by
  simp [oL, List.getD_eq_getElem?_getD, h]
theorem oT_ob {t : List Int} (h : Tn t) : OB t.length (oT t) := by
  have hA := alls_lt h.s.2
  have hp := pc_alls t.length (by have := h.s.2; omega)
  refine ⟨oL_len _ _, ⟨fun k hk => ?_⟩⟩
  rw [oL_len] at hk
  have hw := oo_way (A := sn t) hA k (by omega)
  refine ⟨by rw [oL_get hk]; omega, by rw [oL_get hk]; have := fp_in h hk; omega, fun hm => ?_⟩
  rw [oL_get hk] at hm
  obtain ⟨j, hj, e⟩ := List.getElem_of_mem hm
  simp only [List.length_take, oL_len] at hj
  rw [List.getElem_take] at e
  simp only [oL, List.getElem_map, List.getElem_range] at e
  exact ((rs_bit hA k).1 hw).2 j (by omega) (by omega)
theorem rs_congr {S : Nat} {o p : Nat → Nat} : ∀ {k : Nat}, (∀ j, j < k → o j = p j) → rs S o k = rs S p k
  | 0, _ => rfl
  | k + 1, h => by rw [rs, rs, rs_congr (fun j hj => h j (by omega)), h k (by omega)]
theorem gs_congr {A : Nat → Nat} {S : Nat} {o p : Nat → Nat} : ∀ {k : Nat}, (∀ j, j < k → o j = p j) → gs A S o k = gs A S p k
  | 0, _ => rfl
  | k + 1, h => by rw [gs, gs, gs_congr (fun j hj => h j (by omega)), h k (by omega), rs_congr (fun j hj => h j (by omega))]
theorem agV_oT {t : List Int} (h : Tn t) : agV t (oT t) = ag (sn t) (alls t.length) := by
  have hA := alls_lt h.s.2
  have hp := pc_alls t.length (by have := h.s.2; omega)
  have := gs_all (A := sn t) hA
  rw [hp] at this
  rw [← this]
  exact gs_congr fun j hj => by simp only [ofn]; rw [oL_get hj]; rfl
theorem oR_rok (t : List Int) : rok (oT t) (oR t) ∧ em (oT t) (oR t) := by
  constructor
  · intro hne
    cases hq : oT t with
    | nil => exact absurd hq hne
    | cons x l => simp [rm, hq, Room.wk]
  · intro e
    simp only [oR] at e
    cases hq : oT t with
    | nil => rfl
    | cons x l => rw [hq] at e; simp [rm, Room.wk] at e
/-- 'Clone' of results turned -/
noncomputable def c54x : PCtr Tryd.prog := at1x
  where at1x : PCtr Tryd.prog := {
    f := 54
    X := List Int × Nat
    args := fun x => [.sl (ints x.1) x.2 .no]
    pre := fun x => x.1.length = x.2 ∧ x.2 ≤ 8
    v := fun x => .sl (ints x.1) x.2 .no
    det := by
      rintro ⟨l, n⟩ ⟨l', n'⟩ e _ _
      simp only [List.cons.injEq, and_true] at e
      exact e
    ok := by
      rintro ⟨l, n⟩ ⟨h1, h2⟩
      exact c54.ok (l, .no, n) ⟨h1, by simp only at h2 ⊢; omega, fun _ => no_ne, fun q => by cases q⟩ }
/-- 'Cycles' of results turned -/
noncomputable def c41x : PCtr Tryd.prog where
  f := 41
  X := List Int × Nat
  args x := [.sl (ints x.1) x.2 .no]
  pre x := x.1.length = x.2 ∧ Tn x.1
  v x := .tup [ct x.1, I 0]
  det := by
    rintro ⟨l, n⟩ ⟨l', n'⟩ e _ _
    simp only [List.cons.injEq, AV.sl.injEq, and_true] at e
    rw [ints_inj e.1]
  ok := by
    rintro ⟨l, n⟩ ⟨h1, h2⟩
    simp only at h1 h2
    subst h1
    exact c41t.ok (l, .no) ⟨h2, fun _ => no_ne⟩
/-- 'Turn' of a tournament whose number of players is told -/
noncomputable def c47g : PCtr Tryd.prog where
  f := 47
  X := (List Int × Nat) × List Pr × Room
  args x := [.sl (ints x.1.1) x.1.2 .no, pz x.2.1 x.2.2]
  pre x := (x.1.1.length = x.1.2 ∧ Tn x.1.1 ∧ PB x.1.2 x.2.1) ∧ pP x.2.1 x.2.2
  v x := .tup [.sl (ints (tnl x.1.1 x.2.1)) x.1.2 .no, I 0]
  det := by
    rintro ⟨⟨t, n⟩, l, r⟩ ⟨⟨t', n'⟩, l', r'⟩ e _ _
    simp only [List.cons.injEq, and_true] at e
    obtain ⟨e1, e2⟩ := e
    simp only [AV.sl.injEq, and_true] at e1
    obtain ⟨e1, rfl⟩ := e1
    obtain ⟨rfl, _⟩ := pz_in e2
    rw [ints_inj e1]
  ok := by
    rintro ⟨⟨t, n⟩, l, r⟩ ⟨⟨hn, h, hl⟩, hp⟩
    simp only at hn h hl hp
    subst hn
    exact c47t.ok (t, l, r) ⟨⟨h, hl⟩, hp⟩
/-- 'Equal' of the same lists -/
noncomputable def c22g : PCtr Tryd.prog where
  f := 22
  X := (List Int × Nat × Room) × List Int × Nat × Room
  args x := [.sl (ints x.1.1) x.1.2.1 x.1.2.2, .sl (ints x.2.1) x.2.2.1 x.2.2.2]
  pre x := (x.1.1 = x.2.1 ∧ x.1.1.length = x.1.2.1 ∧ x.2.1.length = x.2.2.1) ∧ lim x.1.1.length ∧ rok x.1.1 x.1.2.2 ∧ rok x.2.1 x.2.2.2
  v _ := .bool true
  det := by intro x y e _ _; rfl
  ok := by
    rintro ⟨⟨l, n, r⟩, m, k, s⟩ ⟨⟨h1, h2, h3⟩, h4, h5, h6⟩
    simp only at h1 h2 h3 h4 h5 h6
    subst h1 h2
    subst h3
    exact c22.ok (l, r, l, s) ⟨rfl, h4, h5, h6⟩
theorem ok15 : FokM Tryd.prog none1 15 Tryd.f15 := ⟨mixed, by kernel_rfl, by kernel_rfl, by kernel_rfl, by kernel_rfl⟩
noncomputable abbrev cs15 : List (Ctr Tryd.prog) := [c19q.to, c37t.to, c21.to, c36t.to, c48s.to, c47g.to, c54x.to, c41x.to, c22g.to, c24.to]
theorem ct15 : Ctrs Tryd.prog none1 cs15 := .pure _ (.pure _ (.pure _ (.pure _ (.pure _ (.pure _ (.pure _ (.pure _ (.pure _ (.pure _ .nil)))))))))
theorem r15t (t : List Int) (r : Room) (l : List Pr) (q : Room) (hp : pL t r) (h : Tn t) (hq : pP l q) (hl : PB t.length l) : Body (En6 cs15) none1 Tryd.f15 [ls t r, pz l q] .nil (.bool true, .nil) := by
  obtain ⟨h1, h2⟩ := hp
  have h8 := h.s.2
  have h0 := h.s.1
  have hr := h1.2.1
  have hb := tn_t h
  have hn : rok t .no := fun _ => no_ne
  have hne : t ≠ [] := fun e => by rw [e] at h0; simp at h0
  have hls : prs t.length l := fun j hj => (hl.h.h j hj).p
  have hx := tnl_tn h hls
  have p19 : ((lim t.length ∧ rok t r ∧ em t r) ∧ t.length ≤ 11) ∧ t ≠ [] := ⟨⟨h1, by omega⟩, hne⟩
  have p37 : Tn t ∧ rok t .no := ⟨h, hn⟩
  have p21 : lim t.length ∧ rok t r := ⟨h1.1, hr⟩
  have p36 : (Tn t ∧ rok t .no) ∧ OB t.length (oT t) ∧ rok (oT t) (oR t) ∧ em (oT t) (oR t) := ⟨⟨h, hn⟩, oT_ob h, oR_rok t⟩
  have p48 : pP l q ∧ l.length ≤ 32 := ⟨hq, by have := hl.le; omega⟩
  have p47 : (t.length = t.length ∧ Tn t ∧ PB t.length l) ∧ pP l (rcl q) := ⟨⟨rfl, h, hl⟩, pP_rcl hq⟩
  have p47b : ((tnl t l).length = t.length ∧ Tn (tnl t l) ∧ PB t.length l) ∧ pP l (rcl q) := ⟨⟨wl_len _ _, hx, hl⟩, pP_rcl hq⟩
  have p54 : (tnl t l).length = t.length ∧ t.length ≤ 8 := ⟨wl_len _ _, h8⟩
  have p41 : (tnl t l).length = t.length ∧ Tn (tnl t l) := ⟨wl_len _ _, hx⟩
  have hbk := tn_back h hls
  have p22 : (tnl (tnl t l) l = t ∧ (tnl (tnl t l) l).length = t.length ∧ t.length = t.length) ∧ lim (tnl (tnl t l) l).length ∧ rok (tnl (tnl t l) l) .no ∧ rok t r := ⟨⟨hbk, by rw [hbk], rfl⟩, by rw [hbk]; exact h1.1, fun _ => no_ne, hr⟩
  by_cases c : ((agV t (oT t) : Nat) : Int) ≤ (l.length : Int)
  · refine body_s ([Ans.o (Orc.val 17 (AV.sl (ints t) t.length Room.no) (H.mk [] [] [])), Ans.o (Orc.val 18 (AV.tup [AV.sl (ints (oT t)) (oT t).length (oR t), I 0]) (H.mk [] [] [])), Ans.o Orc.dflt, Ans.o (Orc.val 25 (AV.bool true) (H.mk [] [] [])), Ans.o (Orc.val 35 (AV.sl (ints t) t.length Room.no) (H.mk [] [] [])), Ans.o (Orc.val 37 (AV.tup [I (↑(agV t (oT t)) : Int), I 0]) (H.mk [] [] [])), Ans.o (Orc.val 42 (AV.sl (ints t) t.length Room.no) (H.mk [] [] [])), Ans.o (Orc.val 44 (AV.sl (pairsA l) l.length (rcl q)) (H.mk [] [] [])), Ans.o (Orc.val 45 (AV.tup [AV.sl (ints (tnl t l)) t.length Room.no, I 0]) (H.mk [] [] [])), Ans.o Orc.dflt, Ans.o Orc.dflt, Ans.o (Orc.val 65 (AV.sl (ints (tnl t l)) t.length Room.no) (H.mk [] [] [])), Ans.o (Orc.val 66 (AV.tup [AV.sl (trisA (cyc (tnl t l))) (cyc (tnl t l)).length (cR (tnl t l)), I 0]) (H.mk [] [] [])), Ans.o (Orc.val 72 (AV.sl (pairsA l) l.length (rcl q)) (H.mk [] [] [])), Ans.o (Orc.val 73 (AV.tup [AV.sl (ints (tnl (tnl t l) l)) t.length Room.no, I 0]) (H.mk [] [] [])), Ans.o Orc.dflt, Ans.o Orc.dflt, Ans.o (Orc.val 85 (AV.bool true) (H.mk [] [] [])), Ans.o (Orc.b true), Ans.o (Orc.val 99 (AV.bool true) (H.mk [] [] []))]) (aCall (Sof cs15) (AV.fn (Fn.func (19 : Nat)) [] []) [AV.sl (ints t) t.length r] (H.mk [] [] []) = some (AV.sl (ints t) t.length Room.no, H.mk [] [] []) ∧ aCall (Sof cs15) (AV.fn (Fn.func (37 : Nat)) [] []) [AV.sl (ints t) t.length Room.no] (H.mk [] [] []) = some (AV.tup [AV.sl (ints (oT t)) (oT t).length (oR t), I 0], H.mk [] [] []) ∧ aCall (Sof cs15) (AV.fn (Fn.func (21 : Nat)) [] []) [AV.sl (ints t) t.length r] (H.mk [] [] []) = some (AV.bool true, H.mk [] [] []) ∧ aCall (Sof cs15) (AV.fn (Fn.func (19 : Nat)) [] []) [AV.sl (ints t) t.length r] (H.mk [] [] []) = some (AV.sl (ints t) t.length Room.no, H.mk [] [] []) ∧ aCall (Sof cs15) (AV.fn (Fn.func (36 : Nat)) [] []) [AV.sl (ints t) t.length Room.no, AV.sl (ints (oT t)) (oT t).length (oR t)] (H.mk [] [] []) = some (AV.tup [I (↑(agV t (oT t)) : Int), I 0], H.mk [] [] []) ∧ aCall (Sof cs15) (AV.fn (Fn.func (19 : Nat)) [] []) [AV.sl (ints t) t.length r] (H.mk [] [] []) = some (AV.sl (ints t) t.length Room.no, H.mk [] [] []) ∧ aCall (Sof cs15) (AV.fn (Fn.func (48 : Nat)) [] []) [AV.sl (pairsA l) l.length q] (H.mk [] [] []) = some (AV.sl (pairsA l) l.length (rcl q), H.mk [] [] []) ∧ aCall (Sof cs15) (AV.fn (Fn.func (47 : Nat)) [] []) [AV.sl (ints t) t.length Room.no, AV.sl (pairsA l) l.length (rcl q)] (H.mk [] [] []) = some (AV.tup [AV.sl (ints (tnl t l)) t.length Room.no, I 0], H.mk [] [] []) ∧ aCall (Sof cs15) (AV.fn (Fn.func (54 : Nat)) [] []) [AV.sl (ints (tnl t l)) t.length Room.no] (H.mk [] [] []) = some (AV.sl (ints (tnl t l)) t.length Room.no, H.mk [] [] []) ∧ aCall (Sof cs15) (AV.fn (Fn.func (41 : Nat)) [] []) [AV.sl (ints (tnl t l)) t.length Room.no] (H.mk [] [] []) = some (AV.tup [AV.sl (trisA (cyc (tnl t l))) (cyc (tnl t l)).length (cR (tnl t l)), I 0], H.mk [] [] []) ∧ aCall (Sof cs15) (AV.fn (Fn.func (48 : Nat)) [] []) [AV.sl (pairsA l) l.length q] (H.mk [] [] []) = some (AV.sl (pairsA l) l.length (rcl q), H.mk [] [] []) ∧ aCall (Sof cs15) (AV.fn (Fn.func (47 : Nat)) [] []) [AV.sl (ints (tnl t l)) t.length Room.no, AV.sl (pairsA l) l.length (rcl q)] (H.mk [] [] []) = some (AV.tup [AV.sl (ints (tnl (tnl t l) l)) t.length Room.no, I 0], H.mk [] [] []) ∧ aCall (Sof cs15) (AV.fn (Fn.func (22 : Nat)) [] []) [AV.sl (ints (tnl (tnl t l) l)) t.length Room.no, AV.sl (ints t) t.length r] (H.mk [] [] []) = some (AV.bool true, H.mk [] [] []) ∧ (↑(agV t (oT t)) : Int) ≤ (↑l.length : Int) ∧ aCall (Sof cs15) (AV.fn (Fn.func (24 : Nat)) [] []) [] (H.mk [] [] []) = some (AV.bool true, H.mk [] [] []) ∧ (AV.bool true, H.mk [] [] []) = (AV.bool true, H.mk [] [] [])) (by kernel_rfl) ?_
    refine ⟨acall_hit (c := c19q.to) (t, r) _ rfl p19, ?_⟩
    refine ⟨acall_hit (c := c37t.to) (t, .no) _ rfl p37, ?_⟩
    refine ⟨acall_b (acall_hit (c := c21.to) (t, r) _ rfl p21) hb, ?_⟩
    refine ⟨acall_hit (c := c19q.to) (t, r) _ rfl p19, ?_⟩
    refine ⟨acall_hit (c := c36t.to) ((t, .no), oT t, oR t) _ rfl p36, ?_⟩
    refine ⟨acall_hit (c := c19q.to) (t, r) _ rfl p19, ?_⟩
    refine ⟨acall_hit (c := c48s.to) (l, q) _ rfl p48, ?_⟩
    refine ⟨by first | exact acall_hit (c := c47g.to) ((t, t.length), l, rcl q) _ rfl p47 | exact acall_hit (c := c47g.to) ((tnl t l, t.length), l, rcl q) _ rfl p47b, ?_⟩
    refine ⟨acall_hit (c := c54x.to) (tnl t l, t.length) _ rfl p54, ?_⟩
    refine ⟨acall_hit (c := c41x.to) (tnl t l, t.length) _ rfl p41, ?_⟩
    refine ⟨acall_hit (c := c48s.to) (l, q) _ rfl p48, ?_⟩
    refine ⟨by first | exact acall_hit (c := c47g.to) ((t, t.length), l, rcl q) _ rfl p47 | exact acall_hit (c := c47g.to) ((tnl t l, t.length), l, rcl q) _ rfl p47b, ?_⟩
    refine ⟨acall_hit (c := c22g.to) ((tnl (tnl t l) l, t.length, .no), t, t.length, r) _ rfl p22, ?_⟩
    refine ⟨by first | with_reducible assumption | omega | assumption, ?_⟩
    refine ⟨acall_hit (c := c24.to) () _ rfl trivial, ?_⟩
    first | with_reducible rfl | (refine bleaf_t ?_; omega) | (refine bleaf_f ?_; omega) | (refine ileaf ?_; omega) | rfl | (exfalso; omega)
  · have hc : cyc (tnl t l) ≠ [] := fun e => c (by have := fewer h hls e; rw [agV_oT h]; omega)
    have c1 : (0 : Int) < ((cyc (tnl t l)).length : Int) := by
      have := List.length_pos_iff.2 hc
      omega
    have c : (l.length : Int) < ((agV t (oT t) : Nat) : Int) := by omega
    refine body_s ([Ans.o (Orc.val 17 (AV.sl (ints t) t.length Room.no) (H.mk [] [] [])), Ans.o (Orc.val 18 (AV.tup [AV.sl (ints (oT t)) (oT t).length (oR t), I 0]) (H.mk [] [] [])), Ans.o Orc.dflt, Ans.o (Orc.val 25 (AV.bool true) (H.mk [] [] [])), Ans.o (Orc.val 35 (AV.sl (ints t) t.length Room.no) (H.mk [] [] [])), Ans.o (Orc.val 37 (AV.tup [I (↑(agV t (oT t)) : Int), I 0]) (H.mk [] [] [])), Ans.o (Orc.val 42 (AV.sl (ints t) t.length Room.no) (H.mk [] [] [])), Ans.o (Orc.val 44 (AV.sl (pairsA l) l.length (rcl q)) (H.mk [] [] [])), Ans.o (Orc.val 45 (AV.tup [AV.sl (ints (tnl t l)) t.length Room.no, I 0]) (H.mk [] [] [])), Ans.o Orc.dflt, Ans.o Orc.dflt, Ans.o (Orc.val 65 (AV.sl (ints (tnl t l)) t.length Room.no) (H.mk [] [] [])), Ans.o (Orc.val 66 (AV.tup [AV.sl (trisA (cyc (tnl t l))) (cyc (tnl t l)).length (cR (tnl t l)), I 0]) (H.mk [] [] [])), Ans.o (Orc.val 72 (AV.sl (pairsA l) l.length (rcl q)) (H.mk [] [] [])), Ans.o (Orc.val 73 (AV.tup [AV.sl (ints (tnl (tnl t l) l)) t.length Room.no, I 0]) (H.mk [] [] [])), Ans.o Orc.dflt, Ans.o Orc.dflt, Ans.o (Orc.val 85 (AV.bool true) (H.mk [] [] [])), Ans.o (Orc.b false), Ans.o (Orc.b true), Ans.o (Orc.val 99 (AV.bool true) (H.mk [] [] []))]) (aCall (Sof cs15) (AV.fn (Fn.func (19 : Nat)) [] []) [AV.sl (ints t) t.length r] (H.mk [] [] []) = some (AV.sl (ints t) t.length Room.no, H.mk [] [] []) ∧ aCall (Sof cs15) (AV.fn (Fn.func (37 : Nat)) [] []) [AV.sl (ints t) t.length Room.no] (H.mk [] [] []) = some (AV.tup [AV.sl (ints (oT t)) (oT t).length (oR t), I 0], H.mk [] [] []) ∧ aCall (Sof cs15) (AV.fn (Fn.func (21 : Nat)) [] []) [AV.sl (ints t) t.length r] (H.mk [] [] []) = some (AV.bool true, H.mk [] [] []) ∧ aCall (Sof cs15) (AV.fn (Fn.func (19 : Nat)) [] []) [AV.sl (ints t) t.length r] (H.mk [] [] []) = some (AV.sl (ints t) t.length Room.no, H.mk [] [] []) ∧ aCall (Sof cs15) (AV.fn (Fn.func (36 : Nat)) [] []) [AV.sl (ints t) t.length Room.no, AV.sl (ints (oT t)) (oT t).length (oR t)] (H.mk [] [] []) = some (AV.tup [I (↑(agV t (oT t)) : Int), I 0], H.mk [] [] []) ∧ aCall (Sof cs15) (AV.fn (Fn.func (19 : Nat)) [] []) [AV.sl (ints t) t.length r] (H.mk [] [] []) = some (AV.sl (ints t) t.length Room.no, H.mk [] [] []) ∧ aCall (Sof cs15) (AV.fn (Fn.func (48 : Nat)) [] []) [AV.sl (pairsA l) l.length q] (H.mk [] [] []) = some (AV.sl (pairsA l) l.length (rcl q), H.mk [] [] []) ∧ aCall (Sof cs15) (AV.fn (Fn.func (47 : Nat)) [] []) [AV.sl (ints t) t.length Room.no, AV.sl (pairsA l) l.length (rcl q)] (H.mk [] [] []) = some (AV.tup [AV.sl (ints (tnl t l)) t.length Room.no, I 0], H.mk [] [] []) ∧ aCall (Sof cs15) (AV.fn (Fn.func (54 : Nat)) [] []) [AV.sl (ints (tnl t l)) t.length Room.no] (H.mk [] [] []) = some (AV.sl (ints (tnl t l)) t.length Room.no, H.mk [] [] []) ∧ aCall (Sof cs15) (AV.fn (Fn.func (41 : Nat)) [] []) [AV.sl (ints (tnl t l)) t.length Room.no] (H.mk [] [] []) = some (AV.tup [AV.sl (trisA (cyc (tnl t l))) (cyc (tnl t l)).length (cR (tnl t l)), I 0], H.mk [] [] []) ∧ aCall (Sof cs15) (AV.fn (Fn.func (48 : Nat)) [] []) [AV.sl (pairsA l) l.length q] (H.mk [] [] []) = some (AV.sl (pairsA l) l.length (rcl q), H.mk [] [] []) ∧ aCall (Sof cs15) (AV.fn (Fn.func (47 : Nat)) [] []) [AV.sl (ints (tnl t l)) t.length Room.no, AV.sl (pairsA l) l.length (rcl q)] (H.mk [] [] []) = some (AV.tup [AV.sl (ints (tnl (tnl t l) l)) t.length Room.no, I 0], H.mk [] [] []) ∧ aCall (Sof cs15) (AV.fn (Fn.func (22 : Nat)) [] []) [AV.sl (ints (tnl (tnl t l) l)) t.length Room.no, AV.sl (ints t) t.length r] (H.mk [] [] []) = some (AV.bool true, H.mk [] [] []) ∧ (↑l.length : Int) < (↑(agV t (oT t)) : Int) ∧ (0 : Int) < (↑(cyc (tnl t l)).length : Int) ∧ aCall (Sof cs15) (AV.fn (Fn.func (24 : Nat)) [] []) [] (H.mk [] [] []) = some (AV.bool true, H.mk [] [] []) ∧ (AV.bool true, H.mk [] [] []) = (AV.bool true, H.mk [] [] [])) (by kernel_rfl) ?_
    refine ⟨acall_hit (c := c19q.to) (t, r) _ rfl p19, ?_⟩
    refine ⟨acall_hit (c := c37t.to) (t, .no) _ rfl p37, ?_⟩
    refine ⟨acall_b (acall_hit (c := c21.to) (t, r) _ rfl p21) hb, ?_⟩
    refine ⟨acall_hit (c := c19q.to) (t, r) _ rfl p19, ?_⟩
    refine ⟨acall_hit (c := c36t.to) ((t, .no), oT t, oR t) _ rfl p36, ?_⟩
    refine ⟨acall_hit (c := c19q.to) (t, r) _ rfl p19, ?_⟩
    refine ⟨acall_hit (c := c48s.to) (l, q) _ rfl p48, ?_⟩
    refine ⟨by first | exact acall_hit (c := c47g.to) ((t, t.length), l, rcl q) _ rfl p47 | exact acall_hit (c := c47g.to) ((tnl t l, t.length), l, rcl q) _ rfl p47b, ?_⟩
    refine ⟨acall_hit (c := c54x.to) (tnl t l, t.length) _ rfl p54, ?_⟩
    refine ⟨acall_hit (c := c41x.to) (tnl t l, t.length) _ rfl p41, ?_⟩
    refine ⟨acall_hit (c := c48s.to) (l, q) _ rfl p48, ?_⟩
    refine ⟨by first | exact acall_hit (c := c47g.to) ((t, t.length), l, rcl q) _ rfl p47 | exact acall_hit (c := c47g.to) ((tnl t l, t.length), l, rcl q) _ rfl p47b, ?_⟩
    refine ⟨acall_hit (c := c22g.to) ((tnl (tnl t l) l, t.length, .no), t, t.length, r) _ rfl p22, ?_⟩
    refine ⟨by first | with_reducible assumption | omega | assumption, ?_⟩
    refine ⟨by first | with_reducible assumption | omega | assumption, ?_⟩
    refine ⟨acall_hit (c := c24.to) () _ rfl trivial, ?_⟩
    first | with_reducible rfl | (refine bleaf_t ?_; omega) | (refine bleaf_f ?_; omega) | (refine ileaf ?_; omega) | rfl | (exfalso; omega)
theorem r15p (t : List Int) (r : Room) (l : List Pr) (q : Room) (hp : pL t r) (h : Tn t) (hq : pP l q) (hl : ¬ PB t.length l) : Body (En6 [c19q.to, c37t.to, c21.to, c36t.to, c48.to, c47p.to, c24.to]) none1 Tryd.f15 [ls t r, pz l q] .nil (.bool true, .nil) := by
  obtain ⟨h1, h2⟩ := hp
  have h8 := h.s.2
  have h0 := h.s.1
  have hr := h1.2.1
  have hb := tn_t h
  have hn : rok t .no := fun _ => no_ne
  have hne : t ≠ [] := fun e => by rw [e] at h0; simp at h0
  have p19 : ((lim t.length ∧ rok t r ∧ em t r) ∧ t.length ≤ 11) ∧ t ≠ [] := ⟨⟨h1, by omega⟩, hne⟩
  have p37 : Tn t ∧ rok t .no := ⟨h, hn⟩
  have p21 : lim t.length ∧ rok t r := ⟨h1.1, hr⟩
  have p36 : (Tn t ∧ rok t .no) ∧ OB t.length (oT t) ∧ rok (oT t) (oR t) ∧ em (oT t) (oR t) := ⟨⟨h, hn⟩, oT_ob h, oR_rok t⟩
  have p47 : ((Tn t ∧ rok t .no) ∧ ¬ PB t.length (cutp l)) ∧ pP (cutp l) (rcl q) := ⟨⟨⟨h, hn⟩, fun k => hl (cutp_PB.1 k)⟩, pP_cut hq⟩
  refine body_s ([Ans.o (Orc.val 17 (AV.sl (ints t) t.length Room.no) (H.mk [] [] [])), Ans.o (Orc.val 18 (AV.tup [AV.sl (ints (oT t)) (oT t).length (oR t), I 0]) (H.mk [] [] [])), Ans.o Orc.dflt, Ans.o (Orc.val 25 (AV.bool true) (H.mk [] [] [])), Ans.o (Orc.val 35 (AV.sl (ints t) t.length Room.no) (H.mk [] [] [])), Ans.o (Orc.val 37 (AV.tup [I (↑(agV t (oT t)) : Int), I 0]) (H.mk [] [] [])), Ans.o (Orc.val 42 (AV.sl (ints t) t.length Room.no) (H.mk [] [] [])), Ans.o (Orc.val 44 (AV.sl (pairsA (cutp l)) (cutp l).length (rcl q)) (H.mk [] [] [])), Ans.o (Orc.val 45 (AV.tup [AV.sl [] (0 : Nat) Room.nil, I 2]) (H.mk [] [] [])), Ans.o Orc.dflt, Ans.o Orc.dflt, Ans.o Orc.dflt, Ans.o Orc.dflt, Ans.o (Orc.val 61 (AV.bool true) (H.mk [] [] []))]) (aCall (Sof [c19q.to, c37t.to, c21.to, c36t.to, c48.to, c47p.to, c24.to]) (AV.fn (Fn.func (19 : Nat)) [] []) [AV.sl (ints t) t.length r] (H.mk [] [] []) = some (AV.sl (ints t) t.length Room.no, H.mk [] [] []) ∧ aCall (Sof [c19q.to, c37t.to, c21.to, c36t.to, c48.to, c47p.to, c24.to]) (AV.fn (Fn.func (37 : Nat)) [] []) [AV.sl (ints t) t.length Room.no] (H.mk [] [] []) = some (AV.tup [AV.sl (ints (oT t)) (oT t).length (oR t), I 0], H.mk [] [] []) ∧ aCall (Sof [c19q.to, c37t.to, c21.to, c36t.to, c48.to, c47p.to, c24.to]) (AV.fn (Fn.func (21 : Nat)) [] []) [AV.sl (ints t) t.length r] (H.mk [] [] []) = some (AV.bool true, H.mk [] [] []) ∧ aCall (Sof [c19q.to, c37t.to, c21.to, c36t.to, c48.to, c47p.to, c24.to]) (AV.fn (Fn.func (19 : Nat)) [] []) [AV.sl (ints t) t.length r] (H.mk [] [] []) = some (AV.sl (ints t) t.length Room.no, H.mk [] [] []) ∧ aCall (Sof [c19q.to, c37t.to, c21.to, c36t.to, c48.to, c47p.to, c24.to]) (AV.fn (Fn.func (36 : Nat)) [] []) [AV.sl (ints t) t.length Room.no, AV.sl (ints (oT t)) (oT t).length (oR t)] (H.mk [] [] []) = some (AV.tup [I (↑(agV t (oT t)) : Int), I 0], H.mk [] [] []) ∧ aCall (Sof [c19q.to, c37t.to, c21.to, c36t.to, c48.to, c47p.to, c24.to]) (AV.fn (Fn.func (19 : Nat)) [] []) [AV.sl (ints t) t.length r] (H.mk [] [] []) = some (AV.sl (ints t) t.length Room.no, H.mk [] [] []) ∧ aCall (Sof [c19q.to, c37t.to, c21.to, c36t.to, c48.to, c47p.to, c24.to]) (AV.fn (Fn.func (48 : Nat)) [] []) [AV.sl (pairsA l) l.length q] (H.mk [] [] []) = some (AV.sl (pairsA (cutp l)) (cutp l).length (rcl q), H.mk [] [] []) ∧ aCall (Sof [c19q.to, c37t.to, c21.to, c36t.to, c48.to, c47p.to, c24.to]) (AV.fn (Fn.func (47 : Nat)) [] []) [AV.sl (ints t) t.length Room.no, AV.sl (pairsA (cutp l)) (cutp l).length (rcl q)] (H.mk [] [] []) = some (AV.tup [AV.sl [] (0 : Nat) Room.nil, I 2], H.mk [] [] []) ∧ aCall (Sof [c19q.to, c37t.to, c21.to, c36t.to, c48.to, c47p.to, c24.to]) (AV.fn (Fn.func (24 : Nat)) [] []) [] (H.mk [] [] []) = some (AV.bool true, H.mk [] [] []) ∧ (AV.bool true, H.mk [] [] []) = (AV.bool true, H.mk [] [] [])) (by kernel_rfl) ?_
  refine ⟨acall_hit (c := c19q.to) (t, r) _ rfl p19, ?_⟩
  refine ⟨acall_hit (c := c37t.to) (t, .no) _ rfl p37, ?_⟩
  refine ⟨acall_b (acall_hit (c := c21.to) (t, r) _ rfl p21) hb, ?_⟩
  refine ⟨acall_hit (c := c19q.to) (t, r) _ rfl p19, ?_⟩
  refine ⟨acall_hit (c := c36t.to) ((t, .no), oT t, oR t) _ rfl p36, ?_⟩
  refine ⟨acall_hit (c := c19q.to) (t, r) _ rfl p19, ?_⟩
  refine ⟨acall_hit (c := c48.to) (l, q) _ rfl hq, ?_⟩
  refine ⟨acall_hit (c := c47p.to) ((t, .no), cutp l, rcl q) _ rfl p47, ?_⟩
  refine ⟨acall_hit (c := c24.to) () _ rfl trivial, ?_⟩
  first | with_reducible rfl | (refine bleaf_t ?_; omega) | (refine bleaf_f ?_; omega) | (refine ileaf ?_; omega) | rfl | (exfalso; omega)
theorem r15f (t : List Int) (r : Room) (l : List Pr) (q : Room) (hp : pL t r) (h : ¬ Tn t) : Body (En6 [c19.to, c37f.to, c24.to]) none1 Tryd.f15 [ls t r, pz l q] .nil (.bool true, .nil) := by
  obtain ⟨h1, h2⟩ := hp
  have p37 : (lim (cut t).length ∧ rok (cut t) (rcl r) ∧ inI (cut t)) ∧ ¬ Tn (cut t) := ⟨⟨cut_lim t, fun hne => rcl_rok h1.2.1 (fun e => hne (by rw [e]; rfl)), cut_in h2⟩, cut_tn h⟩
  refine body_s ([Ans.o (Orc.val 17 (AV.sl (ints (cut t)) (cut t).length (rcl r)) (H.mk [] [] [])), Ans.o (Orc.val 18 (AV.tup [AV.sl [] (0 : Nat) Room.nil, I 2]) (H.mk [] [] [])), Ans.o Orc.dflt, Ans.o Orc.dflt, Ans.o (Orc.val 31 (AV.bool true) (H.mk [] [] []))]) (aCall (Sof [c19.to, c37f.to, c24.to]) (AV.fn (Fn.func (19 : Nat)) [] []) [AV.sl (ints t) t.length r] (H.mk [] [] []) = some (AV.sl (ints (cut t)) (cut t).length (rcl r), H.mk [] [] []) ∧ aCall (Sof [c19.to, c37f.to, c24.to]) (AV.fn (Fn.func (37 : Nat)) [] []) [AV.sl (ints (cut t)) (cut t).length (rcl r)] (H.mk [] [] []) = some (AV.tup [AV.sl [] (0 : Nat) Room.nil, I 2], H.mk [] [] []) ∧ aCall (Sof [c19.to, c37f.to, c24.to]) (AV.fn (Fn.func (24 : Nat)) [] []) [] (H.mk [] [] []) = some (AV.bool true, H.mk [] [] []) ∧ (AV.bool true, H.mk [] [] []) = (AV.bool true, H.mk [] [] [])) (by kernel_rfl) ?_
  refine ⟨acall_hit (c := c19.to) (t, r) _ rfl h1, ?_⟩
  refine ⟨acall_hit (c := c37f.to) (cut t, rcl r) _ rfl p37, ?_⟩
  refine ⟨acall_hit (c := c24.to) () _ rfl trivial, ?_⟩
  first | with_reducible rfl | (refine bleaf_t ?_; omega) | (refine bleaf_f ?_; omega) | (refine ileaf ?_; omega) | rfl | (exfalso; omega)
theorem fewer_ok (t : List Int) (q : RK) (h1 : t.length ≤ Go.maxLen) (h2 : q.mt = true → t = []) (h3 : inI t) (l : List Pr) (k : RK) (h4 : l.length ≤ Go.maxLen) (h5 : k.mt = true → l = []) : CallOk Tryd.prog 15 [ls t (rr q), pz l (rr k)] .nil (.bool true) .nil := by
  have hp := pL_rr h1 h2 h3
  have hq := pP_rr h4 h5
  by_cases h : Tn t
  · by_cases hl : PB t.length l
    · exact (r15t t _ l _ hp h hq hl).run ok15 ct15 rfl
    · exact (r15p t _ l _ hp h hq hl).run ok15 (.pure _ (.pure _ (.pure _ (.pure _ (.pure _ (.pure _ (.pure _ .nil))))))) rfl
  · exact (r15f t _ l _ hp h).run ok15 (.pure _ (.pure _ (.pure _ .nil))) rfl
end Go.Proofs.Rnk

