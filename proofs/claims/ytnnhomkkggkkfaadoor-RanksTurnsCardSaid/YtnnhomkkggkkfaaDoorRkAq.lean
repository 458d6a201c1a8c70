/- Layer 2: the law of results turned. -/
import Derived.Test.YtnnhomkkggkkfaaDoorRkAp
import Derived.Test.YtnnhomkkggkkfaaDoorRkAg
import Derived.Test.YtnnhomkkggkkfaaDoorRkK
import Derived.KernelRfl
set_option linter.unusedSimpArgs false
set_option linter.unusedVariables false
set_option linter.unnecessarySimpa false
set_option maxHeartbeats 4000000
set_option maxRecDepth 100000
namespace Go.Proofs.Rnk
open Go Go.VM
open Go.Proofs.Sur (andn andn_bit andn_le i_wrap i_and i_or i_xor i_andn i_shl i_shr bit_01)

theorem k52A (t : List Int) (s : Room) (hs : rok t s) (h : Tn t) (l : List Pr) (r : Room) (hp : pP l r) (hrb : r.bnd 0 = true) (hl : PB t.length l) : CallOk Tryd.prog 52 [ls t s, pz l r] .nil (.sl (ints (tnl t l)) t.length .no) .nil :=
  @CallOk.up wrI2 instInhabitedGlobs (fun _ => rfl) _ _ _ _ _ _ (k52 t s hs h l r hp hrb hl)
/-- 'Turn' of the reference -/
noncomputable def c52 : PCtr Tryd.prog where
  f := 52
  X := (List Int × Room) × List Pr × Room
  args x := [ls x.1.1 x.1.2, pz x.2.1 x.2.2]
  pre x := ((Tn x.1.1 ∧ rok x.1.1 x.1.2) ∧ PB x.1.1.length x.2.1) ∧ pP x.2.1 x.2.2
  v x := .sl (ints (tnl x.1.1 x.2.1)) x.1.1.length .no
  det := by
    rintro ⟨⟨t, s⟩, l, r⟩ ⟨⟨t', s'⟩, l', r'⟩ e _ _
    simp only [List.cons.injEq, and_true] at e
    obtain ⟨e1, e2⟩ := e
    simp only [AV.sl.injEq] at e1
    have := ints_inj e1.1
    subst this
    rw [(pz_in e2).1]
  ok := by
    rintro ⟨⟨t, s⟩, l, r⟩ ⟨⟨⟨h, hs⟩, hl⟩, hp⟩
    refine ⟨ok52.call, fun H => ?_⟩
    have := k52A t s.wk (by simpa using hs) h l r.wk (pP_wk hp) (rm_wk_bnd _) hl
    have := pure_call this (by simp [AV.bnds, AV.bnd, rm_wk_bnd]) (by simp [AV.bnd, Room.bnd]) H
    exact this.wk
/-- 'list' of a slice that is not longer and not empty -/
noncomputable def c19q : PCtr Tryd.prog where
  f := 19
  X := List Int × Room
  args x := [ls x.1 x.2]
  pre x := ((lim x.1.length ∧ rok x.1 x.2 ∧ em x.1 x.2) ∧ x.1.length ≤ 11) ∧ x.1 ≠ []
  v x := ls x.1 .no
  det := by
    rintro ⟨l, r⟩ ⟨l', r'⟩ e _ _
    simp at e
    simp [e]
  ok := by
    rintro ⟨l, r⟩ ⟨h1, h2⟩
    have := c19s.ok (l, r) h1
    have e : c19s.v (l, r) = ls l .no := by
      show ls l (rcl r) = _
      have hr := h1.1.2.1 h2
      cases r <;> first | rfl | exact absurd rfl hr
    rw [e] at this
    exact this
/-- 'pairs' of a slice that is not longer -/
noncomputable def c48s : PCtr Tryd.prog where
  f := 48
  X := List Pr × Room
  args x := [pz x.1 x.2]
  pre x := pP x.1 x.2 ∧ x.1.length ≤ 32
  v x := pz x.1 (rcl x.2)
  det := by
    rintro ⟨l, r⟩ ⟨l', r'⟩ e _ _
    simp only [List.cons.injEq, and_true] at e
    obtain ⟨rfl, rfl⟩ := pz_in e
    rfl
  ok := by
    rintro ⟨l, r⟩ ⟨h1, h2⟩
    have := c48.ok (l, r) h1
    have e : c48.v (l, r) = pz l (rcl r) := by show pz (cutp l) (rcl r) = _; rw [cutp_id h2]
    rw [e] at this
    exact this
theorem rcl_rokp {l : List Pr} {r : Room} (h : rok l r) : rok l (rcl r) := fun hne => by
  have := h hne
  cases r <;> first | exact absurd rfl this | (intro q; cases q)
theorem pP_rcl {l : List Pr} {r : Room} (h : pP l r) : pP l (rcl r) := ⟨h.1, rcl_rokp h.2.1, fun q => by cases r <;> cases q⟩
theorem pP_cut {l : List Pr} {r : Room} (h : pP l r) : pP (cutp l) (rcl r) := by
  refine ⟨?_, fun hne => rcl_rokp h.2.1 (fun e => hne (by rw [e]; rfl)), fun q => by cases r <;> cases q⟩
  have := h.1
  simp only [lim, cutp, List.length_take] at this ⊢
  omega
/-- 'Equal' of the same lists, whose length is told otherwise -/
noncomputable def c22n : PCtr Tryd.prog where
  f := 22
  X := List Int × Room × Nat
  args x := [.sl (ints x.1) x.2.2 x.2.1, .sl (ints x.1) x.2.2 x.2.1]
  pre x := x.1.length = x.2.2 ∧ lim x.1.length ∧ rok x.1 x.2.1
  v _ := .bool true
  det := by intro x y e _ _; rfl
  ok := by
    rintro ⟨l, r, n⟩ ⟨h1, h2, h3⟩
    simp only at h1 h2 h3
    subst h1
    exact c22.ok (l, r, l, r) ⟨rfl, h2, h3, h3⟩
theorem ok8 : FokM Tryd.prog none1 8 Tryd.f8 := ⟨mixed, by kernel_rfl, by kernel_rfl, by kernel_rfl, by kernel_rfl⟩
noncomputable abbrev cs8 : List (Ctr Tryd.prog) := [c19q.to, c48s.to, c47t.to, c49t.to, c21.to, c50.to, c51.to, c52.to, c22n.to, c24.to]
theorem ct8 : Ctrs Tryd.prog none1 cs8 := .pure _ (.pure _ (.pure _ (.pure _ (.pure _ (.pure _ (.pure _ (.pure _ (.pure _ (.pure _ .nil)))))))))
theorem r8t (t : List Int) (r : Room) (l : List Pr) (q : Room) (hp : pL t r) (h : Tn t) (hq : pP l q) (hl : PB t.length l) : Body (En6 cs8) none1 Tryd.f8 [ls t r, pz l q] .nil (.bool true, .nil) := by
  obtain ⟨h1, h2⟩ := hp
  have h8 := h.s.2
  have h0 := h.s.1
  have hr := h1.2.1
  have hb := tn_t h
  have hpb := pB_t hl
  have hn : rok t .no := fun _ => no_ne
  have hne : t ≠ [] := fun e => by rw [e] at h0; simp at h0
  have p19 : ((lim t.length ∧ rok t r ∧ em t r) ∧ t.length ≤ 11) ∧ t ≠ [] := ⟨⟨h1, by omega⟩, hne⟩
  have p48 : pP l q ∧ l.length ≤ 32 := ⟨hq, by have := hl.le; omega⟩
  have p47 : (Tn t ∧ PB t.length l) ∧ pP l (rcl q) := ⟨⟨h, hl⟩, pP_rcl hq⟩
  have p49 : Tn t ∧ rok t .no := ⟨h, hn⟩
  have p21 : lim t.length ∧ rok t r := ⟨h1.1, hr⟩
  have p50 : Tn t ∧ rok t r := ⟨h, hr⟩
  have p52 : ((Tn t ∧ rok t r) ∧ PB t.length l) ∧ pP l q := ⟨⟨⟨h, hr⟩, hl⟩, hq⟩
  have e52 : (AV.sl (ints (tnl t l)) t.length .no) = ls (tnl t l) .no := by show _ = AV.sl _ (tnl t l).length _; rw [wl_len]
  have p22 : (tnl t l).length = t.length ∧ lim (tnl t l).length ∧ rok (tnl t l) .no := ⟨wl_len _ _, by rw [wl_len]; exact h1.1, fun _ => no_ne⟩
  have haa : ((clr t : Nat) : Int) = ((clr t : Nat) : Int) := rfl
  refine body_s ([Ans.o (Orc.val 11 (AV.sl (ints t) t.length Room.no) (H.mk [] [] [])), Ans.o (Orc.val 13 (AV.sl (pairsA l) l.length (rcl q)) (H.mk [] [] [])), Ans.o (Orc.val 14 (AV.tup [AV.sl (ints (tnl t l)) t.length Room.no, I 0]) (H.mk [] [] [])), Ans.o (Orc.val 19 (AV.sl (ints t) t.length Room.no) (H.mk [] [] [])), Ans.o (Orc.val 20 (AV.tup [I (↑(clr t) : Int), I 0]) (H.mk [] [] [])), Ans.o (Orc.val 24 (AV.bool true) (H.mk [] [] [])), Ans.o (Orc.val 46 (I (↑(clr t) : Int)) (H.mk [] [] [])), Ans.o (Orc.b false), Ans.o Orc.dflt, Ans.o (Orc.val 53 (AV.bool true) (H.mk [] [] [])), Ans.o (Orc.val 59 (AV.bool true) (H.mk [] [] [])), Ans.o (Orc.val 71 (AV.sl (ints (tnl t l)) t.length Room.no) (H.mk [] [] [])), Ans.o (Orc.val 72 (AV.bool true) (H.mk [] [] [])), Ans.o Orc.dflt]) (aCall (Sof cs8) (AV.fn (Fn.func (19 : Nat)) [] []) [AV.sl (ints t) t.length r] (H.mk [] [] []) = some (AV.sl (ints t) t.length Room.no, H.mk [] [] []) ∧ aCall (Sof cs8) (AV.fn (Fn.func (48 : Nat)) [] []) [AV.sl (pairsA l) l.length q] (H.mk [] [] []) = some (AV.sl (pairsA l) l.length (rcl q), H.mk [] [] []) ∧ aCall (Sof cs8) (AV.fn (Fn.func (47 : Nat)) [] []) [AV.sl (ints t) t.length Room.no, AV.sl (pairsA l) l.length (rcl q)] (H.mk [] [] []) = some (AV.tup [AV.sl (ints (tnl t l)) t.length Room.no, I 0], H.mk [] [] []) ∧ aCall (Sof cs8) (AV.fn (Fn.func (19 : Nat)) [] []) [AV.sl (ints t) t.length r] (H.mk [] [] []) = some (AV.sl (ints t) t.length Room.no, H.mk [] [] []) ∧ aCall (Sof cs8) (AV.fn (Fn.func (49 : Nat)) [] []) [AV.sl (ints t) t.length Room.no] (H.mk [] [] []) = some (AV.tup [I (↑(clr t) : Int), I 0], H.mk [] [] []) ∧ aCall (Sof cs8) (AV.fn (Fn.func (21 : Nat)) [] []) [AV.sl (ints t) t.length r] (H.mk [] [] []) = some (AV.bool true, H.mk [] [] []) ∧ aCall (Sof cs8) (AV.fn (Fn.func (50 : Nat)) [] []) [AV.sl (ints t) t.length r] (H.mk [] [] []) = some (I (↑(clr t) : Int), H.mk [] [] []) ∧ (↑(clr t) : Int) = (↑(clr t) : Int) ∧ aCall (Sof cs8) (AV.fn (Fn.func (24 : Nat)) [] []) [] (H.mk [] [] []) = some (AV.bool true, H.mk [] [] []) ∧ aCall (Sof cs8) (AV.fn (Fn.func (51 : Nat)) [] []) [I (↑t.length : Int), AV.sl (pairsA l) l.length q] (H.mk [] [] []) = some (AV.bool true, H.mk [] [] []) ∧ aCall (Sof cs8) (AV.fn (Fn.func (52 : Nat)) [] []) [AV.sl (ints t) t.length r, AV.sl (pairsA l) l.length q] (H.mk [] [] []) = some (AV.sl (ints (tnl t l)) t.length Room.no, H.mk [] [] []) ∧ aCall (Sof cs8) (AV.fn (Fn.func (22 : Nat)) [] []) [AV.sl (ints (tnl t l)) t.length Room.no, AV.sl (ints (tnl t l)) t.length Room.no] (H.mk [] [] []) = some (AV.bool true, H.mk [] [] []) ∧ (AV.bool true, H.mk [] [] []) = (AV.bool true, H.mk [] [] [])) (by kernel_rfl) ?_
  refine ⟨acall_hit (c := c19q.to) (t, r) _ rfl p19, ?_⟩
  refine ⟨acall_hit (c := c48s.to) (l, q) _ rfl p48, ?_⟩
  refine ⟨acall_hit (c := c47t.to) (t, l, rcl q) _ rfl p47, ?_⟩
  refine ⟨acall_hit (c := c19q.to) (t, r) _ rfl p19, ?_⟩
  refine ⟨acall_hit (c := c49t.to) (t, .no) _ rfl p49, ?_⟩
  refine ⟨acall_b (acall_hit (c := c21.to) (t, r) _ rfl p21) hb, ?_⟩
  refine ⟨acall_hit (c := c50.to) (t, r) _ rfl p50, ?_⟩
  refine ⟨by first | with_reducible assumption | omega | assumption, ?_⟩
  refine ⟨acall_hit (c := c24.to) () _ rfl trivial, ?_⟩
  refine ⟨acall_b (acall_hit (c := c51.to) ((l, q), t.length) _ rfl hq) hpb, ?_⟩
  refine ⟨acall_hit (c := c52.to) ((t, r), l, q) _ rfl p52, ?_⟩
  refine ⟨acall_hit (c := c22n.to) (tnl t l, .no, t.length) _ rfl p22, ?_⟩
  first | with_reducible rfl | (refine bleaf_t ?_; omega) | (refine bleaf_f ?_; omega) | (refine ileaf ?_; omega) | rfl | (exfalso; omega)
theorem r8p (t : List Int) (r : Room) (l : List Pr) (q : Room) (hp : pL t r) (h : Tn t) (hq : pP l q) (hl : ¬ PB t.length l) : Body (En6 [c19q.to, c48.to, c47p.to, c49t.to, c21.to, c50.to, c51.to, c24.to]) none1 Tryd.f8 [ls t r, pz l q] .nil (.bool true, .nil) := by
  obtain ⟨h1, h2⟩ := hp
  have h8 := h.s.2
  have h0 := h.s.1
  have hr := h1.2.1
  have hb := tn_t h
  have hpb := pB_f hl
  have hn : rok t .no := fun _ => no_ne
  have hne : t ≠ [] := fun e => by rw [e] at h0; simp at h0
  have p19 : ((lim t.length ∧ rok t r ∧ em t r) ∧ t.length ≤ 11) ∧ t ≠ [] := ⟨⟨h1, by omega⟩, hne⟩
  have p47 : ((Tn t ∧ rok t .no) ∧ ¬ PB t.length (cutp l)) ∧ pP (cutp l) (rcl q) := ⟨⟨⟨h, hn⟩, fun k => hl (cutp_PB.1 k)⟩, pP_cut hq⟩
  have p49 : Tn t ∧ rok t .no := ⟨h, hn⟩
  have p21 : lim t.length ∧ rok t r := ⟨h1.1, hr⟩
  have p50 : Tn t ∧ rok t r := ⟨h, hr⟩
  have haa : ((clr t : Nat) : Int) = ((clr t : Nat) : Int) := rfl
  refine body_s ([Ans.o (Orc.val 11 (AV.sl (ints t) t.length Room.no) (H.mk [] [] [])), Ans.o (Orc.val 13 (AV.sl (pairsA (cutp l)) (cutp l).length (rcl q)) (H.mk [] [] [])), Ans.o (Orc.val 14 (AV.tup [AV.sl [] (0 : Nat) Room.nil, I 2]) (H.mk [] [] [])), Ans.o (Orc.val 19 (AV.sl (ints t) t.length Room.no) (H.mk [] [] [])), Ans.o (Orc.val 20 (AV.tup [I (↑(clr t) : Int), I 0]) (H.mk [] [] [])), Ans.o (Orc.val 24 (AV.bool true) (H.mk [] [] [])), Ans.o (Orc.val 46 (I (↑(clr t) : Int)) (H.mk [] [] [])), Ans.o (Orc.b false), Ans.o Orc.dflt, Ans.o (Orc.val 53 (AV.bool true) (H.mk [] [] [])), Ans.o (Orc.val 59 (AV.bool false) (H.mk [] [] [])), Ans.o Orc.dflt, Ans.o Orc.dflt]) (aCall (Sof [c19q.to, c48.to, c47p.to, c49t.to, c21.to, c50.to, c51.to, c24.to]) (AV.fn (Fn.func (19 : Nat)) [] []) [AV.sl (ints t) t.length r] (H.mk [] [] []) = some (AV.sl (ints t) t.length Room.no, H.mk [] [] []) ∧ aCall (Sof [c19q.to, c48.to, c47p.to, c49t.to, c21.to, c50.to, c51.to, c24.to]) (AV.fn (Fn.func (48 : Nat)) [] []) [AV.sl (pairsA l) l.length q] (H.mk [] [] []) = some (AV.sl (pairsA (cutp l)) (cutp l).length (rcl q), H.mk [] [] []) ∧ aCall (Sof [c19q.to, c48.to, c47p.to, c49t.to, c21.to, c50.to, c51.to, c24.to]) (AV.fn (Fn.func (47 : Nat)) [] []) [AV.sl (ints t) t.length Room.no, AV.sl (pairsA (cutp l)) (cutp l).length (rcl q)] (H.mk [] [] []) = some (AV.tup [AV.sl [] (0 : Nat) Room.nil, I 2], H.mk [] [] []) ∧ aCall (Sof [c19q.to, c48.to, c47p.to, c49t.to, c21.to, c50.to, c51.to, c24.to]) (AV.fn (Fn.func (19 : Nat)) [] []) [AV.sl (ints t) t.length r] (H.mk [] [] []) = some (AV.sl (ints t) t.length Room.no, H.mk [] [] []) ∧ aCall (Sof [c19q.to, c48.to, c47p.to, c49t.to, c21.to, c50.to, c51.to, c24.to]) (AV.fn (Fn.func (49 : Nat)) [] []) [AV.sl (ints t) t.length Room.no] (H.mk [] [] []) = some (AV.tup [I (↑(clr t) : Int), I 0], H.mk [] [] []) ∧ aCall (Sof [c19q.to, c48.to, c47p.to, c49t.to, c21.to, c50.to, c51.to, c24.to]) (AV.fn (Fn.func (21 : Nat)) [] []) [AV.sl (ints t) t.length r] (H.mk [] [] []) = some (AV.bool true, H.mk [] [] []) ∧ aCall (Sof [c19q.to, c48.to, c47p.to, c49t.to, c21.to, c50.to, c51.to, c24.to]) (AV.fn (Fn.func (50 : Nat)) [] []) [AV.sl (ints t) t.length r] (H.mk [] [] []) = some (I (↑(clr t) : Int), H.mk [] [] []) ∧ (↑(clr t) : Int) = (↑(clr t) : Int) ∧ aCall (Sof [c19q.to, c48.to, c47p.to, c49t.to, c21.to, c50.to, c51.to, c24.to]) (AV.fn (Fn.func (24 : Nat)) [] []) [] (H.mk [] [] []) = some (AV.bool true, H.mk [] [] []) ∧ aCall (Sof [c19q.to, c48.to, c47p.to, c49t.to, c21.to, c50.to, c51.to, c24.to]) (AV.fn (Fn.func (51 : Nat)) [] []) [I (↑t.length : Int), AV.sl (pairsA l) l.length q] (H.mk [] [] []) = some (AV.bool false, H.mk [] [] []) ∧ (AV.bool true, H.mk [] [] []) = (AV.bool true, H.mk [] [] [])) (by kernel_rfl) ?_
  refine ⟨acall_hit (c := c19q.to) (t, r) _ rfl p19, ?_⟩
  refine ⟨acall_hit (c := c48.to) (l, q) _ rfl hq, ?_⟩
  refine ⟨acall_hit (c := c47p.to) ((t, .no), cutp l, rcl q) _ rfl p47, ?_⟩
  refine ⟨acall_hit (c := c19q.to) (t, r) _ rfl p19, ?_⟩
  refine ⟨acall_hit (c := c49t.to) (t, .no) _ rfl p49, ?_⟩
  refine ⟨acall_b (acall_hit (c := c21.to) (t, r) _ rfl p21) hb, ?_⟩
  refine ⟨acall_hit (c := c50.to) (t, r) _ rfl p50, ?_⟩
  refine ⟨by first | with_reducible assumption | omega | assumption, ?_⟩
  refine ⟨acall_hit (c := c24.to) () _ rfl trivial, ?_⟩
  refine ⟨acall_b (acall_hit (c := c51.to) ((l, q), t.length) _ rfl hq) hpb, ?_⟩
  first | with_reducible rfl | (refine bleaf_t ?_; omega) | (refine bleaf_f ?_; omega) | (refine ileaf ?_; omega) | rfl | (exfalso; omega)
theorem r8f (t : List Int) (r : Room) (l : List Pr) (q : Room) (hp : pL t r) (h : ¬ Tn t) (hq : pP l q) : Body (En6 [c19.to, c48.to, c47f.to, c49f.to, c21.to, c24.to]) none1 Tryd.f8 [ls t r, pz l q] .nil (.bool true, .nil) := by
  obtain ⟨h1, h2⟩ := hp
  have hb := tn_f h
  have p21 : lim t.length ∧ rok t r := ⟨h1.1, h1.2.1⟩
  have p47 : (lim (cut t).length ∧ rok (cut t) (rcl r) ∧ inI (cut t)) ∧ ¬ Tn (cut t) := ⟨⟨cut_lim t, fun hne => rcl_rok h1.2.1 (fun e => hne (by rw [e]; rfl)), cut_in h2⟩, cut_tn h⟩
  refine body_s ([Ans.o (Orc.val 11 (AV.sl (ints (cut t)) (cut t).length (rcl r)) (H.mk [] [] [])), Ans.o (Orc.val 13 (AV.sl (pairsA (cutp l)) (cutp l).length (rcl q)) (H.mk [] [] [])), Ans.o (Orc.val 14 (AV.tup [AV.sl [] (0 : Nat) Room.nil, I 2]) (H.mk [] [] [])), Ans.o (Orc.val 19 (AV.sl (ints (cut t)) (cut t).length (rcl r)) (H.mk [] [] [])), Ans.o (Orc.val 20 (AV.tup [I 0, I 2]) (H.mk [] [] [])), Ans.o (Orc.val 24 (AV.bool false) (H.mk [] [] [])), Ans.o Orc.dflt, Ans.o Orc.dflt, Ans.o Orc.dflt, Ans.o Orc.dflt, Ans.o (Orc.val 42 (AV.bool true) (H.mk [] [] []))]) (aCall (Sof [c19.to, c48.to, c47f.to, c49f.to, c21.to, c24.to]) (AV.fn (Fn.func (19 : Nat)) [] []) [AV.sl (ints t) t.length r] (H.mk [] [] []) = some (AV.sl (ints (cut t)) (cut t).length (rcl r), H.mk [] [] []) ∧ aCall (Sof [c19.to, c48.to, c47f.to, c49f.to, c21.to, c24.to]) (AV.fn (Fn.func (48 : Nat)) [] []) [AV.sl (pairsA l) l.length q] (H.mk [] [] []) = some (AV.sl (pairsA (cutp l)) (cutp l).length (rcl q), H.mk [] [] []) ∧ aCall (Sof [c19.to, c48.to, c47f.to, c49f.to, c21.to, c24.to]) (AV.fn (Fn.func (47 : Nat)) [] []) [AV.sl (ints (cut t)) (cut t).length (rcl r), AV.sl (pairsA (cutp l)) (cutp l).length (rcl q)] (H.mk [] [] []) = some (AV.tup [AV.sl [] (0 : Nat) Room.nil, I 2], H.mk [] [] []) ∧ aCall (Sof [c19.to, c48.to, c47f.to, c49f.to, c21.to, c24.to]) (AV.fn (Fn.func (19 : Nat)) [] []) [AV.sl (ints t) t.length r] (H.mk [] [] []) = some (AV.sl (ints (cut t)) (cut t).length (rcl r), H.mk [] [] []) ∧ aCall (Sof [c19.to, c48.to, c47f.to, c49f.to, c21.to, c24.to]) (AV.fn (Fn.func (49 : Nat)) [] []) [AV.sl (ints (cut t)) (cut t).length (rcl r)] (H.mk [] [] []) = some (AV.tup [I 0, I 2], H.mk [] [] []) ∧ aCall (Sof [c19.to, c48.to, c47f.to, c49f.to, c21.to, c24.to]) (AV.fn (Fn.func (21 : Nat)) [] []) [AV.sl (ints t) t.length r] (H.mk [] [] []) = some (AV.bool false, H.mk [] [] []) ∧ aCall (Sof [c19.to, c48.to, c47f.to, c49f.to, c21.to, c24.to]) (AV.fn (Fn.func (24 : Nat)) [] []) [] (H.mk [] [] []) = some (AV.bool true, H.mk [] [] []) ∧ (AV.bool true, H.mk [] [] []) = (AV.bool true, H.mk [] [] [])) (by kernel_rfl) ?_
  refine ⟨acall_hit (c := c19.to) (t, r) _ rfl h1, ?_⟩
  refine ⟨acall_hit (c := c48.to) (l, q) _ rfl hq, ?_⟩
  refine ⟨acall_hit (c := c47f.to) ((cut t, rcl r), cutp l, rcl q) _ rfl p47, ?_⟩
  refine ⟨acall_hit (c := c19.to) (t, r) _ rfl h1, ?_⟩
  refine ⟨acall_hit (c := c49f.to) (cut t, rcl r) _ rfl p47, ?_⟩
  refine ⟨acall_b (acall_hit (c := c21.to) (t, r) _ rfl p21) hb, ?_⟩
  refine ⟨acall_hit (c := c24.to) () _ rfl trivial, ?_⟩
  first | with_reducible rfl | (refine bleaf_t ?_; omega) | (refine bleaf_f ?_; omega) | (refine ileaf ?_; omega) | rfl | (exfalso; omega)
theorem pP_rr {l : List Pr} {q : RK} (h1 : l.length ≤ Go.maxLen) (h2 : q.mt = true → l = []) : pP l (rr q) := by
  refine ⟨Nat.le_trans h1 (by decide), fun hl e => ?_, fun e => ?_⟩
  · cases q <;> simp_all [rr, RK.mt]
  · cases q <;> simp_all [rr, RK.mt]
theorem turns_ok (t : List Int) (q : RK) (h1 : t.length ≤ Go.maxLen) (h2 : q.mt = true → t = []) (h3 : inI t) (l : List Pr) (k : RK) (h4 : l.length ≤ Go.maxLen) (h5 : k.mt = true → l = []) : CallOk Tryd.prog 8 [ls t (rr q), pz l (rr k)] .nil (.bool true) .nil := by
  have hp := pL_rr h1 h2 h3
  have hq := pP_rr h4 h5
  by_cases h : Tn t
  · by_cases hl : PB t.length l
    · exact (r8t t _ l _ hp h hq hl).run ok8 ct8 rfl
    · exact (r8p t _ l _ hp h hq hl).run ok8 (.pure _ (.pure _ (.pure _ (.pure _ (.pure _ (.pure _ (.pure _ (.pure _ .nil)))))))) rfl
  · exact (r8f t _ l _ hp h hq).run ok8 (.pure _ (.pure _ (.pure _ (.pure _ (.pure _ (.pure _ .nil)))))) rfl
end Go.Proofs.Rnk

