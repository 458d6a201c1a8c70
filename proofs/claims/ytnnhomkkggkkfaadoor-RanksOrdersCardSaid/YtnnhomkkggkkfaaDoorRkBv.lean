/- Layer 2: the law of orders. -/
import Derived.Test.YtnnhomkkggkkfaaDoorRkBs
import Derived.Test.YtnnhomkkggkkfaaDoorRkBu
import Derived.Test.YtnnhomkkggkkfaaDoorRkAq
import Derived.KernelRfl
set_option linter.unusedSimpArgs false
set_option linter.unusedVariables false
set_option linter.unnecessarySimpa false
set_option maxHeartbeats 4000000
set_option maxRecDepth 100000
namespace Go.Proofs.Rnk
open Go Go.VM

theorem ok6 : FokM Tryd.prog none1 6 Tryd.f6 := ⟨mixed, by kernel_rfl, by kernel_rfl, by kernel_rfl, by kernel_rfl⟩
theorem cut_ob {n : Nat} {o : List Int} (hn : n ≤ 8) (h : ¬ OB n o) : ¬ OB n (cut o) := fun k => by
  have h8 := k.le
  have : o.length ≤ 11 := by simp only [cut, List.length_take] at h8; omega
  rw [cut_eq this] at k
  exact h k
noncomputable abbrev cs6 : List (Ctr Tryd.prog) := [c19q.to, c37t.to, c21.to, c36t.to, c38.to, c22.to, c39x.to, c40.to, c24.to]
theorem ct6 : Ctrs Tryd.prog none1 cs6 := .pure _ (.pure _ (.pure _ (.pure _ (.pure _ (.pure _ (.pure _ (.pure _ (.pure _ .nil))))))))
theorem r6t (t : List Int) (r : Room) (o : List Int) (q : Room) (hp : pL t r) (h : Tn t) (hq : pL o q) (ho : OB t.length o) : Body (En6 cs6) none1 Tryd.f6 [ls t r, ls o q] .nil (.bool true, .nil) := by
  obtain ⟨h1, h2⟩ := hp
  obtain ⟨h3, h4⟩ := hq
  have h8 := h.s.2
  have h0 := h.s.1
  have hr := h1.2.1
  have hlen := ho.le
  have hb := tn_t h
  have hob := odB_t ho
  have hn : rok t .no := fun _ => no_ne
  have hno : rok o .no := fun _ => no_ne
  have heo : em o .no := fun e => by cases e
  have hne : t ≠ [] := fun e => by rw [e] at h0; simp at h0
  have hne2 : o ≠ [] := fun e => by rw [e] at hlen; simp at hlen; omega
  have p19 : ((lim t.length ∧ rok t r ∧ em t r) ∧ t.length ≤ 11) ∧ t ≠ [] := ⟨⟨h1, by omega⟩, hne⟩
  have p19o : ((lim o.length ∧ rok o q ∧ em o q) ∧ o.length ≤ 11) ∧ o ≠ [] := ⟨⟨h3, by omega⟩, hne2⟩
  have p37 : Tn t ∧ rok t .no := ⟨h, hn⟩
  have p38 : Tn t ∧ rok t r := ⟨h, hr⟩
  have p21 : lim t.length ∧ rok t r := ⟨h1.1, hr⟩
  have p36 : (Tn t ∧ rok t .no) ∧ OB t.length o ∧ rok o .no ∧ em o .no := ⟨⟨h, hn⟩, ho, hno, heo⟩
  have p22 : oT t = oT t ∧ lim (oT t).length ∧ rok (oT t) (oR t) ∧ rok (oT t) (rq (oT t)) := ⟨rfl, by rw [oL_len]; exact h1.1, (oR_rok t).1, rq_rok _⟩
  have p39 : t.length ≤ 8 ∧ rok o q ∧ lim o.length := ⟨h8, h3.2.1, h3.1⟩
  have p40 : (Tn t ∧ rok t r) ∧ OB t.length o ∧ rok o q ∧ em o q := ⟨⟨h, hr⟩, ho, h3.2.1, h3.2.2⟩
  have c0 : ((agV t o : Nat) : Int) = ((agV t o : Nat) : Int) := rfl
  refine body_s ([Ans.o (Orc.val 11 (AV.sl (ints t) t.length Room.no) (H.mk [] [] [])), Ans.o (Orc.val 13 (AV.sl (ints o) o.length Room.no) (H.mk [] [] [])), Ans.o (Orc.val 14 (AV.tup [I (↑(agV t o) : Int), I 0]) (H.mk [] [] [])), Ans.o (Orc.val 19 (AV.sl (ints t) t.length Room.no) (H.mk [] [] [])), Ans.o (Orc.val 20 (AV.tup [AV.sl (ints (oT t)) (oT t).length (oR t), I 0]) (H.mk [] [] [])), Ans.o (Orc.val 24 (AV.bool true) (H.mk [] [] [])), Ans.o (Orc.val 46 (AV.sl (ints (oT t)) (oT t).length (rq (oT t))) (H.mk [] [] [])), Ans.o (Orc.val 47 (AV.bool true) (H.mk [] [] [])), Ans.o Orc.dflt, Ans.o (Orc.val 54 (AV.bool true) (H.mk [] [] [])), Ans.o (Orc.val 59 (AV.bool true) (H.mk [] [] [])), Ans.o (Orc.val 70 (I (↑(agV t o) : Int)) (H.mk [] [] [])), Ans.o (Orc.b true), Ans.o Orc.dflt]) (aCall (Sof cs6) (AV.fn (Fn.func (19 : Nat)) [] []) [AV.sl (ints t) t.length r] (H.mk [] [] []) = some (AV.sl (ints t) t.length Room.no, H.mk [] [] []) ∧ aCall (Sof cs6) (AV.fn (Fn.func (19 : Nat)) [] []) [AV.sl (ints o) o.length q] (H.mk [] [] []) = some (AV.sl (ints o) o.length Room.no, H.mk [] [] []) ∧ aCall (Sof cs6) (AV.fn (Fn.func (36 : Nat)) [] []) [AV.sl (ints t) t.length Room.no, AV.sl (ints o) o.length Room.no] (H.mk [] [] []) = some (AV.tup [I (↑(agV t o) : Int), I 0], H.mk [] [] []) ∧ aCall (Sof cs6) (AV.fn (Fn.func (19 : Nat)) [] []) [AV.sl (ints t) t.length r] (H.mk [] [] []) = some (AV.sl (ints t) t.length Room.no, H.mk [] [] []) ∧ aCall (Sof cs6) (AV.fn (Fn.func (37 : Nat)) [] []) [AV.sl (ints t) t.length Room.no] (H.mk [] [] []) = some (AV.tup [AV.sl (ints (oT t)) (oT t).length (oR t), I 0], H.mk [] [] []) ∧ aCall (Sof cs6) (AV.fn (Fn.func (21 : Nat)) [] []) [AV.sl (ints t) t.length r] (H.mk [] [] []) = some (AV.bool true, H.mk [] [] []) ∧ aCall (Sof cs6) (AV.fn (Fn.func (38 : Nat)) [] []) [AV.sl (ints t) t.length r] (H.mk [] [] []) = some (AV.sl (ints (oT t)) (oT t).length (rq (oT t)), H.mk [] [] []) ∧ aCall (Sof cs6) (AV.fn (Fn.func (22 : Nat)) [] []) [AV.sl (ints (oT t)) (oT t).length (oR t), AV.sl (ints (oT t)) (oT t).length (rq (oT t))] (H.mk [] [] []) = some (AV.bool true, H.mk [] [] []) ∧ aCall (Sof cs6) (AV.fn (Fn.func (24 : Nat)) [] []) [] (H.mk [] [] []) = some (AV.bool true, H.mk [] [] []) ∧ aCall (Sof cs6) (AV.fn (Fn.func (39 : Nat)) [] []) [AV.sl (ints t) t.length r, AV.sl (ints o) o.length q] (H.mk [] [] []) = some (AV.bool true, H.mk [] [] []) ∧ aCall (Sof cs6) (AV.fn (Fn.func (40 : Nat)) [] []) [AV.sl (ints t) t.length r, AV.sl (ints o) o.length q] (H.mk [] [] []) = some (I (↑(agV t o) : Int), H.mk [] [] []) ∧ (↑(agV t o) : Int) = (↑(agV t o) : Int) ∧ (AV.bool true, H.mk [] [] []) = (AV.bool true, H.mk [] [] [])) (by kernel_rfl) ?_
  refine ⟨by first | exact acall_hit (c := c19q.to) (t, r) _ rfl p19 | exact acall_hit (c := c19q.to) (o, q) _ rfl p19o, ?_⟩
  refine ⟨by first | exact acall_hit (c := c19q.to) (t, r) _ rfl p19 | exact acall_hit (c := c19q.to) (o, q) _ rfl p19o, ?_⟩
  refine ⟨acall_hit (c := c36t.to) ((t, .no), o, .no) _ rfl p36, ?_⟩
  refine ⟨by first | exact acall_hit (c := c19q.to) (t, r) _ rfl p19 | exact acall_hit (c := c19q.to) (o, q) _ rfl p19o, ?_⟩
  refine ⟨acall_hit (c := c37t.to) (t, .no) _ rfl p37, ?_⟩
  refine ⟨acall_b (acall_hit (c := c21.to) (t, r) _ rfl p21) hb, ?_⟩
  refine ⟨acall_hit (c := c38.to) (t, r) _ rfl p38, ?_⟩
  refine ⟨acall_hit (c := c22.to) (oT t, oR t, oT t, rq (oT t)) _ rfl p22, ?_⟩
  refine ⟨acall_hit (c := c24.to) () _ rfl trivial, ?_⟩
  refine ⟨acall_b (acall_hit (c := c39x.to) ((t, r), o, q) _ rfl p39) hob, ?_⟩
  refine ⟨acall_hit (c := c40.to) ((t, r), o, q) _ rfl p40, ?_⟩
  refine ⟨by first | with_reducible assumption | omega | assumption, ?_⟩
  first | with_reducible rfl | (refine bleaf_t ?_; omega) | (refine bleaf_f ?_; omega) | (refine ileaf ?_; omega) | rfl | (exfalso; omega)
theorem r6n (t : List Int) (r : Room) (o : List Int) (q : Room) (hp : pL t r) (h : Tn t) (hq : pL o q) (ho : ¬ OB t.length o) : Body (En6 [c19.to, c37t.to, c21.to, c36n.to, c38.to, c22.to, c39x.to, c24.to]) none1 Tryd.f6 [ls t r, ls o q] .nil (.bool true, .nil) := by
  obtain ⟨h1, h2⟩ := hp
  obtain ⟨h3, h4⟩ := hq
  have h8 := h.s.2
  have hr := h1.2.1
  have hb := tn_t h
  have hob := odB_f ho
  have ht := cut_eq (t := t) (by omega)
  have hrc : ∀ {l : List Int} {r : Room}, rok l r → rok (cut l) (rcl r) := fun hl hne => rcl_rok hl (fun e => hne (by rw [e]; rfl))
  have p37 : Tn (cut t) ∧ rok (cut t) (rcl r) := ⟨by rw [ht]; exact h, hrc hr⟩
  have p38 : Tn t ∧ rok t r := ⟨h, hr⟩
  have p21 : lim t.length ∧ rok t r := ⟨h1.1, hr⟩
  have p36 : ((Tn (cut t) ∧ rok (cut t) (rcl r)) ∧ ¬ OB (cut t).length (cut o)) ∧ lim (cut o).length ∧ rok (cut o) (rcl q) ∧ em (cut o) (rcl q) := ⟨⟨p37, by rw [ht]; exact cut_ob h8 ho⟩, cut_lim o, hrc h3.2.1, emp_rcl _ _⟩
  have p22 : oT (cut t) = oT t ∧ lim (oT (cut t)).length ∧ rok (oT (cut t)) (oR (cut t)) ∧ rok (oT t) (rq (oT t)) := ⟨by rw [ht], by rw [ht, oL_len]; exact h1.1, (oR_rok _).1, rq_rok _⟩
  have p39 : t.length ≤ 8 ∧ rok o q ∧ lim o.length := ⟨h8, h3.2.1, h3.1⟩
  refine body_s ([Ans.o (Orc.val 11 (AV.sl (ints (cut t)) (cut t).length (rcl r)) (H.mk [] [] [])), Ans.o (Orc.val 13 (AV.sl (ints (cut o)) (cut o).length (rcl q)) (H.mk [] [] [])), Ans.o (Orc.val 14 (AV.tup [I 0, I 2]) (H.mk [] [] [])), Ans.o (Orc.val 19 (AV.sl (ints (cut t)) (cut t).length (rcl r)) (H.mk [] [] [])), Ans.o (Orc.val 20 (AV.tup [AV.sl (ints (oT (cut t))) (oT (cut t)).length (oR (cut t)), I 0]) (H.mk [] [] [])), Ans.o (Orc.val 24 (AV.bool true) (H.mk [] [] [])), Ans.o (Orc.val 46 (AV.sl (ints (oT t)) (oT t).length (rq (oT t))) (H.mk [] [] [])), Ans.o (Orc.val 47 (AV.bool true) (H.mk [] [] [])), Ans.o Orc.dflt, Ans.o (Orc.val 54 (AV.bool true) (H.mk [] [] [])), Ans.o (Orc.val 59 (AV.bool false) (H.mk [] [] [])), Ans.o Orc.dflt, Ans.o Orc.dflt]) (aCall (Sof [c19.to, c37t.to, c21.to, c36n.to, c38.to, c22.to, c39x.to, c24.to]) (AV.fn (Fn.func (19 : Nat)) [] []) [AV.sl (ints t) t.length r] (H.mk [] [] []) = some (AV.sl (ints (cut t)) (cut t).length (rcl r), H.mk [] [] []) ∧ aCall (Sof [c19.to, c37t.to, c21.to, c36n.to, c38.to, c22.to, c39x.to, c24.to]) (AV.fn (Fn.func (19 : Nat)) [] []) [AV.sl (ints o) o.length q] (H.mk [] [] []) = some (AV.sl (ints (cut o)) (cut o).length (rcl q), H.mk [] [] []) ∧ aCall (Sof [c19.to, c37t.to, c21.to, c36n.to, c38.to, c22.to, c39x.to, c24.to]) (AV.fn (Fn.func (36 : Nat)) [] []) [AV.sl (ints (cut t)) (cut t).length (rcl r), AV.sl (ints (cut o)) (cut o).length (rcl q)] (H.mk [] [] []) = some (AV.tup [I 0, I 2], H.mk [] [] []) ∧ aCall (Sof [c19.to, c37t.to, c21.to, c36n.to, c38.to, c22.to, c39x.to, c24.to]) (AV.fn (Fn.func (19 : Nat)) [] []) [AV.sl (ints t) t.length r] (H.mk [] [] []) = some (AV.sl (ints (cut t)) (cut t).length (rcl r), H.mk [] [] []) ∧ aCall (Sof [c19.to, c37t.to, c21.to, c36n.to, c38.to, c22.to, c39x.to, c24.to]) (AV.fn (Fn.func (37 : Nat)) [] []) [AV.sl (ints (cut t)) (cut t).length (rcl r)] (H.mk [] [] []) = some (AV.tup [AV.sl (ints (oT (cut t))) (oT (cut t)).length (oR (cut t)), I 0], H.mk [] [] []) ∧ aCall (Sof [c19.to, c37t.to, c21.to, c36n.to, c38.to, c22.to, c39x.to, c24.to]) (AV.fn (Fn.func (21 : Nat)) [] []) [AV.sl (ints t) t.length r] (H.mk [] [] []) = some (AV.bool true, H.mk [] [] []) ∧ aCall (Sof [c19.to, c37t.to, c21.to, c36n.to, c38.to, c22.to, c39x.to, c24.to]) (AV.fn (Fn.func (38 : Nat)) [] []) [AV.sl (ints t) t.length r] (H.mk [] [] []) = some (AV.sl (ints (oT t)) (oT t).length (rq (oT t)), H.mk [] [] []) ∧ aCall (Sof [c19.to, c37t.to, c21.to, c36n.to, c38.to, c22.to, c39x.to, c24.to]) (AV.fn (Fn.func (22 : Nat)) [] []) [AV.sl (ints (oT (cut t))) (oT (cut t)).length (oR (cut t)), AV.sl (ints (oT t)) (oT t).length (rq (oT t))] (H.mk [] [] []) = some (AV.bool true, H.mk [] [] []) ∧ aCall (Sof [c19.to, c37t.to, c21.to, c36n.to, c38.to, c22.to, c39x.to, c24.to]) (AV.fn (Fn.func (24 : Nat)) [] []) [] (H.mk [] [] []) = some (AV.bool true, H.mk [] [] []) ∧ aCall (Sof [c19.to, c37t.to, c21.to, c36n.to, c38.to, c22.to, c39x.to, c24.to]) (AV.fn (Fn.func (39 : Nat)) [] []) [AV.sl (ints t) t.length r, AV.sl (ints o) o.length q] (H.mk [] [] []) = some (AV.bool false, H.mk [] [] []) ∧ (AV.bool true, H.mk [] [] []) = (AV.bool true, H.mk [] [] [])) (by kernel_rfl) ?_
  refine ⟨by first | exact acall_hit (c := c19.to) (t, r) _ rfl h1 | exact acall_hit (c := c19.to) (o, q) _ rfl h3, ?_⟩
  refine ⟨by first | exact acall_hit (c := c19.to) (t, r) _ rfl h1 | exact acall_hit (c := c19.to) (o, q) _ rfl h3, ?_⟩
  refine ⟨acall_hit (c := c36n.to) ((cut t, rcl r), cut o, rcl q) _ rfl p36, ?_⟩
  refine ⟨by first | exact acall_hit (c := c19.to) (t, r) _ rfl h1 | exact acall_hit (c := c19.to) (o, q) _ rfl h3, ?_⟩
  refine ⟨acall_hit (c := c37t.to) (cut t, rcl r) _ rfl p37, ?_⟩
  refine ⟨acall_b (acall_hit (c := c21.to) (t, r) _ rfl p21) hb, ?_⟩
  refine ⟨acall_hit (c := c38.to) (t, r) _ rfl p38, ?_⟩
  refine ⟨acall_hit (c := c22.to) (oT (cut t), oR (cut t), oT t, rq (oT t)) _ rfl p22, ?_⟩
  refine ⟨acall_hit (c := c24.to) () _ rfl trivial, ?_⟩
  refine ⟨acall_b (acall_hit (c := c39x.to) ((t, r), o, q) _ rfl p39) hob, ?_⟩
  first | with_reducible rfl | (refine bleaf_t ?_; omega) | (refine bleaf_f ?_; omega) | (refine ileaf ?_; omega) | rfl | (exfalso; omega)
theorem r6f (t : List Int) (r : Room) (o : List Int) (q : Room) (hp : pL t r) (h : ¬ Tn t) (hq : pL o q) : Body (En6 [c19.to, c37f.to, c21.to, c36f.to, c24.to]) none1 Tryd.f6 [ls t r, ls o q] .nil (.bool true, .nil) := by
  obtain ⟨h1, h2⟩ := hp
  obtain ⟨h3, h4⟩ := hq
  have hb := tn_f h
  have p37 : (lim (cut t).length ∧ rok (cut t) (rcl r) ∧ inI (cut t)) ∧ ¬ Tn (cut t) := ⟨⟨cut_lim t, fun hne => rcl_rok h1.2.1 (fun e => hne (by rw [e]; rfl)), cut_in h2⟩, cut_tn h⟩
  have p21 : lim t.length ∧ rok t r := ⟨h1.1, h1.2.1⟩
  refine body_s ([Ans.o (Orc.val 11 (AV.sl (ints (cut t)) (cut t).length (rcl r)) (H.mk [] [] [])), Ans.o (Orc.val 13 (AV.sl (ints (cut o)) (cut o).length (rcl q)) (H.mk [] [] [])), Ans.o (Orc.val 14 (AV.tup [I 0, I 2]) (H.mk [] [] [])), Ans.o (Orc.val 19 (AV.sl (ints (cut t)) (cut t).length (rcl r)) (H.mk [] [] [])), Ans.o (Orc.val 20 (AV.tup [AV.sl [] (0 : Nat) Room.nil, I 2]) (H.mk [] [] [])), Ans.o (Orc.val 24 (AV.bool false) (H.mk [] [] [])), Ans.o Orc.dflt, Ans.o Orc.dflt, Ans.o Orc.dflt, Ans.o Orc.dflt, Ans.o (Orc.val 42 (AV.bool true) (H.mk [] [] []))]) (aCall (Sof [c19.to, c37f.to, c21.to, c36f.to, c24.to]) (AV.fn (Fn.func (19 : Nat)) [] []) [AV.sl (ints t) t.length r] (H.mk [] [] []) = some (AV.sl (ints (cut t)) (cut t).length (rcl r), H.mk [] [] []) ∧ aCall (Sof [c19.to, c37f.to, c21.to, c36f.to, c24.to]) (AV.fn (Fn.func (19 : Nat)) [] []) [AV.sl (ints o) o.length q] (H.mk [] [] []) = some (AV.sl (ints (cut o)) (cut o).length (rcl q), H.mk [] [] []) ∧ aCall (Sof [c19.to, c37f.to, c21.to, c36f.to, c24.to]) (AV.fn (Fn.func (36 : Nat)) [] []) [AV.sl (ints (cut t)) (cut t).length (rcl r), AV.sl (ints (cut o)) (cut o).length (rcl q)] (H.mk [] [] []) = some (AV.tup [I 0, I 2], H.mk [] [] []) ∧ aCall (Sof [c19.to, c37f.to, c21.to, c36f.to, c24.to]) (AV.fn (Fn.func (19 : Nat)) [] []) [AV.sl (ints t) t.length r] (H.mk [] [] []) = some (AV.sl (ints (cut t)) (cut t).length (rcl r), H.mk [] [] []) ∧ aCall (Sof [c19.to, c37f.to, c21.to, c36f.to, c24.to]) (AV.fn (Fn.func (37 : Nat)) [] []) [AV.sl (ints (cut t)) (cut t).length (rcl r)] (H.mk [] [] []) = some (AV.tup [AV.sl [] (0 : Nat) Room.nil, I 2], H.mk [] [] []) ∧ aCall (Sof [c19.to, c37f.to, c21.to, c36f.to, c24.to]) (AV.fn (Fn.func (21 : Nat)) [] []) [AV.sl (ints t) t.length r] (H.mk [] [] []) = some (AV.bool false, H.mk [] [] []) ∧ aCall (Sof [c19.to, c37f.to, c21.to, c36f.to, c24.to]) (AV.fn (Fn.func (24 : Nat)) [] []) [] (H.mk [] [] []) = some (AV.bool true, H.mk [] [] []) ∧ (AV.bool true, H.mk [] [] []) = (AV.bool true, H.mk [] [] [])) (by kernel_rfl) ?_
  refine ⟨by first | exact acall_hit (c := c19.to) (t, r) _ rfl h1 | exact acall_hit (c := c19.to) (o, q) _ rfl h3, ?_⟩
  refine ⟨by first | exact acall_hit (c := c19.to) (t, r) _ rfl h1 | exact acall_hit (c := c19.to) (o, q) _ rfl h3, ?_⟩
  refine ⟨acall_hit (c := c36f.to) ((cut t, rcl r), cut o, rcl q) _ rfl p37, ?_⟩
  refine ⟨by first | exact acall_hit (c := c19.to) (t, r) _ rfl h1 | exact acall_hit (c := c19.to) (o, q) _ rfl h3, ?_⟩
  refine ⟨acall_hit (c := c37f.to) (cut t, rcl r) _ rfl p37, ?_⟩
  refine ⟨acall_b (acall_hit (c := c21.to) (t, r) _ rfl p21) hb, ?_⟩
  refine ⟨acall_hit (c := c24.to) () _ rfl trivial, ?_⟩
  first | with_reducible rfl | (refine bleaf_t ?_; omega) | (refine bleaf_f ?_; omega) | (refine ileaf ?_; omega) | rfl | (exfalso; omega)
theorem orders_ok (t : List Int) (q : RK) (h1 : t.length ≤ Go.maxLen) (h2 : q.mt = true → t = []) (h3 : inI t) (o : List Int) (k : RK) (h4 : o.length ≤ Go.maxLen) (h5 : k.mt = true → o = []) (h6 : inI o) : CallOk Tryd.prog 6 [ls t (rr q), ls o (rr k)] .nil (.bool true) .nil := by
  have hp := pL_rr h1 h2 h3
  have hq := pL_rr h4 h5 h6
  by_cases h : Tn t
  · by_cases ho : OB t.length o
    · exact (r6t t _ o _ hp h hq ho).run ok6 ct6 rfl
    · exact (r6n t _ o _ hp h hq ho).run ok6 (.pure _ (.pure _ (.pure _ (.pure _ (.pure _ (.pure _ (.pure _ (.pure _ .nil)))))))) rfl
  · exact (r6f t _ o _ hp h hq).run ok6 (.pure _ (.pure _ (.pure _ (.pure _ (.pure _ .nil))))) rfl
end Go.Proofs.Rnk

