/- Layer 9: the law of races (P9.6). -/
import Derived.Test.YthodoagjojmliaaBtAb
import Derived.Test.YthodoagjojmliaaBtR
import Derived.KernelRfl
set_option linter.unusedSimpArgs false
set_option linter.unusedVariables false
set_option linter.unnecessarySimpa false
set_option maxHeartbeats 4000000
set_option maxRecDepth 100000
namespace Go.Proofs.Bts
open Go Go.VM

theorem cuti_len (l : List Int) : (cuti l).length = min 8 l.length := by simp [cuti]
theorem cut_ra (ch od : List Int) : raO (cuti ch) (cuti od) ↔ raO ch od := by
  by_cases h : ch.length ≤ 5
  · have e1 := cuti_id (l := ch) (by omega)
    by_cases h2 : od.length ≤ 8
    · rw [e1, cuti_id h2]
    · constructor
      · intro q; have := q.1.2; rw [e1, cuti_len] at this; omega
      · intro q; have := q.1.2; omega
  · constructor
    · intro q; have := q.1.1.2; rw [cuti_len] at this; omega
    · intro q; have := q.1.1.2; omega
theorem cut_st {n : Nat} (hn : n ≤ 5) (s : List Pr) : stO n (cutp s) ↔ stO n s := by
  by_cases h : s.length ≤ 8
  · rw [cutp_id h]
  · constructor
    · intro q
      have := q.1.1
      simp only [cutp, List.length_take] at this
      omega
    · intro q; have := q.1.1; omega
theorem cut_ww (ch od : List Int) (s : List Pr) : wwO (cuti ch) (cuti od) (cutp s) ↔ wwO ch od s := by
  constructor
  · rintro ⟨h1, h2⟩
    have g1 := (cut_ra ch od).1 h1
    have e : cuti od = od := cuti_id (by have := g1.1; omega)
    rw [e] at h2
    exact ⟨g1, (cut_st (by have := g1.1; omega) s).1 h2⟩
  · rintro ⟨h1, h2⟩
    have e : cuti od = od := cuti_id (by have := h1.1; omega)
    refine ⟨(cut_ra ch od).2 h1, ?_⟩
    rw [e]
    exact (cut_st (by have := h1.1; omega) s).2 h2
theorem cut_w {ch od : List Int} {s : List Pr} (h : wwO ch od s) : cuti ch = ch ∧ cuti od = od ∧ cutp s = s := by
  obtain ⟨h1, h2⟩ := h
  have := h1.1
  have := h2.1.1
  exact ⟨cuti_id (by omega), cuti_id (by omega), cutp_id (by omega)⟩
theorem rmz_rok (L : List Pr) : rok L (rmz 2 L).wk := by
  intro hne
  cases L with
  | nil => exact absurd rfl hne
  | cons x l => exact fun e => by cases e
abbrev pLi (l : List Int) (r : Room) : Prop := (lim l.length ∧ em l r) ∧ rok l r
theorem cuti_I {l : List Int} {r : Room} (h : pLi l r) : pI0 (cuti l) (rcl r) := ⟨by have := cuti_len l; show _ ≤ _; omega, fun hne => rcl_rok h.2 (fun e => hne (by rw [cuti, e]; rfl))⟩
theorem ok7 : FokM Try.prog none1 7 Try.f7 := ⟨mixed, by kernel_rfl, by kernel_rfl, by kernel_rfl, by kernel_rfl⟩
theorem r7f (ch : List Int) (r : Room) (od : List Int) (q : Room) (s : List Pr) (t : Room) (hc : pLi ch r) (ho : pLi od q) (hs : pZ s t) (h : ¬ wwO ch od s) : Body (En6 [c40.to, c21.to, c44.to, c41.to, c45.to, c46.to, c42.to, c23.to]) none1 Try.f7 [ls ch r, ls od q, pz s t] .nil (.bool true, .nil) := by
  have p40 : lim ch.length ∧ rok ch r ∧ em ch r := ⟨hc.1.1, hc.2, hc.1.2⟩
  have o40 : lim od.length ∧ rok od q ∧ em od q := ⟨ho.1.1, ho.2, ho.1.2⟩
  have p21 : lim s.length ∧ rok s t ∧ emp s t := ⟨hs.1.1, hs.2.1, hs.1.2⟩
  have p44 : p44 (cuti ch) (rcl r) (cuti od) (rcl q) (cutp s) (rcl t) := ⟨⟨cuti_I hc, cuti_I ho⟩, cutp_M hs.2.1 hs.2.2⟩
  have p41 : p95 ch r od q := ⟨⟨hc.1.1, hc.2⟩, ho.1.1, ho.2⟩
  have hw := ww_f (fun q => h ((cut_ww ch od s).1 q))
  have hlen : (((wwL (cuti ch) (cuti od) (cutp s)).length : Nat) : Int) = 0 := by rw [hw.1]; rfl
  have he := hw.2
  by_cases h1 : raO ch od
  · have hb := raB_t h1
    have hb2 : stB od.length s = false := stB_f fun q => h ⟨h1, q⟩
    have p45 : pST od.length s t := ⟨⟨hs.1.1, hs.2⟩, by have := h1.1; omega⟩
    refine body_s ([Ans.o (Orc.val 11 (AV.sl (ints (cuti ch)) (cuti ch).length (rcl r)) (H.mk [] [] [])), Ans.o (Orc.val 13 (AV.sl (ints (cuti od)) (cuti od).length (rcl q)) (H.mk [] [] [])), Ans.o (Orc.val 15 (AV.sl (pairsA (cutp s)) (cutp s).length (rcl t)) (H.mk [] [] [])), Ans.o (Orc.val 16 (AV.tup [AV.sl (pairsA (wwL (cuti ch) (cuti od) (cutp s))) (wwL (cuti ch) (cuti od) (cutp s)).length (rmz (2 : Nat) (wwL (cuti ch) (cuti od) (cutp s))).wk, I (wwE (cuti ch) (cuti od) (cutp s))]) (H.mk [] [] [])), Ans.o (Orc.val 21 (AV.bool true) (H.mk [] [] [])), Ans.o (Orc.val 27 (AV.bool false) (H.mk [] [] [])), Ans.o (Orc.b true), Ans.o (Orc.b true), Ans.o (Orc.val 38 (AV.bool true) (H.mk [] [] []))]) (aCall (Sof [c40.to, c21.to, c44.to, c41.to, c45.to, c46.to, c42.to, c23.to]) (AV.fn (Fn.func (40 : Nat)) [] []) [AV.sl (ints ch) ch.length r] (H.mk [] [] []) = some (AV.sl (ints (cuti ch)) (cuti ch).length (rcl r), H.mk [] [] []) ∧ aCall (Sof [c40.to, c21.to, c44.to, c41.to, c45.to, c46.to, c42.to, c23.to]) (AV.fn (Fn.func (40 : Nat)) [] []) [AV.sl (ints od) od.length q] (H.mk [] [] []) = some (AV.sl (ints (cuti od)) (cuti od).length (rcl q), H.mk [] [] []) ∧ aCall (Sof [c40.to, c21.to, c44.to, c41.to, c45.to, c46.to, c42.to, c23.to]) (AV.fn (Fn.func (21 : Nat)) [] []) [AV.sl (pairsA s) s.length t] (H.mk [] [] []) = some (AV.sl (pairsA (cutp s)) (cutp s).length (rcl t), H.mk [] [] []) ∧ aCall (Sof [c40.to, c21.to, c44.to, c41.to, c45.to, c46.to, c42.to, c23.to]) (AV.fn (Fn.func (44 : Nat)) [] []) [AV.sl (ints (cuti ch)) (cuti ch).length (rcl r), AV.sl (ints (cuti od)) (cuti od).length (rcl q), AV.sl (pairsA (cutp s)) (cutp s).length (rcl t)] (H.mk [] [] []) = some (AV.tup [AV.sl (pairsA (wwL (cuti ch) (cuti od) (cutp s))) (wwL (cuti ch) (cuti od) (cutp s)).length (rmz (2 : Nat) (wwL (cuti ch) (cuti od) (cutp s))).wk, I (wwE (cuti ch) (cuti od) (cutp s))], H.mk [] [] []) ∧ aCall (Sof [c40.to, c21.to, c44.to, c41.to, c45.to, c46.to, c42.to, c23.to]) (AV.fn (Fn.func (41 : Nat)) [] []) [AV.sl (ints ch) ch.length r, AV.sl (ints od) od.length q] (H.mk [] [] []) = some (AV.bool true, H.mk [] [] []) ∧ aCall (Sof [c40.to, c21.to, c44.to, c41.to, c45.to, c46.to, c42.to, c23.to]) (AV.fn (Fn.func (45 : Nat)) [] []) [I (↑od.length : Int), AV.sl (pairsA s) s.length t] (H.mk [] [] []) = some (AV.bool false, H.mk [] [] []) ∧ (↑(wwL (cuti ch) (cuti od) (cutp s)).length : Int) = (0 : Int) ∧ wwE (cuti ch) (cuti od) (cutp s) = (2 : Int) ∧ aCall (Sof [c40.to, c21.to, c44.to, c41.to, c45.to, c46.to, c42.to, c23.to]) (AV.fn (Fn.func (23 : Nat)) [] []) [] (H.mk [] [] []) = some (AV.bool true, H.mk [] [] []) ∧ (AV.bool true, H.mk [] [] []) = (AV.bool true, H.mk [] [] [])) (by kernel_rfl) ?_
    refine ⟨by first | exact acall_hit (c := c40.to) (ch, r) _ rfl p40 | exact acall_hit (c := c40.to) (od, q) _ rfl o40, ?_⟩
    refine ⟨by first | exact acall_hit (c := c40.to) (ch, r) _ rfl p40 | exact acall_hit (c := c40.to) (od, q) _ rfl o40, ?_⟩
    refine ⟨acall_hit (c := c21.to) (s, t) _ rfl p21, ?_⟩
    refine ⟨acall_hit (c := c44.to) ((cuti ch, rcl r), (cuti od, rcl q), cutp s, rcl t) _ rfl p44, ?_⟩
    refine ⟨acall_b (acall_hit (c := c41.to) ((ch, r), od, q) _ rfl p41) hb, ?_⟩
    refine ⟨acall_b (acall_hit (c := c45.to) (od.length, s, t) _ rfl p45) hb2, ?_⟩
    refine ⟨by first | with_reducible assumption | omega | assumption, ?_⟩
    refine ⟨by first | with_reducible assumption | omega | assumption, ?_⟩
    refine ⟨acall_hit (c := c23.to) () _ rfl trivial, ?_⟩
    first | rfl | (exfalso; simp_all)
  · have hb := raB_f h1
    refine body_s ([Ans.o (Orc.val 11 (AV.sl (ints (cuti ch)) (cuti ch).length (rcl r)) (H.mk [] [] [])), Ans.o (Orc.val 13 (AV.sl (ints (cuti od)) (cuti od).length (rcl q)) (H.mk [] [] [])), Ans.o (Orc.val 15 (AV.sl (pairsA (cutp s)) (cutp s).length (rcl t)) (H.mk [] [] [])), Ans.o (Orc.val 16 (AV.tup [AV.sl (pairsA (wwL (cuti ch) (cuti od) (cutp s))) (wwL (cuti ch) (cuti od) (cutp s)).length (rmz (2 : Nat) (wwL (cuti ch) (cuti od) (cutp s))).wk, I (wwE (cuti ch) (cuti od) (cutp s))]) (H.mk [] [] [])), Ans.o (Orc.val 21 (AV.bool false) (H.mk [] [] [])), Ans.o (Orc.b true), Ans.o (Orc.b true), Ans.o (Orc.val 38 (AV.bool true) (H.mk [] [] []))]) (aCall (Sof [c40.to, c21.to, c44.to, c41.to, c45.to, c46.to, c42.to, c23.to]) (AV.fn (Fn.func (40 : Nat)) [] []) [AV.sl (ints ch) ch.length r] (H.mk [] [] []) = some (AV.sl (ints (cuti ch)) (cuti ch).length (rcl r), H.mk [] [] []) ∧ aCall (Sof [c40.to, c21.to, c44.to, c41.to, c45.to, c46.to, c42.to, c23.to]) (AV.fn (Fn.func (40 : Nat)) [] []) [AV.sl (ints od) od.length q] (H.mk [] [] []) = some (AV.sl (ints (cuti od)) (cuti od).length (rcl q), H.mk [] [] []) ∧ aCall (Sof [c40.to, c21.to, c44.to, c41.to, c45.to, c46.to, c42.to, c23.to]) (AV.fn (Fn.func (21 : Nat)) [] []) [AV.sl (pairsA s) s.length t] (H.mk [] [] []) = some (AV.sl (pairsA (cutp s)) (cutp s).length (rcl t), H.mk [] [] []) ∧ aCall (Sof [c40.to, c21.to, c44.to, c41.to, c45.to, c46.to, c42.to, c23.to]) (AV.fn (Fn.func (44 : Nat)) [] []) [AV.sl (ints (cuti ch)) (cuti ch).length (rcl r), AV.sl (ints (cuti od)) (cuti od).length (rcl q), AV.sl (pairsA (cutp s)) (cutp s).length (rcl t)] (H.mk [] [] []) = some (AV.tup [AV.sl (pairsA (wwL (cuti ch) (cuti od) (cutp s))) (wwL (cuti ch) (cuti od) (cutp s)).length (rmz (2 : Nat) (wwL (cuti ch) (cuti od) (cutp s))).wk, I (wwE (cuti ch) (cuti od) (cutp s))], H.mk [] [] []) ∧ aCall (Sof [c40.to, c21.to, c44.to, c41.to, c45.to, c46.to, c42.to, c23.to]) (AV.fn (Fn.func (41 : Nat)) [] []) [AV.sl (ints ch) ch.length r, AV.sl (ints od) od.length q] (H.mk [] [] []) = some (AV.bool false, H.mk [] [] []) ∧ (↑(wwL (cuti ch) (cuti od) (cutp s)).length : Int) = (0 : Int) ∧ wwE (cuti ch) (cuti od) (cutp s) = (2 : Int) ∧ aCall (Sof [c40.to, c21.to, c44.to, c41.to, c45.to, c46.to, c42.to, c23.to]) (AV.fn (Fn.func (23 : Nat)) [] []) [] (H.mk [] [] []) = some (AV.bool true, H.mk [] [] []) ∧ (AV.bool true, H.mk [] [] []) = (AV.bool true, H.mk [] [] [])) (by kernel_rfl) ?_
    refine ⟨by first | exact acall_hit (c := c40.to) (ch, r) _ rfl p40 | exact acall_hit (c := c40.to) (od, q) _ rfl o40, ?_⟩
    refine ⟨by first | exact acall_hit (c := c40.to) (ch, r) _ rfl p40 | exact acall_hit (c := c40.to) (od, q) _ rfl o40, ?_⟩
    refine ⟨acall_hit (c := c21.to) (s, t) _ rfl p21, ?_⟩
    refine ⟨acall_hit (c := c44.to) ((cuti ch, rcl r), (cuti od, rcl q), cutp s, rcl t) _ rfl p44, ?_⟩
    refine ⟨acall_b (acall_hit (c := c41.to) ((ch, r), od, q) _ rfl p41) hb, ?_⟩
    refine ⟨by first | with_reducible assumption | omega | assumption, ?_⟩
    refine ⟨by first | with_reducible assumption | omega | assumption, ?_⟩
    refine ⟨acall_hit (c := c23.to) () _ rfl trivial, ?_⟩
    first | rfl | (exfalso; simp_all)
theorem r7t (ch : List Int) (r : Room) (od : List Int) (q : Room) (s : List Pr) (t : Room) (hc : pLi ch r) (ho : pLi od q) (hs : pZ s t) (h : wwO ch od s) : Body (En6 [c40.to, c21.to, c44.to, c41.to, c45.to, c46.to, c42.to, c23.to]) none1 Try.f7 [ls ch r, ls od q, pz s t] .nil (.bool true, .nil) := by
  have p40 : lim ch.length ∧ rok ch r ∧ em ch r := ⟨hc.1.1, hc.2, hc.1.2⟩
  have o40 : lim od.length ∧ rok od q ∧ em od q := ⟨ho.1.1, ho.2, ho.1.2⟩
  have p21 : lim s.length ∧ rok s t ∧ emp s t := ⟨hs.1.1, hs.2.1, hs.1.2⟩
  have p44 : p44 (cuti ch) (rcl r) (cuti od) (rcl q) (cutp s) (rcl t) := ⟨⟨cuti_I hc, cuti_I ho⟩, cutp_M hs.2.1 hs.2.2⟩
  have p41 : p95 ch r od q := ⟨⟨hc.1.1, hc.2⟩, ho.1.1, ho.2⟩
  have hw := ww_t ((cut_ww ch od s).2 h)
  have he := hw.2
  have hcw := cut_w h
  have hl : wwL (cuti ch) (cuti od) (cutp s) = woL od s := by rw [hw.1, hcw.2.1, hcw.2.2]
  have hpw := ww_pWo h
  have hb := raB_t h.1
  have hb2 : stB od.length s = true := stB_t h.2
  have p45 : pST od.length s t := ⟨⟨hs.1.1, hs.2⟩, by have := h.1.1; omega⟩
  have p46 : pWo od s ∧ pM s t ∧ rok od q := ⟨hpw, ⟨by have := hpw.1.1.2; omega, hs.2⟩, ho.2⟩
  have p42 : p42 (wwL (cuti ch) (cuti od) (cutp s)) (rmz 2 (wwL (cuti ch) (cuti od) (cutp s))).wk (woL od s) (rmz 2 (woL od s)).wk := by
    have h5 := hpw.1.1.2
    have hlen : (woL od s).length = s.length := spl_len (woN od s s.length) (stD s) s.length
    refine ⟨⟨?_, ?_⟩, rmz_rok _, rmz_rok _⟩
    · rw [hl]; show _ ≤ _; omega
    · show _ ≤ _; omega
  have hb3 := eqB_t hl
  refine body_s ([Ans.o (Orc.val 11 (AV.sl (ints (cuti ch)) (cuti ch).length (rcl r)) (H.mk [] [] [])), Ans.o (Orc.val 13 (AV.sl (ints (cuti od)) (cuti od).length (rcl q)) (H.mk [] [] [])), Ans.o (Orc.val 15 (AV.sl (pairsA (cutp s)) (cutp s).length (rcl t)) (H.mk [] [] [])), Ans.o (Orc.val 16 (AV.tup [AV.sl (pairsA (wwL (cuti ch) (cuti od) (cutp s))) (wwL (cuti ch) (cuti od) (cutp s)).length (rmz (2 : Nat) (wwL (cuti ch) (cuti od) (cutp s))).wk, I (wwE (cuti ch) (cuti od) (cutp s))]) (H.mk [] [] [])), Ans.o (Orc.val 21 (AV.bool true) (H.mk [] [] [])), Ans.o (Orc.val 27 (AV.bool true) (H.mk [] [] [])), Ans.o (Orc.val 43 (AV.sl (pairsA (woL od s)) (woL od s).length (rmz (2 : Nat) (woL od s)).wk) (H.mk [] [] [])), Ans.o (Orc.val 44 (AV.bool true) (H.mk [] [] [])), Ans.o (Orc.b true), Ans.o (Orc.val 50 (AV.bool true) (H.mk [] [] []))]) (aCall (Sof [c40.to, c21.to, c44.to, c41.to, c45.to, c46.to, c42.to, c23.to]) (AV.fn (Fn.func (40 : Nat)) [] []) [AV.sl (ints ch) ch.length r] (H.mk [] [] []) = some (AV.sl (ints (cuti ch)) (cuti ch).length (rcl r), H.mk [] [] []) ∧ aCall (Sof [c40.to, c21.to, c44.to, c41.to, c45.to, c46.to, c42.to, c23.to]) (AV.fn (Fn.func (40 : Nat)) [] []) [AV.sl (ints od) od.length q] (H.mk [] [] []) = some (AV.sl (ints (cuti od)) (cuti od).length (rcl q), H.mk [] [] []) ∧ aCall (Sof [c40.to, c21.to, c44.to, c41.to, c45.to, c46.to, c42.to, c23.to]) (AV.fn (Fn.func (21 : Nat)) [] []) [AV.sl (pairsA s) s.length t] (H.mk [] [] []) = some (AV.sl (pairsA (cutp s)) (cutp s).length (rcl t), H.mk [] [] []) ∧ aCall (Sof [c40.to, c21.to, c44.to, c41.to, c45.to, c46.to, c42.to, c23.to]) (AV.fn (Fn.func (44 : Nat)) [] []) [AV.sl (ints (cuti ch)) (cuti ch).length (rcl r), AV.sl (ints (cuti od)) (cuti od).length (rcl q), AV.sl (pairsA (cutp s)) (cutp s).length (rcl t)] (H.mk [] [] []) = some (AV.tup [AV.sl (pairsA (wwL (cuti ch) (cuti od) (cutp s))) (wwL (cuti ch) (cuti od) (cutp s)).length (rmz (2 : Nat) (wwL (cuti ch) (cuti od) (cutp s))).wk, I (wwE (cuti ch) (cuti od) (cutp s))], H.mk [] [] []) ∧ aCall (Sof [c40.to, c21.to, c44.to, c41.to, c45.to, c46.to, c42.to, c23.to]) (AV.fn (Fn.func (41 : Nat)) [] []) [AV.sl (ints ch) ch.length r, AV.sl (ints od) od.length q] (H.mk [] [] []) = some (AV.bool true, H.mk [] [] []) ∧ aCall (Sof [c40.to, c21.to, c44.to, c41.to, c45.to, c46.to, c42.to, c23.to]) (AV.fn (Fn.func (45 : Nat)) [] []) [I (↑od.length : Int), AV.sl (pairsA s) s.length t] (H.mk [] [] []) = some (AV.bool true, H.mk [] [] []) ∧ aCall (Sof [c40.to, c21.to, c44.to, c41.to, c45.to, c46.to, c42.to, c23.to]) (AV.fn (Fn.func (46 : Nat)) [] []) [AV.sl (ints od) od.length q, AV.sl (pairsA s) s.length t] (H.mk [] [] []) = some (AV.sl (pairsA (woL od s)) (woL od s).length (rmz (2 : Nat) (woL od s)).wk, H.mk [] [] []) ∧ aCall (Sof [c40.to, c21.to, c44.to, c41.to, c45.to, c46.to, c42.to, c23.to]) (AV.fn (Fn.func (42 : Nat)) [] []) [AV.sl (pairsA (wwL (cuti ch) (cuti od) (cutp s))) (wwL (cuti ch) (cuti od) (cutp s)).length (rmz (2 : Nat) (wwL (cuti ch) (cuti od) (cutp s))).wk, AV.sl (pairsA (woL od s)) (woL od s).length (rmz (2 : Nat) (woL od s)).wk] (H.mk [] [] []) = some (AV.bool true, H.mk [] [] []) ∧ wwE (cuti ch) (cuti od) (cutp s) = (0 : Int) ∧ aCall (Sof [c40.to, c21.to, c44.to, c41.to, c45.to, c46.to, c42.to, c23.to]) (AV.fn (Fn.func (23 : Nat)) [] []) [] (H.mk [] [] []) = some (AV.bool true, H.mk [] [] []) ∧ (AV.bool true, H.mk [] [] []) = (AV.bool true, H.mk [] [] [])) (by kernel_rfl) ?_
  refine ⟨by first | exact acall_hit (c := c40.to) (ch, r) _ rfl p40 | exact acall_hit (c := c40.to) (od, q) _ rfl o40, ?_⟩
  refine ⟨by first | exact acall_hit (c := c40.to) (ch, r) _ rfl p40 | exact acall_hit (c := c40.to) (od, q) _ rfl o40, ?_⟩
  refine ⟨acall_hit (c := c21.to) (s, t) _ rfl p21, ?_⟩
  refine ⟨acall_hit (c := c44.to) ((cuti ch, rcl r), (cuti od, rcl q), cutp s, rcl t) _ rfl p44, ?_⟩
  refine ⟨acall_b (acall_hit (c := c41.to) ((ch, r), od, q) _ rfl p41) hb, ?_⟩
  refine ⟨acall_b (acall_hit (c := c45.to) (od.length, s, t) _ rfl p45) hb2, ?_⟩
  refine ⟨acall_hit (c := c46.to) ((od, q), s, t) _ rfl p46, ?_⟩
  refine ⟨acall_b (acall_hit (c := c42.to) ((wwL (cuti ch) (cuti od) (cutp s), (rmz 2 (wwL (cuti ch) (cuti od) (cutp s))).wk), woL od s, (rmz 2 (woL od s)).wk) _ rfl p42) hb3, ?_⟩
  refine ⟨by first | with_reducible assumption | omega | assumption, ?_⟩
  refine ⟨acall_hit (c := c23.to) () _ rfl trivial, ?_⟩
  first | rfl | (exfalso; simp_all)
theorem pLi_rr {l : List Int} {q : RK} (h1 : l.length ≤ Go.maxLen) (h2 : q.mt = true → l = []) : pLi l (rr q) :=
  ⟨⟨Nat.le_trans h1 (by decide), by intro e; cases q <;> simp_all [rr, RK.mt]⟩, rr_rok h2⟩
theorem worth_ok (ch od : List Int) (s : List Pr) (a b c : RK) (h1 : ch.length ≤ Go.maxLen) (h2 : a.mt = true → ch = []) (h3 : od.length ≤ Go.maxLen) (h4 : b.mt = true → od = []) (h5 : s.length ≤ Go.maxLen) (h6 : c.mt = true → s = []) (h7 : inR s) :
    CallOk Try.prog 7 [ls ch (rr a), ls od (rr b), pz s (rr c)] .nil (.bool true) .nil := by
  have hc : Ctrs Try.prog none1 [c40.to, c21.to, c44.to, c41.to, c45.to, c46.to, c42.to, c23.to] := .pure _ (.pure _ (.pure _ (.pure _ (.pure _ (.pure _ (.pure _ (.pure _ .nil)))))))
  by_cases h : wwO ch od s
  · exact (r7t ch _ od _ s _ (pLi_rr h1 h2) (pLi_rr h3 h4) (pZ_rr h5 h6 h7) h).run ok7 hc rfl
  · exact (r7f ch _ od _ s _ (pLi_rr h1 h2) (pLi_rr h3 h4) (pZ_rr h5 h6 h7) h).run ok7 hc rfl
end Go.Proofs.Bts

