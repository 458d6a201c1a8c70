/- Layer 6: the laws of After and Lie. -/
import Derived.Test.YtaobnlpfaeecnaaGsJ
import Derived.KernelRfl
set_option linter.unusedSimpArgs false
set_option linter.unusedVariables false
set_option linter.unnecessarySimpa false
set_option maxHeartbeats 4000000
set_option maxRecDepth 100000
namespace Go.Proofs.Gss
open Go Go.VM

theorem ok47b : FokM Try.prog none1 47 Try.f47 := ⟨mixed, by kernel_rfl, by kernel_rfl, by kernel_rfl, by kernel_rfl⟩
theorem r47b (x : List Int) (r : Room) (u : List Int) (r' : Room) (q : Int) (hp : ((lim x.length ∧ rok x r) ∧ rok u r') ∧ ¬ (okA x u = true ∧ q1_30 q)) : Body ⟨Try.prog, Sof (P := Try.prog) [c66.to, c67.to, c71a.to], Pof (P := Try.prog) [], H.nil.base, 300⟩ none1 Try.f47 [ls x r, ls u r', I q] .nil (.tup [.bool false, I 2], .nil) := by
  obtain ⟨⟨q1, q2⟩, hn⟩ := hp
  have p67 : (lim x.length ∧ rok x r) ∧ rok u r' := ⟨q1, q2⟩
  cases hs : stB x 200
  · refine body_s ([Ans.o (Orc.val 13 (AV.bool false) (H.mk [] [] []))]) (aCall (Sof [c66.to, c67.to, c71a.to]) (AV.fn (Fn.func (66 : Nat)) [] []) [AV.sl (ints x) x.length r] (H.mk [] [] []) = some (AV.bool false, H.mk [] [] []) ∧ (AV.tup [AV.bool false, I 2], H.mk [] [] []) = (AV.tup [AV.bool false, I 2], H.mk [] [] [])) (by kernel_rfl) ?_
    refine ⟨acall_b (acall_hit (c := c66.to) (x, r) _ rfl q1) hs, ?_⟩
    rfl
  · cases hq : quB x u
    · refine body_s ([Ans.o (Orc.val 13 (AV.bool true) (H.mk [] [] [])), Ans.o (Orc.val 18 (AV.bool false) (H.mk [] [] []))]) (aCall (Sof [c66.to, c67.to, c71a.to]) (AV.fn (Fn.func (66 : Nat)) [] []) [AV.sl (ints x) x.length r] (H.mk [] [] []) = some (AV.bool true, H.mk [] [] []) ∧ aCall (Sof [c66.to, c67.to, c71a.to]) (AV.fn (Fn.func (67 : Nat)) [] []) [AV.sl (ints u) u.length r', AV.sl (ints x) x.length r] (H.mk [] [] []) = some (AV.bool false, H.mk [] [] []) ∧ (AV.tup [AV.bool false, I 2], H.mk [] [] []) = (AV.tup [AV.bool false, I 2], H.mk [] [] [])) (by kernel_rfl) ?_
      refine ⟨acall_b (acall_hit (c := c66.to) (x, r) _ rfl q1) hs, ?_⟩
      refine ⟨acall_b (acall_hit (c := c67.to) (u, r', x, r) _ rfl p67) hq, ?_⟩
      rfl
    · have a1 : wn 1 30 [q] = false := by rw [wn_q]; exact decide_eq_false fun h => hn ⟨by simp [okA, hs, hq], h⟩
      refine body_s ([Ans.o (Orc.val 13 (AV.bool true) (H.mk [] [] [])), Ans.o (Orc.val 18 (AV.bool true) (H.mk [] [] [])), Ans.o (Orc.val 24 (AV.bool false) (H.mk [] [] []))]) (aCall (Sof [c66.to, c67.to, c71a.to]) (AV.fn (Fn.func (66 : Nat)) [] []) [AV.sl (ints x) x.length r] (H.mk [] [] []) = some (AV.bool true, H.mk [] [] []) ∧ aCall (Sof [c66.to, c67.to, c71a.to]) (AV.fn (Fn.func (67 : Nat)) [] []) [AV.sl (ints u) u.length r', AV.sl (ints x) x.length r] (H.mk [] [] []) = some (AV.bool true, H.mk [] [] []) ∧ aCall (Sof [c66.to, c67.to, c71a.to]) (AV.fn (Fn.func (71 : Nat)) [] []) [I 1, I 30, AV.sl [I q] (1 : Nat) Room.full] (H.mk [] [] []) = some (AV.bool false, H.mk [] [] []) ∧ (AV.tup [AV.bool false, I 2], H.mk [] [] []) = (AV.tup [AV.bool false, I 2], H.mk [] [] [])) (by kernel_rfl) ?_
      refine ⟨acall_b (acall_hit (c := c66.to) (x, r) _ rfl q1) hs, ?_⟩
      refine ⟨acall_b (acall_hit (c := c67.to) (u, r', x, r) _ rfl p67) hq, ?_⟩
      refine ⟨acall_b (acall_hit (c := c71a.to) (1, 30, q) _ rfl (k1 _)) a1, ?_⟩
      rfl
noncomputable def c47b : PCtr Try.prog := sctr ok47b (X := List Int × Room × List Int × Room × Int) (fun x => [ls x.1 x.2.1, ls x.2.2.1 x.2.2.2.1, I x.2.2.2.2]) (fun x => ((lim x.1.length ∧ rok x.1 x.2.1) ∧ rok x.2.2.1 x.2.2.2.1) ∧ ¬ (okA x.1 x.2.2.1 = true ∧ q1_30 x.2.2.2.2)) (fun x => .tup [.bool false, I 2]) (by intro x y e _ _; simp [Int.natCast_inj] at e; simp [e]) (fun x => by simp [AV.bnds, AV.bnd, AV.wk, rm_wk_bnd]) (fun x => by first | rfl | (simp [AV.bnd, rm_wk_bnd]; done)  | (simp [AV.bnd, AV.bnds, rm_wk_bnd]; done) | simp [AV.bnd, AV.bnds, Room.bnd, rm_wk_bnd]) (fun x hx => ⟨_, _, _, .pure c66 (.pure c67 (.pure c71a (.nil))), r47b (x.1) (x.2.1).wk (x.2.2.1) (x.2.2.2.1).wk (x.2.2.2.2) (by first | exact hx | (simp only [rok_wk]; exact hx) | (simp only [rok_wk, lst_wk]; exact hx) | (simp only [rok_wk, lst_wk, lsn_wk]; exact hx))⟩)
abbrev pq (x u : List Int) (r r' : Room) : Prop := ((rok x r ∧ x.length ≤ 4) ∧ rok u r' ∧ u.length = x.length) ∧ ∀ i, i < x.length → bq (ia x i) (ia u i)
theorem af38 {x u : List Int} (hs : stB x 200 = true) (hq : quB x u = true) (y : Bool) : rok (afV y x u) .no ∧ (afV y x u).length ≤ 4 ∧ wn 0 200 (afV y x u) = true := by
  obtain ⟨s1, s2, s3⟩ := stB_t.1 (af_st hs hq y)
  exact ⟨fun _ => no_ne, s1.2, s2⟩
theorem ok48 : FokM Try.prog none1 48 Try.f48 := ⟨mixed, by kernel_rfl, by kernel_rfl, by kernel_rfl, by kernel_rfl⟩
theorem r48 (x : List Int) (r : Room) (u : List Int) (r' : Room) (q : Int) (hp : (rok x r ∧ rok u r') ∧ okA x u = true ∧ q1_30 q) : Body ⟨Try.prog, Sof (P := Try.prog) [c40.to, c38.to], Pof (P := Try.prog) [], H.nil.base, 300⟩ none1 Try.f48 [ls x r, ls u r', I q] .nil (.bool (liV x u q), .nil) := by
  obtain ⟨⟨q1, q2⟩, q3, hk⟩ := hp
  simp only [okA, Bool.and_eq_true] at q3
  obtain ⟨hs, hq⟩ := q3
  obtain ⟨s1, s2, s3⟩ := stB_t.1 hs
  have p40 : pq x u r r' := ⟨⟨⟨q1, s1.2⟩, q2, (quB_t.1 hq).1⟩, bq_of s2 hq⟩
  have hq' : q30 (q - 1) := by omega
  have pt := af38 hs hq true
  have pf := af38 hs hq false
  by_cases hc : wj (afV false x u) (q - 1) (afV false x u).length ≤ wj (afV true x u) (q - 1) (afV true x u).length
  · have e : liV x u q = true := decide_eq_true (by rw [afV_len, afV_len] at hc; exact hc)
    rw [e]
    refine body_s ([Ans.o (Orc.val 9 (AV.sl (ints (afV true x u)) (afV true x u).length Room.no) (H.mk [] [] [])), Ans.o (Orc.val 12 (I (wj (afV true x u) (q - (1 : Int)) (afV true x u).length)) (H.mk [] [] [])), Ans.o (Orc.val 15 (AV.sl (ints (afV false x u)) (afV false x u).length Room.no) (H.mk [] [] [])), Ans.o (Orc.val 18 (I (wj (afV false x u) (q - (1 : Int)) (afV false x u).length)) (H.mk [] [] [])), Ans.o (Orc.b true)]) (aCall (Sof [c40.to, c38.to]) (AV.fn (Fn.func (40 : Nat)) [] []) [AV.sl (ints x) x.length r, AV.sl (ints u) u.length r', AV.bool true] (H.mk [] [] []) = some (AV.sl (ints (afV true x u)) (afV true x u).length Room.no, H.mk [] [] []) ∧ IntKind.i64.wrap (q - (1 : Int)) = q - (1 : Int) ∧ aCall (Sof [c40.to, c38.to]) (AV.fn (Fn.func (38 : Nat)) [] []) [AV.sl (ints (afV true x u)) (afV true x u).length Room.no, I (q - (1 : Int))] (H.mk [] [] []) = some (I (wj (afV true x u) (q - (1 : Int)) (afV true x u).length), H.mk [] [] []) ∧ aCall (Sof [c40.to, c38.to]) (AV.fn (Fn.func (40 : Nat)) [] []) [AV.sl (ints x) x.length r, AV.sl (ints u) u.length r', AV.bool false] (H.mk [] [] []) = some (AV.sl (ints (afV false x u)) (afV false x u).length Room.no, H.mk [] [] []) ∧ IntKind.i64.wrap (q - (1 : Int)) = q - (1 : Int) ∧ aCall (Sof [c40.to, c38.to]) (AV.fn (Fn.func (38 : Nat)) [] []) [AV.sl (ints (afV false x u)) (afV false x u).length Room.no, I (q - (1 : Int))] (H.mk [] [] []) = some (I (wj (afV false x u) (q - (1 : Int)) (afV false x u).length), H.mk [] [] []) ∧ wj (afV false x u) (q - (1 : Int)) (afV false x u).length ≤ wj (afV true x u) (q - (1 : Int)) (afV true x u).length ∧ (AV.bool true, H.mk [] [] []) = (AV.bool true, H.mk [] [] [])) (by kernel_rfl) ?_
    refine ⟨by first | exact acall_hit (c := c40.to) (x, r, u, r', true) _ rfl p40 | exact acall_hit (c := c40.to) (x, r, u, r', false) _ rfl p40, ?_⟩
    refine ⟨wr _ (by omega) (by omega), ?_⟩
    refine ⟨by first | exact acall_hit (c := c38.to) (afV true x u, .no, q - 1) _ rfl ⟨pt, hq'⟩ | exact acall_hit (c := c38.to) (afV false x u, .no, q - 1) _ rfl ⟨pf, hq'⟩, ?_⟩
    refine ⟨by first | exact acall_hit (c := c40.to) (x, r, u, r', true) _ rfl p40 | exact acall_hit (c := c40.to) (x, r, u, r', false) _ rfl p40, ?_⟩
    refine ⟨wr _ (by omega) (by omega), ?_⟩
    refine ⟨by first | exact acall_hit (c := c38.to) (afV true x u, .no, q - 1) _ rfl ⟨pt, hq'⟩ | exact acall_hit (c := c38.to) (afV false x u, .no, q - 1) _ rfl ⟨pf, hq'⟩, ?_⟩
    refine ⟨by first | with_reducible assumption | omega | assumption, ?_⟩
    rfl
  · have e : liV x u q = false := decide_eq_false (by rw [afV_len, afV_len] at hc; exact hc)
    have hc : wj (afV true x u) (q - 1) (afV true x u).length < wj (afV false x u) (q - 1) (afV false x u).length := by omega
    rw [e]
    refine body_s ([Ans.o (Orc.val 9 (AV.sl (ints (afV true x u)) (afV true x u).length Room.no) (H.mk [] [] [])), Ans.o (Orc.val 12 (I (wj (afV true x u) (q - (1 : Int)) (afV true x u).length)) (H.mk [] [] [])), Ans.o (Orc.val 15 (AV.sl (ints (afV false x u)) (afV false x u).length Room.no) (H.mk [] [] [])), Ans.o (Orc.val 18 (I (wj (afV false x u) (q - (1 : Int)) (afV false x u).length)) (H.mk [] [] [])), Ans.o (Orc.b false)]) (aCall (Sof [c40.to, c38.to]) (AV.fn (Fn.func (40 : Nat)) [] []) [AV.sl (ints x) x.length r, AV.sl (ints u) u.length r', AV.bool true] (H.mk [] [] []) = some (AV.sl (ints (afV true x u)) (afV true x u).length Room.no, H.mk [] [] []) ∧ IntKind.i64.wrap (q - (1 : Int)) = q - (1 : Int) ∧ aCall (Sof [c40.to, c38.to]) (AV.fn (Fn.func (38 : Nat)) [] []) [AV.sl (ints (afV true x u)) (afV true x u).length Room.no, I (q - (1 : Int))] (H.mk [] [] []) = some (I (wj (afV true x u) (q - (1 : Int)) (afV true x u).length), H.mk [] [] []) ∧ aCall (Sof [c40.to, c38.to]) (AV.fn (Fn.func (40 : Nat)) [] []) [AV.sl (ints x) x.length r, AV.sl (ints u) u.length r', AV.bool false] (H.mk [] [] []) = some (AV.sl (ints (afV false x u)) (afV false x u).length Room.no, H.mk [] [] []) ∧ IntKind.i64.wrap (q - (1 : Int)) = q - (1 : Int) ∧ aCall (Sof [c40.to, c38.to]) (AV.fn (Fn.func (38 : Nat)) [] []) [AV.sl (ints (afV false x u)) (afV false x u).length Room.no, I (q - (1 : Int))] (H.mk [] [] []) = some (I (wj (afV false x u) (q - (1 : Int)) (afV false x u).length), H.mk [] [] []) ∧ wj (afV true x u) (q - (1 : Int)) (afV true x u).length < wj (afV false x u) (q - (1 : Int)) (afV false x u).length ∧ (AV.bool false, H.mk [] [] []) = (AV.bool false, H.mk [] [] [])) (by kernel_rfl) ?_
    refine ⟨by first | exact acall_hit (c := c40.to) (x, r, u, r', true) _ rfl p40 | exact acall_hit (c := c40.to) (x, r, u, r', false) _ rfl p40, ?_⟩
    refine ⟨wr _ (by omega) (by omega), ?_⟩
    refine ⟨by first | exact acall_hit (c := c38.to) (afV true x u, .no, q - 1) _ rfl ⟨pt, hq'⟩ | exact acall_hit (c := c38.to) (afV false x u, .no, q - 1) _ rfl ⟨pf, hq'⟩, ?_⟩
    refine ⟨by first | exact acall_hit (c := c40.to) (x, r, u, r', true) _ rfl p40 | exact acall_hit (c := c40.to) (x, r, u, r', false) _ rfl p40, ?_⟩
    refine ⟨wr _ (by omega) (by omega), ?_⟩
    refine ⟨by first | exact acall_hit (c := c38.to) (afV true x u, .no, q - 1) _ rfl ⟨pt, hq'⟩ | exact acall_hit (c := c38.to) (afV false x u, .no, q - 1) _ rfl ⟨pf, hq'⟩, ?_⟩
    refine ⟨by first | with_reducible assumption | omega | assumption, ?_⟩
    rfl
noncomputable def c48 : PCtr Try.prog := sctr ok48 (X := List Int × Room × List Int × Room × Int) (fun x => [ls x.1 x.2.1, ls x.2.2.1 x.2.2.2.1, I x.2.2.2.2]) (fun x => (rok x.1 x.2.1 ∧ rok x.2.2.1 x.2.2.2.1) ∧ okA x.1 x.2.2.1 = true ∧ q1_30 x.2.2.2.2) (fun x => .bool (liV x.1 x.2.2.1 x.2.2.2.2)) (by intro x y e _ _; simp [Int.natCast_inj] at e; simp [e]) (fun x => by simp [AV.bnds, AV.bnd, AV.wk, rm_wk_bnd]) (fun x => by first | rfl | (simp [AV.bnd, rm_wk_bnd]; done)  | (simp [AV.bnd, AV.bnds, rm_wk_bnd]; done) | simp [AV.bnd, AV.bnds, Room.bnd, rm_wk_bnd]) (fun x hx => ⟨_, _, _, .pure c40 (.pure c38 (.nil)), r48 (x.1) (x.2.1).wk (x.2.2.1) (x.2.2.2.1).wk (x.2.2.2.2) (by first | exact hx | (simp only [rok_wk]; exact hx) | (simp only [rok_wk, lst_wk]; exact hx) | (simp only [rok_wk, lst_wk, lsn_wk]; exact hx))⟩)
/-- what is asked of a list that comes in -/
abbrev inc (x : List Int) (r : Room) : Prop := lim x.length ∧ rok x r ∧ em x r
theorem inc_rr {x : List Int} {q : RK} (h1 : lim x.length) (h2 : q.mt = true → x = []) : inc x (rr q) :=
  ⟨h1, rr_rok h2, fun h => by cases q <;> simp [rr] at h; exact h2 rfl⟩
theorem cut_id {x : List Int} (h : x.length ≤ 7) : cut x = x := List.take_of_length_le h
theorem cut_lim' {x : List Int} {r : Room} (h : inc x r) : lim (cut x).length ∧ rok (cut x) (rcl r) :=
  ⟨cut_lim x, fun hne => rcl_rok h.2.1 (fun e => hne (by rw [e]; rfl))⟩
theorem stB_cut (x : List Int) (m : Int) : stB (cut x) m = stB x m := by
  by_cases h : x.length ≤ 7
  · rw [cut_id h]
  · have h1 : stB x m = false := by simp [stB, l4]; omega
    have h2 : stB (cut x) m = false := by simp [stB, l4]; omega
    rw [h1, h2]
theorem quB_cut {x : List Int} (hx : x.length ≤ 4) (u : List Int) : quB x (cut u) = quB x u := by
  by_cases h : u.length ≤ 7
  · rw [cut_id h]
  · rw [quB_len (q := cut u) (by rw [List.length_take]; omega), quB_len (q := u) (by omega)]
theorem okA_cut (x u : List Int) : okA (cut x) (cut u) = okA x u := by
  simp only [okA, stB_cut]
  cases hs : stB x 200
  · rfl
  · have h4 := (stB_t.1 hs).1
    rw [cut_id (by omega : x.length ≤ 7), quB_cut h4.2]
theorem ok9 : FokM Try.prog none1 9 Try.f9 := ⟨mixed, by kernel_rfl, by kernel_rfl, by kernel_rfl, by kernel_rfl⟩
abbrev p34 (x u : List Int) (r r' : Room) : Prop := ((lim x.length ∧ rok x r) ∧ rok u r')
theorem r9s (x : List Int) (r : Room) (u : List Int) (r' : Room) (k : Int) (px : inc x r) (pu : inc u r') (hS : stB x 200 = false) : Body (En6 [c35.to, c47b.to, c37.to, c20.to]) none1 Try.f9 [ls x r, ls u r', I k] .nil (.bool true, .nil) := by
  have p37 : (lim x.length ∧ rok x r) ∧ 0 ≤ (200 : Int) ∧ (200 : Int) ≤ 200 := ⟨⟨px.1, px.2.1⟩, by omega⟩
  have p39 : (lim x.length ∧ rok x r) ∧ lim u.length ∧ rok u r' := ⟨⟨px.1, px.2.1⟩, pu.1, pu.2.1⟩
  have q34 : p34 (cut x) (cut u) (rcl r) (rcl r') := ⟨cut_lim' px, (cut_lim' pu).2⟩
  have hB : ¬ (okA (cut x) (cut u) = true ∧ q1_30 k) := by rw [okA_cut]; simp only [okA, Bool.and_eq_true]; intro h; rw [hS] at h; cases h.1.1
  refine body_s ([Ans.o (Orc.val 11 (AV.sl (ints (cut x)) (cut x).length (rcl r)) (H.mk [] [] [])), Ans.o (Orc.val 13 (AV.sl (ints (cut u)) (cut u).length (rcl r')) (H.mk [] [] [])), Ans.o (Orc.val 15 (AV.tup [AV.bool false, I 2]) (H.mk [] [] [])), Ans.o (Orc.val 19 (AV.bool false) (H.mk [] [] [])), Ans.o Orc.dflt, Ans.o (Orc.val 42 (AV.bool true) (H.mk [] [] []))]) (aCall (Sof [c35.to, c47b.to, c37.to, c20.to]) (AV.fn (Fn.func (35 : Nat)) [] []) [AV.sl (ints x) x.length r] (H.mk [] [] []) = some (AV.sl (ints (cut x)) (cut x).length (rcl r), H.mk [] [] []) ∧ aCall (Sof [c35.to, c47b.to, c37.to, c20.to]) (AV.fn (Fn.func (35 : Nat)) [] []) [AV.sl (ints u) u.length r'] (H.mk [] [] []) = some (AV.sl (ints (cut u)) (cut u).length (rcl r'), H.mk [] [] []) ∧ aCall (Sof [c35.to, c47b.to, c37.to, c20.to]) (AV.fn (Fn.func (47 : Nat)) [] []) [AV.sl (ints (cut x)) (cut x).length (rcl r), AV.sl (ints (cut u)) (cut u).length (rcl r'), I k] (H.mk [] [] []) = some (AV.tup [AV.bool false, I 2], H.mk [] [] []) ∧ aCall (Sof [c35.to, c47b.to, c37.to, c20.to]) (AV.fn (Fn.func (37 : Nat)) [] []) [AV.sl (ints x) x.length r, I 200] (H.mk [] [] []) = some (AV.bool false, H.mk [] [] []) ∧ aCall (Sof [c35.to, c47b.to, c37.to, c20.to]) (AV.fn (Fn.func (20 : Nat)) [] []) [] (H.mk [] [] []) = some (AV.bool true, H.mk [] [] []) ∧ (AV.bool true, H.mk [] [] []) = (AV.bool true, H.mk [] [] [])) (by kernel_rfl) ?_
  refine ⟨by first | exact acall_hit (c := c35.to) (x, r) _ rfl px | exact acall_hit (c := c35.to) (u, r') _ rfl pu, ?_⟩
  refine ⟨by first | exact acall_hit (c := c35.to) (x, r) _ rfl px | exact acall_hit (c := c35.to) (u, r') _ rfl pu, ?_⟩
  refine ⟨acall_hit (c := c47b.to) (cut x, rcl r, cut u, rcl r', k) _ rfl ⟨q34, hB⟩, ?_⟩
  refine ⟨acall_b (acall_hit (c := c37.to) (x, r, 200) _ rfl p37) hS, ?_⟩
  refine ⟨acall_hit (c := c20.to) () _ rfl trivial, ?_⟩
  rfl
theorem r9q (x : List Int) (r : Room) (u : List Int) (r' : Room) (k : Int) (px : inc x r) (pu : inc u r') (hS : stB x 200 = true) (hQ : quB x u = false) : Body (En6 [c35.to, c47b.to, c37.to, c39.to, c20.to]) none1 Try.f9 [ls x r, ls u r', I k] .nil (.bool true, .nil) := by
  have p37 : (lim x.length ∧ rok x r) ∧ 0 ≤ (200 : Int) ∧ (200 : Int) ≤ 200 := ⟨⟨px.1, px.2.1⟩, by omega⟩
  have p39 : (lim x.length ∧ rok x r) ∧ lim u.length ∧ rok u r' := ⟨⟨px.1, px.2.1⟩, pu.1, pu.2.1⟩
  have q34 : p34 (cut x) (cut u) (rcl r) (rcl r') := ⟨cut_lim' px, (cut_lim' pu).2⟩
  have hB : ¬ (okA (cut x) (cut u) = true ∧ q1_30 k) := by rw [okA_cut]; simp only [okA, Bool.and_eq_true]; intro h; rw [hQ] at h; cases h.1.2
  refine body_s ([Ans.o (Orc.val 11 (AV.sl (ints (cut x)) (cut x).length (rcl r)) (H.mk [] [] [])), Ans.o (Orc.val 13 (AV.sl (ints (cut u)) (cut u).length (rcl r')) (H.mk [] [] [])), Ans.o (Orc.val 15 (AV.tup [AV.bool false, I 2]) (H.mk [] [] [])), Ans.o (Orc.val 19 (AV.bool true) (H.mk [] [] [])), Ans.o (Orc.val 24 (AV.bool false) (H.mk [] [] [])), Ans.o Orc.dflt, Ans.o (Orc.val 42 (AV.bool true) (H.mk [] [] []))]) (aCall (Sof [c35.to, c47b.to, c37.to, c39.to, c20.to]) (AV.fn (Fn.func (35 : Nat)) [] []) [AV.sl (ints x) x.length r] (H.mk [] [] []) = some (AV.sl (ints (cut x)) (cut x).length (rcl r), H.mk [] [] []) ∧ aCall (Sof [c35.to, c47b.to, c37.to, c39.to, c20.to]) (AV.fn (Fn.func (35 : Nat)) [] []) [AV.sl (ints u) u.length r'] (H.mk [] [] []) = some (AV.sl (ints (cut u)) (cut u).length (rcl r'), H.mk [] [] []) ∧ aCall (Sof [c35.to, c47b.to, c37.to, c39.to, c20.to]) (AV.fn (Fn.func (47 : Nat)) [] []) [AV.sl (ints (cut x)) (cut x).length (rcl r), AV.sl (ints (cut u)) (cut u).length (rcl r'), I k] (H.mk [] [] []) = some (AV.tup [AV.bool false, I 2], H.mk [] [] []) ∧ aCall (Sof [c35.to, c47b.to, c37.to, c39.to, c20.to]) (AV.fn (Fn.func (37 : Nat)) [] []) [AV.sl (ints x) x.length r, I 200] (H.mk [] [] []) = some (AV.bool true, H.mk [] [] []) ∧ aCall (Sof [c35.to, c47b.to, c37.to, c39.to, c20.to]) (AV.fn (Fn.func (39 : Nat)) [] []) [AV.sl (ints x) x.length r, AV.sl (ints u) u.length r'] (H.mk [] [] []) = some (AV.bool false, H.mk [] [] []) ∧ aCall (Sof [c35.to, c47b.to, c37.to, c39.to, c20.to]) (AV.fn (Fn.func (20 : Nat)) [] []) [] (H.mk [] [] []) = some (AV.bool true, H.mk [] [] []) ∧ (AV.bool true, H.mk [] [] []) = (AV.bool true, H.mk [] [] [])) (by kernel_rfl) ?_
  refine ⟨by first | exact acall_hit (c := c35.to) (x, r) _ rfl px | exact acall_hit (c := c35.to) (u, r') _ rfl pu, ?_⟩
  refine ⟨by first | exact acall_hit (c := c35.to) (x, r) _ rfl px | exact acall_hit (c := c35.to) (u, r') _ rfl pu, ?_⟩
  refine ⟨acall_hit (c := c47b.to) (cut x, rcl r, cut u, rcl r', k) _ rfl ⟨q34, hB⟩, ?_⟩
  refine ⟨acall_b (acall_hit (c := c37.to) (x, r, 200) _ rfl p37) hS, ?_⟩
  refine ⟨acall_b (acall_hit (c := c39.to) (x, r, u, r') _ rfl p39) hQ, ?_⟩
  refine ⟨acall_hit (c := c20.to) () _ rfl trivial, ?_⟩
  rfl
theorem r9l (x : List Int) (r : Room) (u : List Int) (r' : Room) (k : Int) (px : inc x r) (pu : inc u r') (hS : stB x 200 = true) (hQ : quB x u = true) (hK : k < 1) : Body (En6 [c35.to, c47b.to, c37.to, c39.to, c20.to]) none1 Try.f9 [ls x r, ls u r', I k] .nil (.bool true, .nil) := by
  have p37 : (lim x.length ∧ rok x r) ∧ 0 ≤ (200 : Int) ∧ (200 : Int) ≤ 200 := ⟨⟨px.1, px.2.1⟩, by omega⟩
  have p39 : (lim x.length ∧ rok x r) ∧ lim u.length ∧ rok u r' := ⟨⟨px.1, px.2.1⟩, pu.1, pu.2.1⟩
  have q34 : p34 (cut x) (cut u) (rcl r) (rcl r') := ⟨cut_lim' px, (cut_lim' pu).2⟩
  have hB : ¬ (okA (cut x) (cut u) = true ∧ q1_30 k) := by rw [okA_cut]; simp only [okA, Bool.and_eq_true]; intro h; have := h.2; omega
  refine body_s ([Ans.o (Orc.val 11 (AV.sl (ints (cut x)) (cut x).length (rcl r)) (H.mk [] [] [])), Ans.o (Orc.val 13 (AV.sl (ints (cut u)) (cut u).length (rcl r')) (H.mk [] [] [])), Ans.o (Orc.val 15 (AV.tup [AV.bool false, I 2]) (H.mk [] [] [])), Ans.o (Orc.val 19 (AV.bool true) (H.mk [] [] [])), Ans.o (Orc.val 24 (AV.bool true) (H.mk [] [] [])), Ans.o (Orc.b true), Ans.o Orc.dflt, Ans.o (Orc.val 42 (AV.bool true) (H.mk [] [] []))]) (aCall (Sof [c35.to, c47b.to, c37.to, c39.to, c20.to]) (AV.fn (Fn.func (35 : Nat)) [] []) [AV.sl (ints x) x.length r] (H.mk [] [] []) = some (AV.sl (ints (cut x)) (cut x).length (rcl r), H.mk [] [] []) ∧ aCall (Sof [c35.to, c47b.to, c37.to, c39.to, c20.to]) (AV.fn (Fn.func (35 : Nat)) [] []) [AV.sl (ints u) u.length r'] (H.mk [] [] []) = some (AV.sl (ints (cut u)) (cut u).length (rcl r'), H.mk [] [] []) ∧ aCall (Sof [c35.to, c47b.to, c37.to, c39.to, c20.to]) (AV.fn (Fn.func (47 : Nat)) [] []) [AV.sl (ints (cut x)) (cut x).length (rcl r), AV.sl (ints (cut u)) (cut u).length (rcl r'), I k] (H.mk [] [] []) = some (AV.tup [AV.bool false, I 2], H.mk [] [] []) ∧ aCall (Sof [c35.to, c47b.to, c37.to, c39.to, c20.to]) (AV.fn (Fn.func (37 : Nat)) [] []) [AV.sl (ints x) x.length r, I 200] (H.mk [] [] []) = some (AV.bool true, H.mk [] [] []) ∧ aCall (Sof [c35.to, c47b.to, c37.to, c39.to, c20.to]) (AV.fn (Fn.func (39 : Nat)) [] []) [AV.sl (ints x) x.length r, AV.sl (ints u) u.length r'] (H.mk [] [] []) = some (AV.bool true, H.mk [] [] []) ∧ k < (1 : Int) ∧ aCall (Sof [c35.to, c47b.to, c37.to, c39.to, c20.to]) (AV.fn (Fn.func (20 : Nat)) [] []) [] (H.mk [] [] []) = some (AV.bool true, H.mk [] [] []) ∧ (AV.bool true, H.mk [] [] []) = (AV.bool true, H.mk [] [] [])) (by kernel_rfl) ?_
  refine ⟨by first | exact acall_hit (c := c35.to) (x, r) _ rfl px | exact acall_hit (c := c35.to) (u, r') _ rfl pu, ?_⟩
  refine ⟨by first | exact acall_hit (c := c35.to) (x, r) _ rfl px | exact acall_hit (c := c35.to) (u, r') _ rfl pu, ?_⟩
  refine ⟨acall_hit (c := c47b.to) (cut x, rcl r, cut u, rcl r', k) _ rfl ⟨q34, hB⟩, ?_⟩
  refine ⟨acall_b (acall_hit (c := c37.to) (x, r, 200) _ rfl p37) hS, ?_⟩
  refine ⟨acall_b (acall_hit (c := c39.to) (x, r, u, r') _ rfl p39) hQ, ?_⟩
  refine ⟨by first | with_reducible assumption | omega | assumption, ?_⟩
  refine ⟨acall_hit (c := c20.to) () _ rfl trivial, ?_⟩
  rfl
theorem r9h (x : List Int) (r : Room) (u : List Int) (r' : Room) (k : Int) (px : inc x r) (pu : inc u r') (hS : stB x 200 = true) (hQ : quB x u = true) (hK0 : 1 ≤ k) (hK : 30 < k) : Body (En6 [c35.to, c47b.to, c37.to, c39.to, c20.to]) none1 Try.f9 [ls x r, ls u r', I k] .nil (.bool true, .nil) := by
  have p37 : (lim x.length ∧ rok x r) ∧ 0 ≤ (200 : Int) ∧ (200 : Int) ≤ 200 := ⟨⟨px.1, px.2.1⟩, by omega⟩
  have p39 : (lim x.length ∧ rok x r) ∧ lim u.length ∧ rok u r' := ⟨⟨px.1, px.2.1⟩, pu.1, pu.2.1⟩
  have q34 : p34 (cut x) (cut u) (rcl r) (rcl r') := ⟨cut_lim' px, (cut_lim' pu).2⟩
  have hB : ¬ (okA (cut x) (cut u) = true ∧ q1_30 k) := by rw [okA_cut]; simp only [okA, Bool.and_eq_true]; intro h; have := h.2; omega
  refine body_s ([Ans.o (Orc.val 11 (AV.sl (ints (cut x)) (cut x).length (rcl r)) (H.mk [] [] [])), Ans.o (Orc.val 13 (AV.sl (ints (cut u)) (cut u).length (rcl r')) (H.mk [] [] [])), Ans.o (Orc.val 15 (AV.tup [AV.bool false, I 2]) (H.mk [] [] [])), Ans.o (Orc.val 19 (AV.bool true) (H.mk [] [] [])), Ans.o (Orc.val 24 (AV.bool true) (H.mk [] [] [])), Ans.o (Orc.b false), Ans.o (Orc.b true), Ans.o Orc.dflt, Ans.o (Orc.val 42 (AV.bool true) (H.mk [] [] []))]) (aCall (Sof [c35.to, c47b.to, c37.to, c39.to, c20.to]) (AV.fn (Fn.func (35 : Nat)) [] []) [AV.sl (ints x) x.length r] (H.mk [] [] []) = some (AV.sl (ints (cut x)) (cut x).length (rcl r), H.mk [] [] []) ∧ aCall (Sof [c35.to, c47b.to, c37.to, c39.to, c20.to]) (AV.fn (Fn.func (35 : Nat)) [] []) [AV.sl (ints u) u.length r'] (H.mk [] [] []) = some (AV.sl (ints (cut u)) (cut u).length (rcl r'), H.mk [] [] []) ∧ aCall (Sof [c35.to, c47b.to, c37.to, c39.to, c20.to]) (AV.fn (Fn.func (47 : Nat)) [] []) [AV.sl (ints (cut x)) (cut x).length (rcl r), AV.sl (ints (cut u)) (cut u).length (rcl r'), I k] (H.mk [] [] []) = some (AV.tup [AV.bool false, I 2], H.mk [] [] []) ∧ aCall (Sof [c35.to, c47b.to, c37.to, c39.to, c20.to]) (AV.fn (Fn.func (37 : Nat)) [] []) [AV.sl (ints x) x.length r, I 200] (H.mk [] [] []) = some (AV.bool true, H.mk [] [] []) ∧ aCall (Sof [c35.to, c47b.to, c37.to, c39.to, c20.to]) (AV.fn (Fn.func (39 : Nat)) [] []) [AV.sl (ints x) x.length r, AV.sl (ints u) u.length r'] (H.mk [] [] []) = some (AV.bool true, H.mk [] [] []) ∧ (1 : Int) ≤ k ∧ (30 : Int) < k ∧ aCall (Sof [c35.to, c47b.to, c37.to, c39.to, c20.to]) (AV.fn (Fn.func (20 : Nat)) [] []) [] (H.mk [] [] []) = some (AV.bool true, H.mk [] [] []) ∧ (AV.bool true, H.mk [] [] []) = (AV.bool true, H.mk [] [] [])) (by kernel_rfl) ?_
  refine ⟨by first | exact acall_hit (c := c35.to) (x, r) _ rfl px | exact acall_hit (c := c35.to) (u, r') _ rfl pu, ?_⟩
  refine ⟨by first | exact acall_hit (c := c35.to) (x, r) _ rfl px | exact acall_hit (c := c35.to) (u, r') _ rfl pu, ?_⟩
  refine ⟨acall_hit (c := c47b.to) (cut x, rcl r, cut u, rcl r', k) _ rfl ⟨q34, hB⟩, ?_⟩
  refine ⟨acall_b (acall_hit (c := c37.to) (x, r, 200) _ rfl p37) hS, ?_⟩
  refine ⟨acall_b (acall_hit (c := c39.to) (x, r, u, r') _ rfl p39) hQ, ?_⟩
  refine ⟨by first | with_reducible assumption | omega | assumption, ?_⟩
  refine ⟨by first | with_reducible assumption | omega | assumption, ?_⟩
  refine ⟨acall_hit (c := c20.to) () _ rfl trivial, ?_⟩
  rfl
theorem r9g (x : List Int) (r : Room) (u : List Int) (r' : Room) (k : Int) (px : inc x r) (pu : inc u r') (hS : stB x 200 = true) (hQ : quB x u = true) (hK : q1_30 k) (w : Bool) (hL : liV x u k = w) : Body (En6 [c35.to, c47g.to, c37.to, c39.to, c48.to, c20.to]) none1 Try.f9 [ls x r, ls u r', I k] .nil (.bool true, .nil) := by
  have p37 : (lim x.length ∧ rok x r) ∧ 0 ≤ (200 : Int) ∧ (200 : Int) ≤ 200 := ⟨⟨px.1, px.2.1⟩, by omega⟩
  have p39 : (lim x.length ∧ rok x r) ∧ lim u.length ∧ rok u r' := ⟨⟨px.1, px.2.1⟩, pu.1, pu.2.1⟩
  have q34 : p34 (cut x) (cut u) (rcl r) (rcl r') := ⟨cut_lim' px, (cut_lim' pu).2⟩
  obtain ⟨s1, s2, s3⟩ := stB_t.1 hS
  have hcx : cut x = x := cut_id (by omega)
  have hK1 := hK.1
  have hK2 := hK.2
  have hA : okA (cut x) (cut u) = true := by rw [okA_cut]; simp [okA, hS, hQ]
  have hB : okA (cut x) (cut u) = true ∧ q1_30 k := ⟨hA, hK⟩
  have hcu : cut u = u := cut_id (by have := (quB_t.1 hQ).1; omega)
  have p48 : (rok x r ∧ rok u r') ∧ okA x u = true ∧ q1_30 k := ⟨⟨px.2.1, pu.2.1⟩, by simp [okA, hS, hQ], hK⟩
  have hL2 : liV (cut x) (cut u) k = w := by rw [hcx, hcu]; exact hL
  cases w
  · refine body_s ([Ans.o (Orc.val 11 (AV.sl (ints (cut x)) (cut x).length (rcl r)) (H.mk [] [] [])), Ans.o (Orc.val 13 (AV.sl (ints (cut u)) (cut u).length (rcl r')) (H.mk [] [] [])), Ans.o (Orc.val 15 (AV.tup [AV.bool (liV (cut x) (cut u) k), I 0]) (H.mk [] [] [])), Ans.btold (16 : Nat) false, Ans.o (Orc.val 19 (AV.bool true) (H.mk [] [] [])), Ans.o (Orc.val 24 (AV.bool true) (H.mk [] [] [])), Ans.o (Orc.b false), Ans.o (Orc.b false), Ans.o (Orc.val 48 (AV.bool false) (H.mk [] [] [])), Ans.o Orc.dflt, Ans.o (Orc.val 55 (AV.bool true) (H.mk [] [] []))]) (aCall (Sof [c35.to, c47g.to, c37.to, c39.to, c48.to, c20.to]) (AV.fn (Fn.func (35 : Nat)) [] []) [AV.sl (ints x) x.length r] (H.mk [] [] []) = some (AV.sl (ints (cut x)) (cut x).length (rcl r), H.mk [] [] []) ∧ aCall (Sof [c35.to, c47g.to, c37.to, c39.to, c48.to, c20.to]) (AV.fn (Fn.func (35 : Nat)) [] []) [AV.sl (ints u) u.length r'] (H.mk [] [] []) = some (AV.sl (ints (cut u)) (cut u).length (rcl r'), H.mk [] [] []) ∧ aCall (Sof [c35.to, c47g.to, c37.to, c39.to, c48.to, c20.to]) (AV.fn (Fn.func (47 : Nat)) [] []) [AV.sl (ints (cut x)) (cut x).length (rcl r), AV.sl (ints (cut u)) (cut u).length (rcl r'), I k] (H.mk [] [] []) = some (AV.tup [AV.bool (liV (cut x) (cut u) k), I 0], H.mk [] [] []) ∧ liV (cut x) (cut u) k = false ∧ aCall (Sof [c35.to, c47g.to, c37.to, c39.to, c48.to, c20.to]) (AV.fn (Fn.func (37 : Nat)) [] []) [AV.sl (ints x) x.length r, I 200] (H.mk [] [] []) = some (AV.bool true, H.mk [] [] []) ∧ aCall (Sof [c35.to, c47g.to, c37.to, c39.to, c48.to, c20.to]) (AV.fn (Fn.func (39 : Nat)) [] []) [AV.sl (ints x) x.length r, AV.sl (ints u) u.length r'] (H.mk [] [] []) = some (AV.bool true, H.mk [] [] []) ∧ (1 : Int) ≤ k ∧ k ≤ (30 : Int) ∧ aCall (Sof [c35.to, c47g.to, c37.to, c39.to, c48.to, c20.to]) (AV.fn (Fn.func (48 : Nat)) [] []) [AV.sl (ints x) x.length r, AV.sl (ints u) u.length r', I k] (H.mk [] [] []) = some (AV.bool false, H.mk [] [] []) ∧ aCall (Sof [c35.to, c47g.to, c37.to, c39.to, c48.to, c20.to]) (AV.fn (Fn.func (20 : Nat)) [] []) [] (H.mk [] [] []) = some (AV.bool true, H.mk [] [] []) ∧ (AV.bool true, H.mk [] [] []) = (AV.bool true, H.mk [] [] [])) (by kernel_rfl) ?_
    refine ⟨by first | exact acall_hit (c := c35.to) (x, r) _ rfl px | exact acall_hit (c := c35.to) (u, r') _ rfl pu, ?_⟩
    refine ⟨by first | exact acall_hit (c := c35.to) (x, r) _ rfl px | exact acall_hit (c := c35.to) (u, r') _ rfl pu, ?_⟩
    refine ⟨acall_hit (c := c47g.to) (cut x, rcl r, cut u, rcl r', k) _ rfl ⟨q34, hB⟩, ?_⟩
    refine ⟨by first | with_reducible assumption | omega | assumption, ?_⟩
    refine ⟨acall_b (acall_hit (c := c37.to) (x, r, 200) _ rfl p37) hS, ?_⟩
    refine ⟨acall_b (acall_hit (c := c39.to) (x, r, u, r') _ rfl p39) hQ, ?_⟩
    refine ⟨by first | with_reducible assumption | omega | assumption, ?_⟩
    refine ⟨by first | with_reducible assumption | omega | assumption, ?_⟩
    refine ⟨acall_b (acall_hit (c := c48.to) (x, r, u, r', k) _ rfl p48) hL, ?_⟩
    refine ⟨acall_hit (c := c20.to) () _ rfl trivial, ?_⟩
    rfl
  · refine body_s ([Ans.o (Orc.val 11 (AV.sl (ints (cut x)) (cut x).length (rcl r)) (H.mk [] [] [])), Ans.o (Orc.val 13 (AV.sl (ints (cut u)) (cut u).length (rcl r')) (H.mk [] [] [])), Ans.o (Orc.val 15 (AV.tup [AV.bool (liV (cut x) (cut u) k), I 0]) (H.mk [] [] [])), Ans.btold (16 : Nat) true, Ans.o (Orc.val 19 (AV.bool true) (H.mk [] [] [])), Ans.o (Orc.val 24 (AV.bool true) (H.mk [] [] [])), Ans.o (Orc.b false), Ans.o (Orc.b false), Ans.o (Orc.val 48 (AV.bool true) (H.mk [] [] [])), Ans.o Orc.dflt, Ans.o (Orc.val 55 (AV.bool true) (H.mk [] [] []))]) (aCall (Sof [c35.to, c47g.to, c37.to, c39.to, c48.to, c20.to]) (AV.fn (Fn.func (35 : Nat)) [] []) [AV.sl (ints x) x.length r] (H.mk [] [] []) = some (AV.sl (ints (cut x)) (cut x).length (rcl r), H.mk [] [] []) ∧ aCall (Sof [c35.to, c47g.to, c37.to, c39.to, c48.to, c20.to]) (AV.fn (Fn.func (35 : Nat)) [] []) [AV.sl (ints u) u.length r'] (H.mk [] [] []) = some (AV.sl (ints (cut u)) (cut u).length (rcl r'), H.mk [] [] []) ∧ aCall (Sof [c35.to, c47g.to, c37.to, c39.to, c48.to, c20.to]) (AV.fn (Fn.func (47 : Nat)) [] []) [AV.sl (ints (cut x)) (cut x).length (rcl r), AV.sl (ints (cut u)) (cut u).length (rcl r'), I k] (H.mk [] [] []) = some (AV.tup [AV.bool (liV (cut x) (cut u) k), I 0], H.mk [] [] []) ∧ liV (cut x) (cut u) k = true ∧ aCall (Sof [c35.to, c47g.to, c37.to, c39.to, c48.to, c20.to]) (AV.fn (Fn.func (37 : Nat)) [] []) [AV.sl (ints x) x.length r, I 200] (H.mk [] [] []) = some (AV.bool true, H.mk [] [] []) ∧ aCall (Sof [c35.to, c47g.to, c37.to, c39.to, c48.to, c20.to]) (AV.fn (Fn.func (39 : Nat)) [] []) [AV.sl (ints x) x.length r, AV.sl (ints u) u.length r'] (H.mk [] [] []) = some (AV.bool true, H.mk [] [] []) ∧ (1 : Int) ≤ k ∧ k ≤ (30 : Int) ∧ aCall (Sof [c35.to, c47g.to, c37.to, c39.to, c48.to, c20.to]) (AV.fn (Fn.func (48 : Nat)) [] []) [AV.sl (ints x) x.length r, AV.sl (ints u) u.length r', I k] (H.mk [] [] []) = some (AV.bool true, H.mk [] [] []) ∧ aCall (Sof [c35.to, c47g.to, c37.to, c39.to, c48.to, c20.to]) (AV.fn (Fn.func (20 : Nat)) [] []) [] (H.mk [] [] []) = some (AV.bool true, H.mk [] [] []) ∧ (AV.bool true, H.mk [] [] []) = (AV.bool true, H.mk [] [] [])) (by kernel_rfl) ?_
    refine ⟨by first | exact acall_hit (c := c35.to) (x, r) _ rfl px | exact acall_hit (c := c35.to) (u, r') _ rfl pu, ?_⟩
    refine ⟨by first | exact acall_hit (c := c35.to) (x, r) _ rfl px | exact acall_hit (c := c35.to) (u, r') _ rfl pu, ?_⟩
    refine ⟨acall_hit (c := c47g.to) (cut x, rcl r, cut u, rcl r', k) _ rfl ⟨q34, hB⟩, ?_⟩
    refine ⟨by first | with_reducible assumption | omega | assumption, ?_⟩
    refine ⟨acall_b (acall_hit (c := c37.to) (x, r, 200) _ rfl p37) hS, ?_⟩
    refine ⟨acall_b (acall_hit (c := c39.to) (x, r, u, r') _ rfl p39) hQ, ?_⟩
    refine ⟨by first | with_reducible assumption | omega | assumption, ?_⟩
    refine ⟨by first | with_reducible assumption | omega | assumption, ?_⟩
    refine ⟨acall_b (acall_hit (c := c48.to) (x, r, u, r', k) _ rfl p48) hL, ?_⟩
    refine ⟨acall_hit (c := c20.to) () _ rfl trivial, ?_⟩
    rfl
theorem lies_ok (x : List Int) (q : RK) (u : List Int) (q' : RK) (k : Int) (h1 : lim x.length) (h2 : q.mt = true → x = []) (h3 : lim u.length) (h4 : q'.mt = true → u = []) : CallOk Try.prog 9 [ls x (rr q), ls u (rr q'), I k] .nil (.bool true) .nil := by
  have px := inc_rr h1 h2
  have pu := inc_rr h3 h4
  cases hS : stB x 200
  · exact (r9s x _ u _ k px pu hS).run ok9 (.pure _ (.pure _ (.pure _ (.pure _ .nil)))) rfl
  · cases hQ : quB x u
    · exact (r9q x _ u _ k px pu hS hQ).run ok9 (.pure _ (.pure _ (.pure _ (.pure _ (.pure _ .nil))))) rfl
    · by_cases hl : k < 1
      · exact (r9l x _ u _ k px pu hS hQ hl).run ok9 (.pure _ (.pure _ (.pure _ (.pure _ (.pure _ .nil))))) rfl
      · by_cases hh : 30 < k
        · exact (r9h x _ u _ k px pu hS hQ (by omega) hh).run ok9 (.pure _ (.pure _ (.pure _ (.pure _ (.pure _ .nil))))) rfl
        · exact (r9g x _ u _ k px pu hS hQ (by omega) _ rfl).run ok9 (.pure _ (.pure _ (.pure _ (.pure _ (.pure _ (.pure _ .nil)))))) rfl
end Go.Proofs.Gss

