/- Layer 2: Round, by the program and by the reference; the law of ways and rounds. -/
import Derived.Test.YtnnhomkkggkkfaaDoorRkDg
import Derived.Test.YtnnhomkkggkkfaaDoorRkDp
import Derived.Test.YtnnhomkkggkkfaaDoorRkAj
import Derived.KernelRfl
set_option linter.unusedSimpArgs false
set_option linter.unusedVariables false
set_option linter.unnecessarySimpa false
set_option maxHeartbeats 4000000
set_option maxRecDepth 100000
namespace Go.Proofs.Rnk
open Go Go.VM
noncomputable def c19v : PCtr Tryd.prog where
  f := 19
  X := List Int × Room
  args x := [ls x.1 x.2]
  pre x := ((lim x.1.length ∧ rok x.1 x.2 ∧ em x.1 x.2) ∧ x.1.length ≤ 11) ∧ x.1 ≠ []
  v x := ls x.1 .no
  det := by
    rintro ⟨l, r⟩ ⟨l', r'⟩ e _ _
    simp at e
    simp [e]
  ok := by
    rintro ⟨l, r⟩ ⟨h1, h2⟩
    have := c19s.ok (l, r) h1
    have e : c19s.v (l, r) = ls l .no := by
      show ls l (rcl r) = _
      have hr := h1.1.2.1 h2
      cases r <;> first | rfl | exact absurd rfl hr
    rw [e] at this
    exact this
theorem k29s (t : List Int) (k : Nat) (l : List Int) (h : Tn t) (h3 : 3 ≤ k) (hk : k ≤ t.length) (hl : rowR t k true = some l) : CallOk Tryd.prog 29 [ls t .no, I k] .nil (.tup [ls l .no, I 0]) .nil := by
  have h8 := h.s.2
  have hlen := wyM_len _ _ _ _ hl
  exact @CallOk.up wrI instInhabitedGlobs (fun _ => rfl) _ _ _ _ _ _ (r29s t k l h (fun i _ => by have := h.s8 i; simp only [s8] at this; simp only [i64]; omega) h3 hk hl (by simp only [List.length_nil] at hlen; omega))
theorem k29n (t : List Int) (k : Nat) (h : Tn t) (h3 : 3 ≤ k) (hk : k ≤ t.length) (hl : rowR t k true = none) : CallOk Tryd.prog 29 [ls t .no, I k] .nil (.tup [.sl [] 0 .nil, I 4]) .nil :=
  @CallOk.up wrI instInhabitedGlobs (fun _ => rfl) _ _ _ _ _ _ (r29n t k h (fun i _ => by have := h.s8 i; simp only [s8] at this; simp only [i64]; omega) h3 hk hl)
theorem ok29d : callable Tryd.prog 29 = true := by kernel_rfl
theorem wk_ls {t : List Int} {r : Room} (h : Tn t) (hr : rok t r) (hem : em t r) : AV.wk (ls t r) = ls t .no := by
  have hne : t ≠ [] := fun e => by have h1 : 1 ≤ t.length := h.s.1; rw [e] at h1; simp at h1
  have hq' := hr hne
  cases r with
  | nil => exact absurd rfl hq'
  | e => exact absurd (hem rfl) hne
  | _ => rfl
noncomputable def c29s : PCtr Tryd.prog where
  f := 29
  X := ((List Int × Room) × Nat) × List Int
  args x := [ls x.1.1.1 x.1.1.2, I x.1.2]
  pre x := ((Tn x.1.1.1 ∧ rok x.1.1.1 x.1.1.2 ∧ em x.1.1.1 x.1.1.2) ∧ 3 ≤ x.1.2 ∧ x.1.2 ≤ x.1.1.1.length) ∧ rowR x.1.1.1 x.1.2 true = some x.2
  v x := .tup [ls x.2 .no, I 0]
  det := by
    rintro ⟨⟨⟨t, r⟩, k⟩, l⟩ ⟨⟨⟨t', r'⟩, k'⟩, l'⟩ e ⟨_, p⟩ ⟨_, p'⟩
    simp only [List.cons.injEq, AV.sl.injEq, AV.int.injEq, and_true] at e
    have e1 := ints_inj e.1.1
    have e2 : k = k' := by omega
    subst e1 e2
    have := p.symm.trans p'
    cases this; rfl
  ok := by
    rintro ⟨⟨⟨t, r⟩, k⟩, l⟩ ⟨⟨⟨h, hr, hem⟩, h3, hk⟩, hl⟩
    refine ⟨ok29d, fun H => ?_⟩
    have k2 := pure_call (k29s t k l h h3 hk hl) (by simp [AV.bnds, AV.bnd, Room.bnd]) (by simp [AV.bnd, AV.bnds, Room.bnd]) H
    have k3 : CallOk Tryd.prog 29 [AV.wk (ls t r), AV.wk (I k)] H (.tup [ls l .no, I 0]) H := by rw [wk_ls h hr hem]; exact k2
    exact k3.wk
noncomputable def c29n : PCtr Tryd.prog where
  f := 29
  X := (List Int × Room) × Nat
  args x := [ls x.1.1 x.1.2, I x.2]
  pre x := ((Tn x.1.1 ∧ rok x.1.1 x.1.2 ∧ em x.1.1 x.1.2) ∧ 3 ≤ x.2 ∧ x.2 ≤ x.1.1.length) ∧ rowR x.1.1 x.2 true = none
  v x := .tup [.sl [] 0 .nil, I 4]
  det _ _ _ _ _ := rfl
  ok := by
    rintro ⟨⟨t, r⟩, k⟩ ⟨⟨⟨h, hr, hem⟩, h3, hk⟩, hl⟩
    refine ⟨ok29d, fun H => ?_⟩
    have k2 := pure_call (k29n t k h h3 hk hl) (by simp [AV.bnds, AV.bnd, Room.bnd]) rfl H
    have k3 : CallOk Tryd.prog 29 [AV.wk (ls t r), AV.wk (I k)] H (.tup [.sl [] 0 .nil, I 4]) H := by rw [wk_ls h hr hem]; exact k2
    exact k3.wk
theorem ok29f : FokM Tryd.prog (· == 64) 29 Tryd.f29 := ⟨mixed, by kernel_rfl, by kernel_rfl, by kernel_rfl, by kernel_rfl⟩
theorem r29f (t : List Int) (r : Room) (k : Int) (hp : (lim t.length ∧ rok t r ∧ inI t) ∧ ¬ Tn t) : Body ⟨Tryd.prog, Sof (P := Tryd.prog) [c56.to], Pof (P := Tryd.prog) [], H.nil.base, 300⟩ (· == 64) Tryd.f29 [ls t r, I k] .nil (.tup [.sl [] 0 .nil, I 2], .nil) := by
  obtain ⟨⟨h1, hr, h3⟩, hn⟩ := hp
  have hb := tn_f hn
  have p56 : (lim t.length ∧ rok t r) ∧ inI t := ⟨⟨h1, hr⟩, h3⟩
  refine body_s ([Ans.o (Orc.val 9 (AV.bool false) (H.mk [[ls t r]] [] []))]) (aCall (Sof [c56.to]) (AV.fn (Fn.func 56) [] []) [ls t r] (H.mk [[ls t r]] [] []) = some (AV.bool false, H.mk [[ls t r]] [] []) ∧ (AV.tup [AV.sl [] (0 : Nat) Room.nil, I 2], H.mk [] [] []) = (AV.tup [AV.sl [] (0 : Nat) Room.nil, I 2], H.mk [] [] [])) (by kernel_rfl) ?_
  refine ⟨acall_b (acall_hit (c := c56.to) (t, r) _ rfl p56) hb, ?_⟩
  first | with_reducible rfl | (refine bleaf_t ?_; omega) | (refine bleaf_f ?_; omega) | (refine ileaf ?_; omega) | rfl | (exfalso; omega)
noncomputable def c29f : PCtr Tryd.prog := sctr ok29f (X := List Int × Room × Int) (fun x => [ls x.1 x.2.1, I x.2.2]) (fun x => (lim x.1.length ∧ rok x.1 x.2.1 ∧ inI x.1) ∧ ¬ Tn x.1) (fun x => .tup [.sl [] 0 .nil, I 2]) (by intro x y e _ _; simp [Int.natCast_inj] at e; simp [e]) (fun x => by simp [AV.bnds, AV.bnd, AV.wk, rm_wk_bnd]) (fun x => by first | rfl | (simp [AV.bnd, rm_wk_bnd]; done)  | (simp [AV.bnd, AV.bnds, rm_wk_bnd]; done) | simp [AV.bnd, AV.bnds, Room.bnd, rm_wk_bnd]) (fun x hx => ⟨_, _, _, .pure c56 (.nil), r29f (x.1) (x.2.1).wk (x.2.2) (by first | exact hx | (simp only [rok_wk]; exact hx) | (simp only [rok_wk, lst_wk]; exact hx) | (simp only [rok_wk, lst_wk, lsn_wk]; exact hx))⟩)
theorem ok29b : FokM Tryd.prog (· == 64) 29 Tryd.f29 := ⟨mixed, by kernel_rfl, by kernel_rfl, by kernel_rfl, by kernel_rfl⟩
theorem r29b (t : List Int) (r : Room) (k : Int) (hp : (Tn t ∧ rok t r) ∧ ¬ (3 ≤ k ∧ k ≤ t.length)) : Body ⟨Tryd.prog, Sof (P := Tryd.prog) [c56.to], Pof (P := Tryd.prog) [], H.nil.base, 300⟩ (· == 64) Tryd.f29 [ls t r, I k] .nil (.tup [.sl [] 0 .nil, I 2], .nil) := by
  obtain ⟨⟨h, hr⟩, hn⟩ := hp
  have h8 := h.s.2
  have hb := tn_t h
  have p56 : (lim t.length ∧ rok t r) ∧ inI t := ⟨⟨by simp only [lim]; omega, hr⟩, fun i _ => by have := h.s8 i; simp only [s8] at this; simp only [i64]; omega⟩
  by_cases c : k < 3
  · refine body_s ([Ans.o (Orc.val 9 (AV.bool true) (H.mk [[ls t r]] [] [])), Ans.o (Orc.b true)]) (aCall (Sof [c56.to]) (AV.fn (Fn.func 56) [] []) [ls t r] (H.mk [[ls t r]] [] []) = some (AV.bool true, H.mk [[ls t r]] [] []) ∧ k < (3 : Int) ∧ (AV.tup [AV.sl [] (0 : Nat) Room.nil, I 2], H.mk [] [] []) = (AV.tup [AV.sl [] (0 : Nat) Room.nil, I 2], H.mk [] [] [])) (by kernel_rfl) ?_
    refine ⟨acall_b (acall_hit (c := c56.to) (t, r) _ rfl p56) hb, ?_⟩
    refine ⟨by first | with_reducible assumption | omega | assumption, ?_⟩
    first | with_reducible rfl | (refine bleaf_t ?_; omega) | (refine bleaf_f ?_; omega) | (refine ileaf ?_; omega) | rfl | (exfalso; omega)
  · have c1 : 3 ≤ k := by omega
    have c2 : (t.length : Int) < k := by omega
    refine body_s ([Ans.o (Orc.val 9 (AV.bool true) (H.mk [[ls t r]] [] [])), Ans.o (Orc.b false), Ans.o (Orc.b true)]) (aCall (Sof [c56.to]) (AV.fn (Fn.func 56) [] []) [ls t r] (H.mk [[ls t r]] [] []) = some (AV.bool true, H.mk [[ls t r]] [] []) ∧ (3 : Int) ≤ k ∧ (↑t.length : Int) < k ∧ (AV.tup [AV.sl [] (0 : Nat) Room.nil, I 2], H.mk [] [] []) = (AV.tup [AV.sl [] (0 : Nat) Room.nil, I 2], H.mk [] [] [])) (by kernel_rfl) ?_
    refine ⟨acall_b (acall_hit (c := c56.to) (t, r) _ rfl p56) hb, ?_⟩
    refine ⟨by first | with_reducible assumption | omega | assumption, ?_⟩
    refine ⟨by first | with_reducible assumption | omega | assumption, ?_⟩
    first | with_reducible rfl | (refine bleaf_t ?_; omega) | (refine bleaf_f ?_; omega) | (refine ileaf ?_; omega) | rfl | (exfalso; omega)
noncomputable def c29b : PCtr Tryd.prog := sctr ok29b (X := List Int × Room × Int) (fun x => [ls x.1 x.2.1, I x.2.2]) (fun x => (Tn x.1 ∧ rok x.1 x.2.1) ∧ ¬ (3 ≤ x.2.2 ∧ x.2.2 ≤ x.1.length)) (fun x => .tup [.sl [] 0 .nil, I 2]) (by intro x y e _ _; simp [Int.natCast_inj] at e; simp [e]) (fun x => by simp [AV.bnds, AV.bnd, AV.wk, rm_wk_bnd]) (fun x => by first | rfl | (simp [AV.bnd, rm_wk_bnd]; done)  | (simp [AV.bnd, AV.bnds, rm_wk_bnd]; done) | simp [AV.bnd, AV.bnds, Room.bnd, rm_wk_bnd]) (fun x hx => ⟨_, _, _, .pure c56 (.nil), r29b (x.1) (x.2.1).wk (x.2.2) (by first | exact hx | (simp only [rok_wk]; exact hx) | (simp only [rok_wk, lst_wk]; exact hx) | (simp only [rok_wk, lst_wk, lsn_wk]; exact hx))⟩)
noncomputable def c31s : PCtr Tryd.prog := sctr ok31 (X := ((List Int × Room) × Nat) × List Int) (fun x => [ls x.1.1.1 x.1.1.2, I x.1.2]) (fun x => ((Tn x.1.1.1 ∧ rok x.1.1.1 x.1.1.2) ∧ 1 ≤ x.1.2 ∧ x.1.2 ≤ 8) ∧ rowR x.1.1.1 x.1.2 true = some x.2) (fun x => .tup [ls x.2 .no, I 0])
  (by
    rintro ⟨⟨⟨t, r⟩, k⟩, l⟩ ⟨⟨⟨t', r'⟩, k'⟩, l'⟩ e ⟨_, p⟩ ⟨_, p'⟩
    simp only [List.cons.injEq, AV.sl.injEq, AV.int.injEq, and_true] at e
    have e1 := ints_inj e.1.1
    have e2 : k = k' := by omega
    subst e1 e2
    have := p.symm.trans p'
    cases this; rfl) (fun x => by simp [AV.bnds, AV.bnd, AV.wk, rm_wk_bnd]) (fun x => by simp [AV.bnd, AV.bnds, Room.bnd]) (fun x hx => ⟨_, _, _, .pure _ .nil, r31t x.1.1.1 x.1.1.2.wk x.1.2 hx.1.1.1 (by simpa using hx.1.1.2) hx.1.2.1 hx.1.2.2 x.2 hx.2⟩)
noncomputable def c31n : PCtr Tryd.prog := sctr ok31 (X := (List Int × Room) × Nat) (fun x => [ls x.1.1 x.1.2, I x.2]) (fun x => ((Tn x.1.1 ∧ rok x.1.1 x.1.2) ∧ 1 ≤ x.2 ∧ x.2 ≤ 8) ∧ rowR x.1.1 x.2 true = none) (fun x => .tup [.sl [] 0 .nil, I 4])
  (fun _ _ _ _ _ => rfl) (fun x => by simp [AV.bnds, AV.bnd, AV.wk, rm_wk_bnd]) (fun x => by simp [AV.bnd, AV.bnds, Room.bnd]) (fun x hx => ⟨_, _, _, .pure _ .nil, r31f x.1.1 x.1.2.wk x.2 hx.1.1.1 (by simpa using hx.1.1.2) hx.1.2.1 hx.1.2.2 hx.2⟩)
theorem ok4 : FokM Tryd.prog none1 4 Tryd.f4 := ⟨mixed, by kernel_rfl, by kernel_rfl, by kernel_rfl, by kernel_rfl⟩
theorem r4f (t : List Int) (r : Room) (k : Int) (hp : pL t r) (h : ¬ Tn t) : Body (En6 [c19.to, c28f.to, c29f.to, c21.to, c24.to]) none1 Tryd.f4 [ls t r, I k] .nil (.bool true, .nil) := by
  obtain ⟨h1, h2⟩ := hp
  have hb := tn_f h
  have p21 : lim t.length ∧ rok t r := ⟨h1.1, h1.2.1⟩
  have p28 : (lim (cut t).length ∧ rok (cut t) (rcl r) ∧ inI (cut t)) ∧ ¬ Tn (cut t) := ⟨⟨cut_lim t, fun hne => rcl_rok h1.2.1 (fun e => hne (by rw [e]; rfl)), cut_in h2⟩, cut_tn h⟩
  refine body_s ([Ans.o (Orc.val 13 (ls (cut t) (rcl r)) (H.mk [] [] [])), Ans.o (Orc.val 14 (AV.tup [AV.sl [] (0 : Nat) Room.nil, I 2]) (H.mk [] [] [])), Ans.o (Orc.val 19 (ls (cut t) (rcl r)) (H.mk [] [] [])), Ans.o (Orc.val 21 (AV.tup [AV.sl [] (0 : Nat) Room.nil, I 2]) (H.mk [] [] [])), Ans.o (Orc.val 25 (AV.bool false) (H.mk [] [] [])), Ans.o Orc.dflt, Ans.o Orc.dflt, Ans.o Orc.dflt, Ans.o (Orc.val 42 (AV.bool true) (H.mk [] [] []))]) (aCall (Sof [c19.to, c28f.to, c29f.to, c21.to, c24.to]) (AV.fn (Fn.func 19) [] []) [ls t r] (H.mk [] [] []) = some (ls (cut t) (rcl r), H.mk [] [] []) ∧ aCall (Sof [c19.to, c28f.to, c29f.to, c21.to, c24.to]) (AV.fn (Fn.func 28) [] []) [ls (cut t) (rcl r)] (H.mk [] [] []) = some (AV.tup [AV.sl [] (0 : Nat) Room.nil, I 2], H.mk [] [] []) ∧ aCall (Sof [c19.to, c28f.to, c29f.to, c21.to, c24.to]) (AV.fn (Fn.func 19) [] []) [ls t r] (H.mk [] [] []) = some (ls (cut t) (rcl r), H.mk [] [] []) ∧ aCall (Sof [c19.to, c28f.to, c29f.to, c21.to, c24.to]) (AV.fn (Fn.func 29) [] []) [ls (cut t) (rcl r), I k] (H.mk [] [] []) = some (AV.tup [AV.sl [] (0 : Nat) Room.nil, I 2], H.mk [] [] []) ∧ aCall (Sof [c19.to, c28f.to, c29f.to, c21.to, c24.to]) (AV.fn (Fn.func 21) [] []) [ls t r] (H.mk [] [] []) = some (AV.bool false, H.mk [] [] []) ∧ IntKind.i64.wrap (0 : Int) = (0 : Int) ∧ aCall (Sof [c19.to, c28f.to, c29f.to, c21.to, c24.to]) (AV.fn (Fn.func 24) [] []) [] (H.mk [] [] []) = some (AV.bool true, H.mk [] [] []) ∧ (AV.bool true, H.mk [] [] []) = (AV.bool true, H.mk [] [] [])) (by kernel_rfl) ?_
  refine ⟨acall_hit (c := c19.to) (t, r) _ rfl h1, ?_⟩
  refine ⟨acall_hit (c := c28f.to) (cut t, rcl r) _ rfl p28, ?_⟩
  refine ⟨acall_hit (c := c19.to) (t, r) _ rfl h1, ?_⟩
  refine ⟨acall_hit (c := c29f.to) (cut t, rcl r, k) _ rfl p28, ?_⟩
  refine ⟨acall_b (acall_hit (c := c21.to) (t, r) _ rfl p21) hb, ?_⟩
  refine ⟨wr _ (by omega) (by omega), ?_⟩
  refine ⟨acall_hit (c := c24.to) () _ rfl trivial, ?_⟩
  first | with_reducible rfl | (refine bleaf_t ?_; omega) | (refine bleaf_f ?_; omega) | (refine ileaf ?_; omega) | rfl | (exfalso; omega)
noncomputable abbrev cs4 (c : PCtr Tryd.prog) (d : PCtr Tryd.prog) : List (Ctr Tryd.prog) := [c19v.to, c28t.to, c.to, c21.to, c30.to, c22.to, d.to, c24.to]
theorem ct4 (c d : PCtr Tryd.prog) : Ctrs Tryd.prog none1 (cs4 c d) := .pure _ (.pure _ (.pure _ (.pure _ (.pure _ (.pure _ (.pure _ (.pure _ .nil)))))))
theorem r4b (t : List Int) (r : Room) (k : Int) (hp : pL t r) (h : Tn t) (l : List Int) (hl : rowR t t.length false = some l) (hk : ¬ (3 ≤ k ∧ k ≤ t.length)) : Body (En6 (cs4 c29b c31s)) none1 Tryd.f4 [ls t r, I k] .nil (.bool true, .nil) := by
  obtain ⟨h1, h2⟩ := hp
  have h8 := h.s.2
  have h0 := h.s.1
  have hr := h1.2.1
  have hb := tn_t h
  have hn : rok t .no := fun _ => no_ne
  have hne : t ≠ [] := fun e => by rw [e] at h0; simp at h0
  have hlen : l.length = t.length := by have := wyM_len _ _ _ _ hl; simpa using this
  have p19 : ((lim t.length ∧ rok t r ∧ em t r) ∧ t.length ≤ 11) ∧ t ≠ [] := ⟨⟨h1, by omega⟩, hne⟩
  have p28 : (Tn t ∧ rok t .no ∧ em t .no) ∧ rowR t t.length false = some l := ⟨⟨h, hn, fun e => by cases e⟩, hl⟩
  have p29 : (Tn t ∧ rok t .no) ∧ ¬ (3 ≤ k ∧ k ≤ t.length) := ⟨⟨h, hn⟩, hk⟩
  have p21 : lim t.length ∧ rok t r := ⟨h1.1, hr⟩
  have p30 : (Tn t ∧ rok t r) ∧ rowR t t.length false = some l := ⟨⟨h, hr⟩, hl⟩
  have hln : rok l .no := fun _ => no_ne
  have p22 : l = l ∧ lim l.length ∧ rok l .no ∧ rok l .no := ⟨rfl, by simp only [lim]; omega, hln, hln⟩
  have hc28 : aCall (Sof (cs4 c29b c31s)) (.fn (.func 28) [] []) [ls t .no] .nil = some (.tup [ls l .no, I 0], .nil) := acall_hit (c := c28t.to) ((t, .no), l) _ rfl p28
  have hc30 : aCall (Sof (cs4 c29b c31s)) (.fn (.func 30) [] []) [ls t r] .nil = some (ls l .no, .nil) := acall_hit (c := c30.to) ((t, r), l) _ rfl p30
  by_cases c : k < 3
  · refine body_s ([Ans.o (Orc.val 13 (ls t Room.no) (H.mk [] [] [])), Ans.o (Orc.val 14 (AV.tup [ls l Room.no, I 0]) (H.mk [] [] [])), Ans.o (Orc.val 19 (ls t Room.no) (H.mk [] [] [])), Ans.o (Orc.val 21 (AV.tup [AV.sl [] (0 : Nat) Room.nil, I 2]) (H.mk [] [] [])), Ans.o (Orc.val 25 (AV.bool true) (H.mk [] [] [])), Ans.o (Orc.val 46 (ls l Room.no) (H.mk [] [] [])), Ans.o (Orc.val 47 (AV.bool true) (H.mk [] [] [])), Ans.o Orc.dflt, Ans.o (Orc.val 54 (AV.bool true) (H.mk [] [] [])), Ans.o (Orc.b true), Ans.o Orc.dflt, Ans.o Orc.dflt]) (aCall (Sof (cs4 c29b c31s)) (AV.fn (Fn.func 19) [] []) [ls t r] (H.mk [] [] []) = some (ls t Room.no, H.mk [] [] []) ∧ aCall (Sof (cs4 c29b c31s)) (AV.fn (Fn.func 28) [] []) [ls t Room.no] (H.mk [] [] []) = some (AV.tup [ls l Room.no, I 0], H.mk [] [] []) ∧ aCall (Sof (cs4 c29b c31s)) (AV.fn (Fn.func 19) [] []) [ls t r] (H.mk [] [] []) = some (ls t Room.no, H.mk [] [] []) ∧ aCall (Sof (cs4 c29b c31s)) (AV.fn (Fn.func 29) [] []) [ls t Room.no, I k] (H.mk [] [] []) = some (AV.tup [AV.sl [] (0 : Nat) Room.nil, I 2], H.mk [] [] []) ∧ aCall (Sof (cs4 c29b c31s)) (AV.fn (Fn.func 21) [] []) [ls t r] (H.mk [] [] []) = some (AV.bool true, H.mk [] [] []) ∧ aCall (Sof (cs4 c29b c31s)) (AV.fn (Fn.func 30) [] []) [ls t r] (H.mk [] [] []) = some (ls l Room.no, H.mk [] [] []) ∧ aCall (Sof (cs4 c29b c31s)) (AV.fn (Fn.func 22) [] []) [ls l Room.no, ls l Room.no] (H.mk [] [] []) = some (AV.bool true, H.mk [] [] []) ∧ aCall (Sof (cs4 c29b c31s)) (AV.fn (Fn.func 24) [] []) [] (H.mk [] [] []) = some (AV.bool true, H.mk [] [] []) ∧ k < (3 : Int) ∧ (AV.bool true, H.mk [] [] []) = (AV.bool true, H.mk [] [] [])) (by kernel_rfl) ?_
    refine ⟨acall_hit (c := c19v.to) (t, r) _ rfl p19, ?_⟩
    refine ⟨hc28, ?_⟩
    refine ⟨acall_hit (c := c19v.to) (t, r) _ rfl p19, ?_⟩
    refine ⟨acall_hit (c := c29b.to) (t, .no, k) _ rfl p29, ?_⟩
    refine ⟨acall_b (acall_hit (c := c21.to) (t, r) _ rfl p21) hb, ?_⟩
    refine ⟨hc30, ?_⟩
    refine ⟨acall_hit (c := c22.to) (l, .no, l, .no) _ rfl p22, ?_⟩
    refine ⟨acall_hit (c := c24.to) () _ rfl trivial, ?_⟩
    refine ⟨by first | with_reducible assumption | omega | assumption, ?_⟩
    first | with_reducible rfl | (refine bleaf_t ?_; omega) | (refine bleaf_f ?_; omega) | (refine ileaf ?_; omega) | rfl | (exfalso; omega)
  · have c1 : 3 ≤ k := by omega
    have c2 : (t.length : Int) < k := by omega
    refine body_s ([Ans.o (Orc.val 13 (ls t Room.no) (H.mk [] [] [])), Ans.o (Orc.val 14 (AV.tup [ls l Room.no, I 0]) (H.mk [] [] [])), Ans.o (Orc.val 19 (ls t Room.no) (H.mk [] [] [])), Ans.o (Orc.val 21 (AV.tup [AV.sl [] (0 : Nat) Room.nil, I 2]) (H.mk [] [] [])), Ans.o (Orc.val 25 (AV.bool true) (H.mk [] [] [])), Ans.o (Orc.val 46 (ls l Room.no) (H.mk [] [] [])), Ans.o (Orc.val 47 (AV.bool true) (H.mk [] [] [])), Ans.o Orc.dflt, Ans.o (Orc.val 54 (AV.bool true) (H.mk [] [] [])), Ans.o (Orc.b false), Ans.o (Orc.b true), Ans.o Orc.dflt, Ans.o Orc.dflt]) (aCall (Sof (cs4 c29b c31s)) (AV.fn (Fn.func 19) [] []) [ls t r] (H.mk [] [] []) = some (ls t Room.no, H.mk [] [] []) ∧ aCall (Sof (cs4 c29b c31s)) (AV.fn (Fn.func 28) [] []) [ls t Room.no] (H.mk [] [] []) = some (AV.tup [ls l Room.no, I 0], H.mk [] [] []) ∧ aCall (Sof (cs4 c29b c31s)) (AV.fn (Fn.func 19) [] []) [ls t r] (H.mk [] [] []) = some (ls t Room.no, H.mk [] [] []) ∧ aCall (Sof (cs4 c29b c31s)) (AV.fn (Fn.func 29) [] []) [ls t Room.no, I k] (H.mk [] [] []) = some (AV.tup [AV.sl [] (0 : Nat) Room.nil, I 2], H.mk [] [] []) ∧ aCall (Sof (cs4 c29b c31s)) (AV.fn (Fn.func 21) [] []) [ls t r] (H.mk [] [] []) = some (AV.bool true, H.mk [] [] []) ∧ aCall (Sof (cs4 c29b c31s)) (AV.fn (Fn.func 30) [] []) [ls t r] (H.mk [] [] []) = some (ls l Room.no, H.mk [] [] []) ∧ aCall (Sof (cs4 c29b c31s)) (AV.fn (Fn.func 22) [] []) [ls l Room.no, ls l Room.no] (H.mk [] [] []) = some (AV.bool true, H.mk [] [] []) ∧ aCall (Sof (cs4 c29b c31s)) (AV.fn (Fn.func 24) [] []) [] (H.mk [] [] []) = some (AV.bool true, H.mk [] [] []) ∧ (3 : Int) ≤ k ∧ (↑t.length : Int) < k ∧ (AV.bool true, H.mk [] [] []) = (AV.bool true, H.mk [] [] [])) (by kernel_rfl) ?_
    refine ⟨acall_hit (c := c19v.to) (t, r) _ rfl p19, ?_⟩
    refine ⟨hc28, ?_⟩
    refine ⟨acall_hit (c := c19v.to) (t, r) _ rfl p19, ?_⟩
    refine ⟨acall_hit (c := c29b.to) (t, .no, k) _ rfl p29, ?_⟩
    refine ⟨acall_b (acall_hit (c := c21.to) (t, r) _ rfl p21) hb, ?_⟩
    refine ⟨hc30, ?_⟩
    refine ⟨acall_hit (c := c22.to) (l, .no, l, .no) _ rfl p22, ?_⟩
    refine ⟨acall_hit (c := c24.to) () _ rfl trivial, ?_⟩
    refine ⟨by first | with_reducible assumption | omega | assumption, ?_⟩
    refine ⟨by first | with_reducible assumption | omega | assumption, ?_⟩
    first | with_reducible rfl | (refine bleaf_t ?_; omega) | (refine bleaf_f ?_; omega) | (refine ileaf ?_; omega) | rfl | (exfalso; omega)
theorem r4s (t : List Int) (r : Room) (k : Nat) (hp : pL t r) (h : Tn t) (l : List Int) (hl : rowR t t.length false = some l) (h3 : 3 ≤ k) (hk : k ≤ t.length) (y : List Int) (hy : rowR t k true = some y) : Body (En6 (cs4 c29s c31s)) none1 Tryd.f4 [ls t r, I k] .nil (.bool true, .nil) := by
  obtain ⟨h1, h2⟩ := hp
  have h8 := h.s.2
  have h0 := h.s.1
  have hr := h1.2.1
  have hb := tn_t h
  have hn : rok t .no := fun _ => no_ne
  have hne : t ≠ [] := fun e => by rw [e] at h0; simp at h0
  have hlen : l.length = t.length := by have := wyM_len _ _ _ _ hl; simpa using this
  have hylen : y.length = k := by have := wyM_len _ _ _ _ hy; simpa using this
  have c1 : (3 : Int) ≤ (k : Int) := by omega
  have c2 : (k : Int) ≤ (t.length : Int) := by omega
  have p19 : ((lim t.length ∧ rok t r ∧ em t r) ∧ t.length ≤ 11) ∧ t ≠ [] := ⟨⟨h1, by omega⟩, hne⟩
  have p28 : (Tn t ∧ rok t .no ∧ em t .no) ∧ rowR t t.length false = some l := ⟨⟨h, hn, fun e => by cases e⟩, hl⟩
  have p29 : ((Tn t ∧ rok t .no ∧ em t .no) ∧ 3 ≤ k ∧ k ≤ t.length) ∧ rowR t k true = some y := ⟨⟨⟨h, hn, fun e => by cases e⟩, h3, hk⟩, hy⟩
  have p21 : lim t.length ∧ rok t r := ⟨h1.1, hr⟩
  have p30 : (Tn t ∧ rok t r) ∧ rowR t t.length false = some l := ⟨⟨h, hr⟩, hl⟩
  have p31 : ((Tn t ∧ rok t r) ∧ 1 ≤ k ∧ k ≤ 8) ∧ rowR t k true = some y := ⟨⟨⟨h, hr⟩, by omega, by omega⟩, hy⟩
  have hln : rok l .no := fun _ => no_ne
  have p22 : l = l ∧ lim l.length ∧ rok l .no ∧ rok l .no := ⟨rfl, by simp only [lim]; omega, hln, hln⟩
  have hyn : rok y .no := fun _ => no_ne
  have p22y : y = y ∧ lim y.length ∧ rok y .no ∧ rok y .no := ⟨rfl, by simp only [lim]; omega, hyn, hyn⟩
  have hc28 : aCall (Sof (cs4 c29s c31s)) (.fn (.func 28) [] []) [ls t .no] .nil = some (.tup [ls l .no, I 0], .nil) := acall_hit (c := c28t.to) ((t, .no), l) _ rfl p28
  have hc29 : aCall (Sof (cs4 c29s c31s)) (.fn (.func 29) [] []) [ls t .no, I k] .nil = some (.tup [ls y .no, I 0], .nil) := acall_hit (c := c29s.to) (((t, .no), k), y) _ rfl p29
  have hc30 : aCall (Sof (cs4 c29s c31s)) (.fn (.func 30) [] []) [ls t r] .nil = some (ls l .no, .nil) := acall_hit (c := c30.to) ((t, r), l) _ rfl p30
  have hc31 : aCall (Sof (cs4 c29s c31s)) (.fn (.func 31) [] []) [ls t r, I k] .nil = some (.tup [ls y .no, I 0], .nil) := acall_hit (c := c31s.to) (((t, r), k), y) _ rfl p31
  refine body_s ([Ans.o (Orc.val 13 (ls t Room.no) (H.mk [] [] [])), Ans.o (Orc.val 14 (AV.tup [ls l Room.no, I 0]) (H.mk [] [] [])), Ans.o (Orc.val 19 (ls t Room.no) (H.mk [] [] [])), Ans.o (Orc.val 21 (AV.tup [ls y Room.no, I 0]) (H.mk [] [] [])), Ans.o (Orc.val 25 (AV.bool true) (H.mk [] [] [])), Ans.o (Orc.val 46 (ls l Room.no) (H.mk [] [] [])), Ans.o (Orc.val 47 (AV.bool true) (H.mk [] [] [])), Ans.o Orc.dflt, Ans.o (Orc.val 54 (AV.bool true) (H.mk [] [] [])), Ans.o (Orc.b false), Ans.o (Orc.b false), Ans.o (Orc.val 75 (AV.tup [ls y Room.no, I 0]) (H.mk [] [] [])), Ans.o (Orc.val 80 (AV.bool true) (H.mk [] [] [])), Ans.o Orc.dflt]) (aCall (Sof (cs4 c29s c31s)) (AV.fn (Fn.func 19) [] []) [ls t r] (H.mk [] [] []) = some (ls t Room.no, H.mk [] [] []) ∧ aCall (Sof (cs4 c29s c31s)) (AV.fn (Fn.func 28) [] []) [ls t Room.no] (H.mk [] [] []) = some (AV.tup [ls l Room.no, I 0], H.mk [] [] []) ∧ aCall (Sof (cs4 c29s c31s)) (AV.fn (Fn.func 19) [] []) [ls t r] (H.mk [] [] []) = some (ls t Room.no, H.mk [] [] []) ∧ aCall (Sof (cs4 c29s c31s)) (AV.fn (Fn.func 29) [] []) [ls t Room.no, I (↑k : Int)] (H.mk [] [] []) = some (AV.tup [ls y Room.no, I 0], H.mk [] [] []) ∧ aCall (Sof (cs4 c29s c31s)) (AV.fn (Fn.func 21) [] []) [ls t r] (H.mk [] [] []) = some (AV.bool true, H.mk [] [] []) ∧ aCall (Sof (cs4 c29s c31s)) (AV.fn (Fn.func 30) [] []) [ls t r] (H.mk [] [] []) = some (ls l Room.no, H.mk [] [] []) ∧ aCall (Sof (cs4 c29s c31s)) (AV.fn (Fn.func 22) [] []) [ls l Room.no, ls l Room.no] (H.mk [] [] []) = some (AV.bool true, H.mk [] [] []) ∧ aCall (Sof (cs4 c29s c31s)) (AV.fn (Fn.func 24) [] []) [] (H.mk [] [] []) = some (AV.bool true, H.mk [] [] []) ∧ (3 : Int) ≤ (↑k : Int) ∧ (↑k : Int) ≤ (↑t.length : Int) ∧ aCall (Sof (cs4 c29s c31s)) (AV.fn (Fn.func 31) [] []) [ls t r, I (↑k : Int)] (H.mk [] [] []) = some (AV.tup [ls y Room.no, I 0], H.mk [] [] []) ∧ aCall (Sof (cs4 c29s c31s)) (AV.fn (Fn.func 22) [] []) [ls y Room.no, ls y Room.no] (H.mk [] [] []) = some (AV.bool true, H.mk [] [] []) ∧ (AV.bool true, H.mk [] [] []) = (AV.bool true, H.mk [] [] [])) (by kernel_rfl) ?_
  refine ⟨acall_hit (c := c19v.to) (t, r) _ rfl p19, ?_⟩
  refine ⟨hc28, ?_⟩
  refine ⟨acall_hit (c := c19v.to) (t, r) _ rfl p19, ?_⟩
  refine ⟨hc29, ?_⟩
  refine ⟨acall_b (acall_hit (c := c21.to) (t, r) _ rfl p21) hb, ?_⟩
  refine ⟨hc30, ?_⟩
  refine ⟨by first | exact acall_hit (c := c22.to) (l, .no, l, .no) _ rfl p22 | exact acall_hit (c := c22.to) (y, .no, y, .no) _ rfl p22y, ?_⟩
  refine ⟨acall_hit (c := c24.to) () _ rfl trivial, ?_⟩
  refine ⟨by first | with_reducible assumption | omega | assumption, ?_⟩
  refine ⟨by first | with_reducible assumption | omega | assumption, ?_⟩
  refine ⟨hc31, ?_⟩
  refine ⟨by first | exact acall_hit (c := c22.to) (l, .no, l, .no) _ rfl p22 | exact acall_hit (c := c22.to) (y, .no, y, .no) _ rfl p22y, ?_⟩
  first | rfl | (exfalso; omega)
theorem r4n (t : List Int) (r : Room) (k : Nat) (hp : pL t r) (h : Tn t) (l : List Int) (hl : rowR t t.length false = some l) (h3 : 3 ≤ k) (hk : k ≤ t.length) (hy : rowR t k true = none) : Body (En6 (cs4 c29n c31n)) none1 Tryd.f4 [ls t r, I k] .nil (.bool true, .nil) := by
  obtain ⟨h1, h2⟩ := hp
  have h8 := h.s.2
  have h0 := h.s.1
  have hr := h1.2.1
  have hb := tn_t h
  have hn : rok t .no := fun _ => no_ne
  have hne : t ≠ [] := fun e => by rw [e] at h0; simp at h0
  have hlen : l.length = t.length := by have := wyM_len _ _ _ _ hl; simpa using this
  have c1 : (3 : Int) ≤ (k : Int) := by omega
  have c2 : (k : Int) ≤ (t.length : Int) := by omega
  have p19 : ((lim t.length ∧ rok t r ∧ em t r) ∧ t.length ≤ 11) ∧ t ≠ [] := ⟨⟨h1, by omega⟩, hne⟩
  have p28 : (Tn t ∧ rok t .no ∧ em t .no) ∧ rowR t t.length false = some l := ⟨⟨h, hn, fun e => by cases e⟩, hl⟩
  have p29 : ((Tn t ∧ rok t .no ∧ em t .no) ∧ 3 ≤ k ∧ k ≤ t.length) ∧ rowR t k true = none := ⟨⟨⟨h, hn, fun e => by cases e⟩, h3, hk⟩, hy⟩
  have p21 : lim t.length ∧ rok t r := ⟨h1.1, hr⟩
  have p30 : (Tn t ∧ rok t r) ∧ rowR t t.length false = some l := ⟨⟨h, hr⟩, hl⟩
  have p31 : ((Tn t ∧ rok t r) ∧ 1 ≤ k ∧ k ≤ 8) ∧ rowR t k true = none := ⟨⟨⟨h, hr⟩, by omega, by omega⟩, hy⟩
  have hln : rok l .no := fun _ => no_ne
  have p22 : l = l ∧ lim l.length ∧ rok l .no ∧ rok l .no := ⟨rfl, by simp only [lim]; omega, hln, hln⟩
  have p22y : ([] : List Int) = [] ∧ lim ([] : List Int).length ∧ rok ([] : List Int) .nil ∧ rok ([] : List Int) .nil := ⟨rfl, by decide, fun h => absurd rfl h, fun h => absurd rfl h⟩
  have hc28 : aCall (Sof (cs4 c29n c31n)) (.fn (.func 28) [] []) [ls t .no] .nil = some (.tup [ls l .no, I 0], .nil) := acall_hit (c := c28t.to) ((t, .no), l) _ rfl p28
  have hc30 : aCall (Sof (cs4 c29n c31n)) (.fn (.func 30) [] []) [ls t r] .nil = some (ls l .no, .nil) := acall_hit (c := c30.to) ((t, r), l) _ rfl p30
  have hc22 : aCall (Sof (cs4 c29n c31n)) (.fn (.func 22) [] []) [.sl [] 0 .nil, .sl [] 0 .nil] .nil = some (.bool true, .nil) := acall_hit (c := c22.to) ([], .nil, [], .nil) _ rfl p22y
  refine body_s ([Ans.o (Orc.val 13 (ls t Room.no) (H.mk [] [] [])), Ans.o (Orc.val 14 (AV.tup [ls l Room.no, I 0]) (H.mk [] [] [])), Ans.o (Orc.val 19 (ls t Room.no) (H.mk [] [] [])), Ans.o (Orc.val 21 (AV.tup [AV.sl [] (0 : Nat) Room.nil, I 4]) (H.mk [] [] [])), Ans.o (Orc.val 25 (AV.bool true) (H.mk [] [] [])), Ans.o (Orc.val 46 (ls l Room.no) (H.mk [] [] [])), Ans.o (Orc.val 47 (AV.bool true) (H.mk [] [] [])), Ans.o Orc.dflt, Ans.o (Orc.val 54 (AV.bool true) (H.mk [] [] [])), Ans.o (Orc.b false), Ans.o (Orc.b false), Ans.o (Orc.val 75 (AV.tup [AV.sl [] (0 : Nat) Room.nil, I 4]) (H.mk [] [] [])), Ans.o (Orc.val 80 (AV.bool true) (H.mk [] [] [])), Ans.o Orc.dflt]) (aCall (Sof (cs4 c29n c31n)) (AV.fn (Fn.func 19) [] []) [ls t r] (H.mk [] [] []) = some (ls t Room.no, H.mk [] [] []) ∧ aCall (Sof (cs4 c29n c31n)) (AV.fn (Fn.func 28) [] []) [ls t Room.no] (H.mk [] [] []) = some (AV.tup [ls l Room.no, I 0], H.mk [] [] []) ∧ aCall (Sof (cs4 c29n c31n)) (AV.fn (Fn.func 19) [] []) [ls t r] (H.mk [] [] []) = some (ls t Room.no, H.mk [] [] []) ∧ aCall (Sof (cs4 c29n c31n)) (AV.fn (Fn.func 29) [] []) [ls t Room.no, I (↑k : Int)] (H.mk [] [] []) = some (AV.tup [AV.sl [] (0 : Nat) Room.nil, I 4], H.mk [] [] []) ∧ aCall (Sof (cs4 c29n c31n)) (AV.fn (Fn.func 21) [] []) [ls t r] (H.mk [] [] []) = some (AV.bool true, H.mk [] [] []) ∧ aCall (Sof (cs4 c29n c31n)) (AV.fn (Fn.func 30) [] []) [ls t r] (H.mk [] [] []) = some (ls l Room.no, H.mk [] [] []) ∧ aCall (Sof (cs4 c29n c31n)) (AV.fn (Fn.func 22) [] []) [ls l Room.no, ls l Room.no] (H.mk [] [] []) = some (AV.bool true, H.mk [] [] []) ∧ aCall (Sof (cs4 c29n c31n)) (AV.fn (Fn.func 24) [] []) [] (H.mk [] [] []) = some (AV.bool true, H.mk [] [] []) ∧ (3 : Int) ≤ (↑k : Int) ∧ (↑k : Int) ≤ (↑t.length : Int) ∧ aCall (Sof (cs4 c29n c31n)) (AV.fn (Fn.func 31) [] []) [ls t r, I (↑k : Int)] (H.mk [] [] []) = some (AV.tup [AV.sl [] (0 : Nat) Room.nil, I 4], H.mk [] [] []) ∧ aCall (Sof (cs4 c29n c31n)) (AV.fn (Fn.func 22) [] []) [AV.sl [] (0 : Nat) Room.nil, AV.sl [] (0 : Nat) Room.nil] (H.mk [] [] []) = some (AV.bool true, H.mk [] [] []) ∧ (AV.bool true, H.mk [] [] []) = (AV.bool true, H.mk [] [] [])) (by kernel_rfl) ?_
  refine ⟨acall_hit (c := c19v.to) (t, r) _ rfl p19, ?_⟩
  refine ⟨hc28, ?_⟩
  refine ⟨acall_hit (c := c19v.to) (t, r) _ rfl p19, ?_⟩
  refine ⟨acall_hit (c := c29n.to) ((t, .no), k) _ rfl p29, ?_⟩
  refine ⟨acall_b (acall_hit (c := c21.to) (t, r) _ rfl p21) hb, ?_⟩
  refine ⟨hc30, ?_⟩
  refine ⟨by first | exact acall_hit (c := c22.to) (l, .no, l, .no) _ rfl p22 | exact hc22, ?_⟩
  refine ⟨acall_hit (c := c24.to) () _ rfl trivial, ?_⟩
  refine ⟨by first | with_reducible assumption | omega | assumption, ?_⟩
  refine ⟨by first | with_reducible assumption | omega | assumption, ?_⟩
  refine ⟨acall_hit (c := c31n.to) ((t, r), k) _ rfl p31, ?_⟩
  refine ⟨by first | exact acall_hit (c := c22.to) (l, .no, l, .no) _ rfl p22 | exact hc22, ?_⟩
  first | rfl | (exfalso; omega)
theorem ways_ok (t : List Int) (q : RK) (k : Int) (h1 : t.length ≤ Go.maxLen) (h2 : q.mt = true → t = []) (h3 : inI t) : CallOk Tryd.prog 4 [ls t (rr q), I k] .nil (.bool true) .nil := by
  have hp := pL_rr h1 h2 h3
  by_cases h : Tn t
  · obtain ⟨l, hl⟩ := tn_way h
    by_cases hk : 3 ≤ k ∧ k ≤ t.length
    · obtain ⟨k, rfl⟩ : ∃ n : Nat, k = n := ⟨k.toNat, by omega⟩
      cases hy : rowR t k true with
      | some y => exact (r4s t _ k hp h l hl (by omega) (by omega) y hy).run ok4 (ct4 _ _) rfl
      | none => exact (r4n t _ k hp h l hl (by omega) (by omega) hy).run ok4 (ct4 _ _) rfl
    · exact (r4b t _ k hp h l hl hk).run ok4 (ct4 _ _) rfl
  · exact (r4f t _ k hp h).run ok4 (.pure _ (.pure _ (.pure _ (.pure _ (.pure _ .nil))))) rfl
end Go.Proofs.Rnk

