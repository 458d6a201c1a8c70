/- Layer 2: scores made, and whether they can be, by the program. -/
import Derived.Test.YtnnhomkkggkkfaaDoorRkBg
import Derived.KernelRfl
set_option linter.unusedSimpArgs false
set_option linter.unusedVariables false
set_option linter.unnecessarySimpa false
set_option maxHeartbeats 4000000
set_option maxRecDepth 100000
namespace Go.Proofs.Rnk
open Go Go.VM
open Go.Proofs.Sur (andn andn_bit andn_le i_wrap i_and i_or i_andn i_shl i_shr bit_01)

theorem leave_mT (l : List Int) (n : Nat) (hn : l.length = n) (zs : List (List AV)) : leave ⟨0, 0, 0⟩ (mT n) ⟨ints l :: zs, [], []⟩ = (.sl (ints l) n .full, .nil) := by
  have hz5 : List.map (frz 0 0 ⟨ints l :: zs, [], []⟩ 5) (ints l) = ints l := enc_frz ints_c1 l 0 0 ⟨ints l :: zs, [], []⟩ 4
  have hb2 : AV.bnds 0 0 0 (ints l) = true := enc_bnds ints_c1 l 0 0 0
  have ht : List.take (n * 1) (List.drop 0 (ints l)) = ints l := by rw [Nat.mul_one, List.drop_zero]; exact List.take_of_length_le (by simp [hn])
  have e1 : frz 0 0 ⟨ints l :: zs, [], []⟩ 6 (mT n) = .sl (ints l) n .full := by
    simp only [frz, Nat.not_lt_zero, if_false, List.getElem?_cons_zero, ht, hz5, if_true]
  generalize ints l = c at hb2 e1 ⊢
  simp only [leave, e1]
  simp [AV.bnd, hb2, Room.bnd, retok, H.nil]
abbrev Z0 (s : List Int) : List Int := List.replicate s.length 0
theorem ok61 : FokM Tryd.prog M61 61 Tryd.f61 := ⟨mixed, by kernel_rfl, by kernel_rfl, by kernel_rfl, by kernel_rfl⟩
theorem r61 (s : List Int) (h1 : 1 ≤ s.length) (h8 : s.length ≤ 8) (hs : Sc8 s) : Body (En6 (cs61 (Z0 s))) M61 Tryd.f61 [ls s .no] .nil (.sl (ints (mkT s)) s.length .full, .nil) := by
  have lp := lp61 (Z0 s) s h1 h8 hs
  have p70 : s.length ≤ 8 ∧ ∃ zs, (H.mk [ints (Z0 s), ints s, [.msl 1 0 s.length noCap 1]] [] []).blk = (H.mk [ints (Z0 s)] [] []).blk ++ zs := ⟨h8, _, rfl⟩
  have ev0 : IntKind.i64.wrap ((s.length : Int) - 1) = (s.length : Int) - 1 := wr _ (by omega) (by omega)
  have hl := (rnd_b h8 h1 hs s.length (Nat.le_refl _)).1.1
  have lv := leave_mT (mkT s) s.length hl
  refine body_s ([Ans.o (Orc.val 12 (AV.msl 0 0 s.length s.length (1 : Nat)) (H.mk [ints (List.replicate s.length i0)] [] [])), Ans.o (Orc.val 14 (AV.msl 1 0 s.length (9223372036854775808 : Nat) (1 : Nat)) (H.mk [ints (List.replicate s.length i0), ints s] [] [])), Ans.o (Orc.val 16 (I (↑(alls s.length) : Int)) (H.mk [ints (List.replicate s.length i0), ints s, [AV.msl 1 0 s.length (9223372036854775808 : Nat) (1 : Nat)]] [] [])), Ans.o (Orc.val 17 (AV.fn (Fn.func (95 : FuncId)) [] [AV.ptr 3 0]) (H.mk [ints (List.replicate s.length i0), ints s, [AV.msl 1 0 s.length (9223372036854775808 : Nat) (1 : Nat)], [I (↑(alls s.length) : Int)]] [] [])), Ans.o (Orc.val 18 (AV.msl 4 0 s.length (9223372036854775808 : Nat) (1 : Nat)) (H.mk [ints (List.replicate s.length i0), ints s, [AV.msl 1 0 s.length (9223372036854775808 : Nat) (1 : Nat)], [I 0], ints (nums s.length)] [] [])), Ans.o (Orc.val 21 (I ((↑s.length : Int) - (1 : Int))) H.nil), Ans.loop [(3 : Nat), (4 : Nat), (5 : Nat), (6 : Nat)] [Out.mk Unit (AX.exit (0 : Nat)) [(3 : Nat)] (fun x => True) (fun x => [mT s.length]) (fun x => hN s s.length) fun y => []]]) (aMake Tryd.prog (22 : Nat) (↑s.length : Int) (↑s.length : Int) (H.mk [] [] []) = some (AV.msl 0 0 s.length s.length (1 : Nat), H.mk [ints (List.replicate s.length i0)] [] []) ∧ aCall (Sof (cs61 (Z0 s))) (AV.fn (Fn.func (54 : Nat)) [] []) [AV.sl (ints s) s.length Room.no] (H.mk [ints (List.replicate s.length i0)] [] []) = some (AV.msl 1 0 s.length (9223372036854775808 : Nat) (1 : Nat), H.mk [ints (List.replicate s.length i0), ints s] [] []) ∧ aCall (Sof (cs61 (Z0 s))) (AV.fn (Fn.func (70 : Nat)) [] []) [AV.msl 0 0 s.length s.length (1 : Nat)] (H.mk [ints (List.replicate s.length i0), ints s, [AV.msl 1 0 s.length (9223372036854775808 : Nat) (1 : Nat)]] [] []) = some (I (↑(alls s.length) : Int), H.mk [ints (List.replicate s.length i0), ints s, [AV.msl 1 0 s.length (9223372036854775808 : Nat) (1 : Nat)]] [] []) ∧ aCall (Sof (cs61 (Z0 s))) (AV.fn (Fn.func (72 : Nat)) [] []) [I (↑(alls s.length) : Int)] (H.mk [ints (List.replicate s.length i0), ints s, [AV.msl 1 0 s.length (9223372036854775808 : Nat) (1 : Nat)]] [] []) = some (AV.fn (Fn.func (95 : FuncId)) [] [AV.ptr 3 0], H.mk [ints (List.replicate s.length i0), ints s, [AV.msl 1 0 s.length (9223372036854775808 : Nat) (1 : Nat)], [I (↑(alls s.length) : Int)]] [] []) ∧ aCall (Sof (cs61 (Z0 s))) (AV.fn (Fn.func (91 : Nat)) [] []) [AV.fn (Fn.func (95 : FuncId)) [] [AV.ptr 3 0]] (H.mk [ints (List.replicate s.length i0), ints s, [AV.msl 1 0 s.length (9223372036854775808 : Nat) (1 : Nat)], [I (↑(alls s.length) : Int)]] [] []) = some (AV.msl 4 0 s.length (9223372036854775808 : Nat) (1 : Nat), H.mk [ints (List.replicate s.length i0), ints s, [AV.msl 1 0 s.length (9223372036854775808 : Nat) (1 : Nat)], [I 0], ints (nums s.length)] [] []) ∧ aBin Tryd.prog BinOp.sub (3 : Nat) (I (↑s.length : Int)) (I 1) = some (I ((↑s.length : Int) - (1 : Int))) ∧ LoopS (Env.mk Tryd.prog (Sof (cs61 (Z0 s))) (Pof (P := Tryd.prog) []) H.nil.base (300 : Nat)) (loopAt Tryd.f61 (0 : Nat)) (73 : Nat) [(3 : Nat), (4 : Nat), (5 : Nat), (6 : Nat)] [AV.msl 0 0 s.length s.length (1 : Nat), AV.ptr 2 0, AV.msl 4 0 s.length (9223372036854775808 : Nat) (1 : Nat), I ((↑s.length : Int) - (1 : Int))] (H.mk [ints (List.replicate s.length i0), ints s, [AV.msl 1 0 s.length (9223372036854775808 : Nat) (1 : Nat)], [I 0], ints (nums s.length)] [] []) [Out.mk Unit (AX.exit (0 : Nat)) [(3 : Nat)] (fun x => True) (fun x => [mT s.length]) (fun x => hN s s.length) fun y => []] ∧ (∀ (y : Unit), True → ∀ (u : Nat → AV), leave (Base.mk H.nil.blk.length H.nil.toks.length H.nil.maps.length) (AV.msl 0 0 s.length s.length (1 : Nat)) (H.mk [ints (RT s s.length), ints (RW s s.length), [AV.msl 1 0 s.length (9223372036854775808 : Nat) (1 : Nat)], [I 0], ints (RU s s.length)] [] []) = (AV.sl (ints (mkT s)) s.length Room.full, H.mk [] [] [])) ∧ True) (by kernel_rfl) ?_
  refine ⟨by first | exact mk_u64s (by kernel_rfl) (by omega) | exact mk_ints (by kernel_rfl) (by omega) | exact mk_bools (by kernel_rfl) (by omega), ?_⟩
  refine ⟨acall_hit (c := c54w) (Z0 s, s) _ rfl ⟨rfl, h1, h8⟩, ?_⟩
  refine ⟨acall_hit (c := c70m (Z0 s)) s.length _ rfl p70, ?_⟩
  refine ⟨by (refine acall_hit (c := c72) ((alls s.length : Nat) : Int) _ rfl ?_; trivial), ?_⟩
  refine ⟨acall_hit (c := c91) ((Z0 s, s), s.length) _ rfl ⟨rfl, h1, h8⟩, ?_⟩
  refine ⟨told_sub (by with_reducible assumption), ?_⟩
  refine ⟨lp, ?_⟩
  refine And.intro ?_ ?_
  · skip
    intro y
    intro w1
    intro u
    exact lv _
  · skip
    trivial
/-- 'withScores' -/
noncomputable def c61 : PCtr Tryd.prog where
  f := 61
  X := List Int × Room
  args x := [ls x.1 x.2]
  pre x := SB x.1 ∧ rok x.1 x.2 ∧ em x.1 x.2
  v x := .sl (ints (mkT x.1)) x.1.length .full
  det := by
    rintro ⟨l, r⟩ ⟨m, q⟩ e _ _
    simp only [List.cons.injEq, AV.sl.injEq, and_true] at e
    rw [ints_inj e.1]
  ok := by
    rintro ⟨s, r⟩ ⟨hs, hr, he⟩
    refine ⟨ok61.call, fun H => ?_⟩
    have k1 := (r61 s hs.l1 hs.l8 hs.c).run ok61 (ct61 _) rfl
    have k2 := pure_call k1 (by simp [AV.bnds, AV.bnd, Room.bnd]) (by simp [AV.bnd, Room.bnd]) H
    have hne : s ≠ [] := fun e => by have := hs.l1; rw [e] at this; simp at this
    have hw : AV.wk (ls s r) = ls s .no := by
      have hq' := hr hne
      cases r with
      | nil => exact absurd rfl hq'
      | e => exact absurd (he rfl) hne
      | _ => rfl
    have k3 : CallOk Tryd.prog 61 [AV.wk (ls s r)] H (.sl (ints (mkT s)) s.length .full) H := by rw [hw]; exact k2
    exact k3.wk
abbrev o60 (s : List Int) : List Out := [.mk Unit .ret [2] (fun _ => lanB s = false) (fun _ => [.bool false]) (fun _ => .nil) (fun _ => []), .mk Unit (.exit 0) [3, 4] (fun _ => ∀ k, k < s.length → gm (k + 1) ≤ ws s (k + 1)) (fun _ => [I (ws s s.length), I (gm s.length)]) (fun _ => .nil) (fun _ => [])]
theorem simp60 : allSimpleM none1 (loopAt Tryd.f60 0) = true := by kernel_rfl
theorem ws_b {s : List Int} (hs : Sc8 s) : ∀ k, 0 ≤ ws s k ∧ ws s k ≤ 7 * (k : Int)
  | 0 => by simp [ws]
  | k + 1 => by
    have ih := ws_b hs k
    have : 0 ≤ s.getD k i0 ∧ s.getD k i0 ≤ 7 := by
      rcases Nat.lt_or_ge k s.length with q | q
      · have := hs.h k q; omega
      · have e : s.getD k i0 = 0 := by simp [List.getD_eq_getElem?_getD, List.getElem?_eq_none q, i0]
        rw [e]; omega
    simp only [ws]; omega
theorem gm_b : ∀ k : Nat, 0 ≤ gm k ∧ gm k ≤ (k : Int) * 8 ∨ 8 < k
  | 0 => by simp [gm]
  | k + 1 => by
    rcases gm_b k with h | h
    · by_cases q : 8 < k + 1
      · exact .inr q
      · left; simp only [gm]; omega
    · exact .inr (by omega)
theorem lanB_iff {s : List Int} : lanB s = true ↔ (∀ k, k < s.length → gm (k + 1) ≤ ws s (k + 1)) ∧ ws s s.length = gm s.length := by
  simp only [lanB, Bool.and_eq_true, List.all_eq_true, List.mem_range, decide_eq_true_eq]
theorem lp60 (s : List Int) (r : Room) (hr : rok s r) (h8 : s.length ≤ 8) (hs : Sc8 s) :
    LoopS (En6 []) (loopAt Tryd.f60 0) 27 [3, 4, 7, 8, 9] [I 0, I 0, ls s r, I s.length, I 0] .nil (o60 s) := by
  have hR : Rests (En6 []) none1 := rests mixed .nil
  refine loop_s hR simp60 none (by intro _ h; cases h) (fun k vs H => H = .nil ∧ vs = [I (ws s k), I (gm k), ls s r, I s.length, I k] ∧ ∀ i, i < k → gm (i + 1) ≤ ws s (i + 1)) s.length ⟨rfl, rfl, fun i hi => absurd hi (by omega)⟩ (by intro _ h; cases h) ?_
  rintro k vs H hk ⟨rfl, rfl, ha⟩
  by_cases hz : (k : Int) < s.length
  · have hz' : k < s.length := by omega
    have hri := rok_idx hr hz'
    have ev0 := wj1 (j := k) (by omega)
    have b1 := ws_b hs (k + 1)
    have b2 := gm_b (k + 1)
    have ev1 : IntKind.i64.wrap (ws s k + s.getD k i0) = ws s (k + 1) := by show _ = ws s k + s.getD k i0; exact wr _ (by simp only [ws] at b1; omega) (by simp only [ws] at b1; omega)
    have ev2 : IntKind.i64.wrap (gm k + (k : Int)) = gm (k + 1) := by show _ = gm k + (k : Int); exact wr _ (by simp only [gm] at b2; omega) (by simp only [gm] at b2; omega)
    by_cases c : ws s (k + 1) < gm (k + 1)
    · have hn : lanB s = false := by
        cases q : lanB s
        · rfl
        · have := (lanB_iff.1 q).1 k hz'; omega
      refine ⟨[Ans.o (Orc.b true), Ans.o (Orc.val 12 (AV.cptr (ints (List.drop k s))) H.nil), Ans.o (Orc.val 13 (I (s.getD k i0)) H.nil), Ans.o (Orc.val 16 (I (ws s (k + (1 : Nat)))) H.nil), Ans.o (Orc.val 19 (I (gm (k + (1 : Nat)))) H.nil), Ans.o (Orc.b true)], fun u => of_eq ((↑k : Int) < (↑s.length : Int) ∧ aIndexAddr Tryd.prog (22 : Nat) (AV.sl (ints s) s.length r) (I (↑k : Int)) = some (AV.cptr (ints (List.drop k s))) ∧ aLoad Tryd.prog (3 : Nat) (ints (List.drop k s)) = some (I (s.getD k i0)) ∧ aBin Tryd.prog BinOp.add (3 : Nat) (I (ws s k)) (I (s.getD k i0)) = some (I (ws s (k + (1 : Nat)))) ∧ aBin Tryd.prog BinOp.add (3 : Nat) (I (gm k)) (I (↑k : Int)) = some (I (gm (k + (1 : Nat)))) ∧ ws s (k + (1 : Nat)) < gm (k + (1 : Nat)) ∧ (27 : Nat) = (27 : Nat) ∧ hits [Out.mk Unit AX.ret [(2 : Nat)] (fun x => lanB s = false) (fun x => [AV.bool false]) (fun x => H.nil) fun x => [], Out.mk Unit (AX.exit (0 : Nat)) [(3 : Nat), (4 : Nat)] (fun x => ∀ (k : Nat), k < s.length → gm (k + (1 : Nat)) ≤ ws s (k + (1 : Nat))) (fun x => [I (ws s s.length), I (gm s.length)]) (fun x => H.nil) fun x => []] AX.ret [u (0 : Nat), u (1 : Nat), AV.bool false, I (ws s (k + (1 : Nat))), I (gm (k + (1 : Nat))), I (↑k : Int), I (s.getD k i0), AV.sl (ints s) s.length r, I (↑s.length : Int), I (↑k : Int), AV.bool true, I (↑k : Int), AV.cptr (ints (List.drop k s)), I (s.getD k i0), I (ws s k), I (s.getD k i0), I (ws s (k + (1 : Nat))), I (gm k), I (↑k : Int), I (gm (k + (1 : Nat))), I (ws s (k + (1 : Nat))), I (gm (k + (1 : Nat))), AV.bool true, u (23 : Nat), u (24 : Nat), u (25 : Nat), u (26 : Nat)] (H.mk [] [] [])) (by kernel_rfl) ?_⟩
      refine ⟨by first | with_reducible assumption | omega | assumption, ?_⟩
      refine ⟨ix_ints (by kernel_rfl) hz' hri, ?_⟩
      refine ⟨ld_ints (by kernel_rfl) (by kernel_rfl) hz', ?_⟩
      refine ⟨told_add (by with_reducible assumption), ?_⟩
      refine ⟨told_add (by with_reducible assumption), ?_⟩
      refine ⟨by first | with_reducible assumption | omega | assumption, ?_⟩
      refine ⟨by first | with_reducible assumption | omega | assumption, ?_⟩
      exact .inl ⟨(), hn, rfl, rfl, rfl⟩
    · have c : gm (k + 1) ≤ ws s (k + 1) := by omega
      have hk2 := all_succ (q := fun i => gm (i + 1) ≤ ws s (i + 1)) ha c
      refine ⟨[Ans.o (Orc.b true), Ans.o (Orc.val 12 (AV.cptr (ints (List.drop k s))) H.nil), Ans.o (Orc.val 13 (I (s.getD k i0)) H.nil), Ans.o (Orc.val 16 (I (ws s (k + (1 : Nat)))) H.nil), Ans.o (Orc.val 19 (I (gm (k + (1 : Nat)))) H.nil), Ans.o (Orc.b false), Ans.o (Orc.val 23 (I (↑(k + (1 : Nat)) : Int)) H.nil)], fun u => of_eq ((↑k : Int) < (↑s.length : Int) ∧ aIndexAddr Tryd.prog (22 : Nat) (AV.sl (ints s) s.length r) (I (↑k : Int)) = some (AV.cptr (ints (List.drop k s))) ∧ aLoad Tryd.prog (3 : Nat) (ints (List.drop k s)) = some (I (s.getD k i0)) ∧ aBin Tryd.prog BinOp.add (3 : Nat) (I (ws s k)) (I (s.getD k i0)) = some (I (ws s (k + (1 : Nat)))) ∧ aBin Tryd.prog BinOp.add (3 : Nat) (I (gm k)) (I (↑k : Int)) = some (I (gm (k + (1 : Nat)))) ∧ gm (k + (1 : Nat)) ≤ ws s (k + (1 : Nat)) ∧ aBin Tryd.prog BinOp.add (3 : Nat) (I (↑k : Int)) (I 1) = some (I (↑(k + (1 : Nat)) : Int)) ∧ (27 : Nat) = (27 : Nat) ∧ k < s.length ∧ Keep (H.mk [] [] [] = H.mk [] [] [] ∧ [I (ws s (k + (1 : Nat))), I (gm (k + (1 : Nat))), AV.sl (ints s) s.length r, I (↑s.length : Int), I (↑(k + (1 : Nat)) : Int)] = [I (ws s (k + (1 : Nat))), I (gm (k + (1 : Nat))), AV.sl (ints s) s.length r, I (↑s.length : Int), I (↑(k + (1 : Nat)) : Int)] ∧ ∀ (i : Nat), i < k + (1 : Nat) → gm (i + (1 : Nat)) ≤ ws s (i + (1 : Nat)))) (by kernel_rfl) ?_⟩
      refine ⟨by first | with_reducible assumption | omega | assumption, ?_⟩
      refine ⟨ix_ints (by kernel_rfl) hz' hri, ?_⟩
      refine ⟨ld_ints (by kernel_rfl) (by kernel_rfl) hz', ?_⟩
      refine ⟨told_add (by with_reducible assumption), ?_⟩
      refine ⟨told_add (by with_reducible assumption), ?_⟩
      refine ⟨by first | with_reducible assumption | omega | assumption, ?_⟩
      refine ⟨told_add (by with_reducible assumption), ?_⟩
      refine ⟨by first | with_reducible assumption | omega | assumption, ?_⟩
      refine ⟨by first | with_reducible assumption | omega | assumption, ?_⟩
      exact ⟨rfl, rfl, hk2⟩
  · have hz : (s.length : Int) ≤ k := by omega
    have hk' : k = s.length := by omega
    subst hk'
    refine ⟨[Ans.o (Orc.b false)], fun u => of_eq ((↑s.length : Int) ≤ (↑s.length : Int) ∧ (27 : Nat) = (27 : Nat) ∧ hits [Out.mk Unit AX.ret [(2 : Nat)] (fun x => lanB s = false) (fun x => [AV.bool false]) (fun x => H.nil) fun x => [], Out.mk Unit (AX.exit (0 : Nat)) [(3 : Nat), (4 : Nat)] (fun x => ∀ (k : Nat), k < s.length → gm (k + (1 : Nat)) ≤ ws s (k + (1 : Nat))) (fun x => [I (ws s s.length), I (gm s.length)]) (fun x => H.nil) fun x => []] (AX.exit (0 : Nat)) [u (0 : Nat), u (1 : Nat), u (2 : Nat), I (ws s s.length), I (gm s.length), u (5 : Nat), u (6 : Nat), AV.sl (ints s) s.length r, I (↑s.length : Int), I (↑s.length : Int), AV.bool false, u (11 : Nat), u (12 : Nat), u (13 : Nat), u (14 : Nat), u (15 : Nat), u (16 : Nat), u (17 : Nat), u (18 : Nat), u (19 : Nat), u (20 : Nat), u (21 : Nat), u (22 : Nat), u (23 : Nat), u (24 : Nat), u (25 : Nat), u (26 : Nat)] (H.mk [] [] [])) (by kernel_rfl) ?_⟩
    refine ⟨by first | with_reducible assumption | omega | assumption, ?_⟩
    refine ⟨by first | with_reducible assumption | omega | assumption, ?_⟩
    exact .inr (.inl ⟨(), ha, rfl, rfl, rfl⟩)
theorem ok60 : FokM Tryd.prog none1 60 Tryd.f60 := ⟨mixed, by kernel_rfl, by kernel_rfl, by kernel_rfl, by kernel_rfl⟩
theorem r60 (s : List Int) (r : Room) (hp : (s.length ≤ 8 ∧ Sc8 s) ∧ rok s r) : Body ⟨Tryd.prog, Sof (P := Tryd.prog) [], Pof (P := Tryd.prog) [], H.nil.base, 300⟩ none1 Tryd.f60 [ls s r] .nil (.bool (lanB s), .nil) := by
  obtain ⟨⟨h8, hs⟩, hr⟩ := hp
  have lp := lp60 s r hr h8 hs
  by_cases c : ws s s.length = gm s.length
  · refine body_s ([Ans.loop [(3 : Nat), (4 : Nat), (7 : Nat), (8 : Nat), (9 : Nat)] [Out.mk Unit AX.ret [(2 : Nat)] (fun x => lanB s = false) (fun x => [AV.bool false]) (fun x => H.nil) fun y => [], Out.mk Unit (AX.exit (0 : Nat)) [(3 : Nat), (4 : Nat)] (fun x => ∀ (k : Nat), k < s.length → gm (k + (1 : Nat)) ≤ ws s (k + (1 : Nat))) (fun x => [I (ws s s.length), I (gm s.length)]) (fun x => H.nil) fun y => [Ans.o (Orc.b true)]]]) (LoopS (Env.mk Tryd.prog (Sof (P := Tryd.prog) []) (Pof (P := Tryd.prog) []) H.nil.base (300 : Nat)) (loopAt Tryd.f60 (0 : Nat)) (27 : Nat) [(3 : Nat), (4 : Nat), (7 : Nat), (8 : Nat), (9 : Nat)] [I 0, I 0, AV.sl (ints s) s.length r, I (↑s.length : Int), I 0] (H.mk [] [] []) [Out.mk Unit AX.ret [(2 : Nat)] (fun x => lanB s = false) (fun x => [AV.bool false]) (fun x => H.nil) fun y => [], Out.mk Unit (AX.exit (0 : Nat)) [(3 : Nat), (4 : Nat)] (fun x => ∀ (k : Nat), k < s.length → gm (k + (1 : Nat)) ≤ ws s (k + (1 : Nat))) (fun x => [I (ws s s.length), I (gm s.length)]) (fun x => H.nil) fun y => [Ans.o (Orc.b true)]] ∧ (∀ (y : Unit), lanB s = false → ∀ (u : Nat → AV), (AV.bool false, H.mk [] [] []) = (AV.bool (lanB s), H.mk [] [] [])) ∧ (∀ (y : Unit), (∀ (k : Nat), k < s.length → gm (k + (1 : Nat)) ≤ ws s (k + (1 : Nat))) → ∀ (u : Nat → AV), ws s s.length = gm s.length ∧ (AV.bool true, H.mk [] [] []) = (AV.bool (lanB s), H.mk [] [] [])) ∧ True) (by kernel_rfl) ?_
    refine ⟨lp, ?_⟩
    refine And.intro ?_ ?_
    · skip
      intro y
      intro w1
      intro u
      first | rw [lanB_iff.2 ⟨by assumption, c⟩] | rw [(by assumption : lanB s = false)]
    · skip
      refine And.intro ?_ ?_
      · skip
        intro y
        intro w1
        intro u
        refine ⟨by first | with_reducible assumption | omega | assumption, ?_⟩
        first | rw [lanB_iff.2 ⟨by assumption, c⟩] | rw [(by assumption : lanB s = false)]
      · skip
        trivial
  · have hn : lanB s = false := by
      cases q : lanB s
      · rfl
      · exact absurd (lanB_iff.1 q).2 c
    rw [hn]
    refine body_s ([Ans.loop [(3 : Nat), (4 : Nat), (7 : Nat), (8 : Nat), (9 : Nat)] [Out.mk Unit AX.ret [(2 : Nat)] (fun x => lanB s = false) (fun x => [AV.bool false]) (fun x => H.nil) fun y => [], Out.mk Unit (AX.exit (0 : Nat)) [(3 : Nat), (4 : Nat)] (fun x => ∀ (k : Nat), k < s.length → gm (k + (1 : Nat)) ≤ ws s (k + (1 : Nat))) (fun x => [I (ws s s.length), I (gm s.length)]) (fun x => H.nil) fun y => [Ans.fork [] []]]]) (LoopS (Env.mk Tryd.prog (Sof (P := Tryd.prog) []) (Pof (P := Tryd.prog) []) H.nil.base (300 : Nat)) (loopAt Tryd.f60 (0 : Nat)) (27 : Nat) [(3 : Nat), (4 : Nat), (7 : Nat), (8 : Nat), (9 : Nat)] [I 0, I 0, AV.sl (ints s) s.length r, I (↑s.length : Int), I 0] (H.mk [] [] []) [Out.mk Unit AX.ret [(2 : Nat)] (fun x => lanB s = false) (fun x => [AV.bool false]) (fun x => H.nil) fun y => [], Out.mk Unit (AX.exit (0 : Nat)) [(3 : Nat), (4 : Nat)] (fun x => ∀ (k : Nat), k < s.length → gm (k + (1 : Nat)) ≤ ws s (k + (1 : Nat))) (fun x => [I (ws s s.length), I (gm s.length)]) (fun x => H.nil) fun y => [Ans.fork [] []]] ∧ (∀ (y : Unit), lanB s = false → ∀ (u : Nat → AV), (AV.bool false, H.mk [] [] []) = (AV.bool false, H.mk [] [] [])) ∧ (∀ (y : Unit), (∀ (k : Nat), k < s.length → gm (k + (1 : Nat)) ≤ ws s (k + (1 : Nat))) → ∀ (u : Nat → AV), (ws s s.length = gm s.length → (AV.bool true, H.mk [] [] []) = (AV.bool false, H.mk [] [] [])) ∧ (ws s s.length ≠ gm s.length → (AV.bool false, H.mk [] [] []) = (AV.bool false, H.mk [] [] []))) ∧ True) (by kernel_rfl) ?_
    refine ⟨lp, ?_⟩
    refine And.intro ?_ ?_
    · skip
      intro y
      intro w1
      intro u
      first | with_reducible rfl | (refine bleaf_t ?_; omega) | (refine bleaf_f ?_; omega) | (refine ileaf ?_; omega) | rfl | (exfalso; omega)
    · skip
      refine And.intro ?_ ?_
      · skip
        intro y
        intro w1
        intro u
        refine And.intro ?_ ?_
        · skip
          intro w3
          first | with_reducible rfl | (refine bleaf_t ?_; omega) | (refine bleaf_f ?_; omega) | (refine ileaf ?_; omega) | rfl | (exfalso; omega)
        · skip
          intro w3
          first | with_reducible rfl | (refine bleaf_t ?_; omega) | (refine bleaf_f ?_; omega) | (refine ileaf ?_; omega) | rfl | (exfalso; omega)
      · skip
        trivial
noncomputable def c60 : PCtr Tryd.prog := sctr ok60 (X := List Int × Room) (fun x => [ls x.1 x.2]) (fun x => (x.1.length ≤ 8 ∧ Sc8 x.1) ∧ rok x.1 x.2) (fun x => .bool (lanB x.1)) (by intro x y e _ _; simp [Int.natCast_inj] at e; simp [e]) (fun x => by simp [AV.bnds, AV.bnd, AV.wk, rm_wk_bnd]) (fun x => by first | rfl | (simp [AV.bnd, rm_wk_bnd]; done)  | (simp [AV.bnd, AV.bnds, rm_wk_bnd]; done) | simp [AV.bnd, AV.bnds, Room.bnd, rm_wk_bnd]) (fun x hx => ⟨_, _, _, .nil, r60 (x.1) (x.2).wk (by first | exact hx | (simp only [rok_wk]; exact hx) | (simp only [rok_wk, lst_wk]; exact hx) | (simp only [rok_wk, lst_wk, lsn_wk]; exact hx))⟩)
theorem ok20 : FokM Tryd.prog none1 20 Tryd.f20 := ⟨mixed, by kernel_rfl, by kernel_rfl, by kernel_rfl, by kernel_rfl⟩
abbrev pS8 (s : List Int) (r : Room) : Prop := lim s.length ∧ rok s r ∧ em s r
theorem r20t (s : List Int) (r : Room) (hp : pS8 s r) (h : SB s) (hl : lanB s = true) : Body (En6 [c59.to, c60.to, c61.to]) none1 Tryd.f20 [ls s r] .nil (.tup [.sl (ints (mkT s)) s.length .full, I 0], .nil) := by
  have hb := sB_t h
  have p59 : lim s.length ∧ rok s r := ⟨hp.1, hp.2.1⟩
  have p60 : (s.length ≤ 8 ∧ Sc8 s) ∧ rok s r := ⟨⟨h.l8, h.c⟩, hp.2.1⟩
  have p61 : SB s ∧ rok s r ∧ em s r := ⟨h, hp.2.1, hp.2.2⟩
  refine body_s ([Ans.o (Orc.val 5 (AV.bool true) (H.mk [] [] [])), Ans.o (Orc.val 8 (AV.bool true) (H.mk [] [] [])), Ans.o (Orc.val 11 (AV.sl (ints (mkT s)) s.length Room.full) (H.mk [] [] []))]) (aCall (Sof [c59.to, c60.to, c61.to]) (AV.fn (Fn.func (59 : Nat)) [] []) [AV.sl (ints s) s.length r] (H.mk [] [] []) = some (AV.bool true, H.mk [] [] []) ∧ aCall (Sof [c59.to, c60.to, c61.to]) (AV.fn (Fn.func (60 : Nat)) [] []) [AV.sl (ints s) s.length r] (H.mk [] [] []) = some (AV.bool true, H.mk [] [] []) ∧ aCall (Sof [c59.to, c60.to, c61.to]) (AV.fn (Fn.func (61 : Nat)) [] []) [AV.sl (ints s) s.length r] (H.mk [] [] []) = some (AV.sl (ints (mkT s)) s.length Room.full, H.mk [] [] []) ∧ leave (Base.mk H.nil.blk.length H.nil.toks.length H.nil.maps.length) (AV.tup [AV.sl (ints (mkT s)) s.length Room.full, I 0]) (H.mk [] [] []) = (AV.tup [AV.sl (ints (mkT s)) s.length Room.full, I 0], H.mk [] [] [])) (by kernel_rfl) ?_
  refine ⟨acall_b (acall_hit (c := c59.to) (s, r) _ rfl p59) hb, ?_⟩
  refine ⟨acall_b (acall_hit (c := c60.to) (s, r) _ rfl p60) hl, ?_⟩
  refine ⟨acall_hit (c := c61.to) (s, r) _ rfl p61, ?_⟩
  exact leave_bs [] (by simp [AV.bnd, AV.bnds, Room.bnd])
theorem r20n (s : List Int) (r : Room) (hp : pS8 s r) (h : SB s) (hl : lanB s = false) : Body (En6 [c59.to, c60.to]) none1 Tryd.f20 [ls s r] .nil (.tup [.sl [] 0 .nil, I 4], .nil) := by
  have hb := sB_t h
  have p59 : lim s.length ∧ rok s r := ⟨hp.1, hp.2.1⟩
  have p60 : (s.length ≤ 8 ∧ Sc8 s) ∧ rok s r := ⟨⟨h.l8, h.c⟩, hp.2.1⟩
  refine body_s ([Ans.o (Orc.val 5 (AV.bool true) (H.mk [] [] [])), Ans.o (Orc.val 8 (AV.bool false) (H.mk [] [] []))]) (aCall (Sof [c59.to, c60.to]) (AV.fn (Fn.func (59 : Nat)) [] []) [AV.sl (ints s) s.length r] (H.mk [] [] []) = some (AV.bool true, H.mk [] [] []) ∧ aCall (Sof [c59.to, c60.to]) (AV.fn (Fn.func (60 : Nat)) [] []) [AV.sl (ints s) s.length r] (H.mk [] [] []) = some (AV.bool false, H.mk [] [] []) ∧ (AV.tup [AV.sl [] (0 : Nat) Room.nil, I 4], H.mk [] [] []) = (AV.tup [AV.sl [] (0 : Nat) Room.nil, I 4], H.mk [] [] [])) (by kernel_rfl) ?_
  refine ⟨acall_b (acall_hit (c := c59.to) (s, r) _ rfl p59) hb, ?_⟩
  refine ⟨acall_b (acall_hit (c := c60.to) (s, r) _ rfl p60) hl, ?_⟩
  first | with_reducible rfl | (refine bleaf_t ?_; omega) | (refine bleaf_f ?_; omega) | (refine ileaf ?_; omega) | rfl | (exfalso; omega)
theorem r20f (s : List Int) (r : Room) (hp : pS8 s r) (h : ¬ SB s) : Body (En6 [c59.to]) none1 Tryd.f20 [ls s r] .nil (.tup [.sl [] 0 .nil, I 2], .nil) := by
  have hb := sB_f h
  have p59 : lim s.length ∧ rok s r := ⟨hp.1, hp.2.1⟩
  refine body_s ([Ans.o (Orc.val 5 (AV.bool false) (H.mk [] [] []))]) (aCall (Sof [c59.to]) (AV.fn (Fn.func (59 : Nat)) [] []) [AV.sl (ints s) s.length r] (H.mk [] [] []) = some (AV.bool false, H.mk [] [] []) ∧ (AV.tup [AV.sl [] (0 : Nat) Room.nil, I 2], H.mk [] [] []) = (AV.tup [AV.sl [] (0 : Nat) Room.nil, I 2], H.mk [] [] [])) (by kernel_rfl) ?_
  refine ⟨acall_b (acall_hit (c := c59.to) (s, r) _ rfl p59) hb, ?_⟩
  first | with_reducible rfl | (refine bleaf_t ?_; omega) | (refine bleaf_f ?_; omega) | (refine ileaf ?_; omega) | rfl | (exfalso; omega)
theorem em_wk2 {l : List Int} {r : Room} (h : em l r) : em l r.wk := fun e => by
  cases r <;> first | (cases e; done) | exact h rfl
theorem pS8_wk {s : List Int} {r : Room} (h : pS8 s r) : pS8 s r.wk := ⟨h.1, by simpa using h.2.1, em_wk2 h.2.2⟩
noncomputable def c20t : PCtr Tryd.prog := sctr ok20 (X := List Int × Room) (fun x => [ls x.1 x.2]) (fun x => pS8 x.1 x.2 ∧ SB x.1 ∧ lanB x.1 = true) (fun x => .tup [.sl (ints (mkT x.1)) x.1.length .full, I 0])
  (by rintro ⟨l, r⟩ ⟨m, q⟩ e _ _; simp only [List.cons.injEq, AV.sl.injEq, and_true] at e; rw [ints_inj e.1]) (fun x => by simp [AV.bnds, AV.bnd, AV.wk, rm_wk_bnd]) (fun x => by simp [AV.bnd, AV.bnds, Room.bnd]) (fun x hx => ⟨_, _, _, .pure _ (.pure _ (.pure _ .nil)), r20t x.1 x.2.wk (pS8_wk hx.1) hx.2.1 hx.2.2⟩)
noncomputable def c20n : PCtr Tryd.prog := sctr ok20 (X := List Int × Room) (fun x => [ls x.1 x.2]) (fun x => pS8 x.1 x.2 ∧ SB x.1 ∧ lanB x.1 = false) (fun _ => .tup [.sl [] 0 .nil, I 4])
  (by intro x y e _ _; rfl) (fun x => by simp [AV.bnds, AV.bnd, AV.wk, rm_wk_bnd]) (fun x => by simp [AV.bnd, AV.bnds, Room.bnd]) (fun x hx => ⟨_, _, _, .pure _ (.pure _ .nil), r20n x.1 x.2.wk (pS8_wk hx.1) hx.2.1 hx.2.2⟩)
noncomputable def c20f : PCtr Tryd.prog := sctr ok20 (X := List Int × Room) (fun x => [ls x.1 x.2]) (fun x => pS8 x.1 x.2 ∧ ¬ SB x.1) (fun _ => .tup [.sl [] 0 .nil, I 2])
  (by intro x y e _ _; rfl) (fun x => by simp [AV.bnds, AV.bnd, AV.wk, rm_wk_bnd]) (fun x => by simp [AV.bnd, AV.bnds, Room.bnd]) (fun x hx => ⟨_, _, _, .pure _ .nil, r20f x.1 x.2.wk (pS8_wk hx.1) hx.2⟩)
end Go.Proofs.Rnk

