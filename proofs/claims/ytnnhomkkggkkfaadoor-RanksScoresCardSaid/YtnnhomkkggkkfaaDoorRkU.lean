/- Layer 2: scores, by the program. -/
import Derived.Test.YtnnhomkkggkkfaaDoorRkT
import Derived.KernelRfl
set_option linter.unusedSimpArgs false
set_option linter.unusedVariables false
set_option linter.unnecessarySimpa false
set_option maxHeartbeats 4000000
set_option maxRecDepth 100000
namespace Go.Proofs.Rnk
open Go Go.VM
open Go.Proofs.Sur (andn andn_bit andn_le i_wrap i_and i_or i_andn i_shl i_shr bit_01)

theorem leave_mt {m : List Int} {n : Nat} (hn : m.length = n) : leave ⟨0, 0, 0⟩ (.tup [.msl 0 0 n n 1, I 0]) ⟨[ints m], [], []⟩ = (.tup [.sl (ints m) n .full, I 0], .nil) := by
  subst hn
  have hz := enc_frz ints_c1 m 0 0 ⟨[ints m], [], []⟩ 3
  have hb2 := enc_bnds ints_c1 m 0 0 0
  have ht : List.take (m.length * 1) (List.drop 0 (ints m)) = ints m := by rw [Nat.mul_one, List.drop_zero]; exact List.take_of_length_le (by simp)
  have hz : List.map (frz 0 0 ⟨[ints m], [], []⟩ 4) (ints m) = ints m := hz
  have hb2 : AV.bnds 0 0 0 (ints m) = true := hb2
  have e1 : frz 0 0 ⟨[ints m], [], []⟩ 6 (.tup [.msl 0 0 m.length m.length 1, I 0]) = .tup [.sl (ints m) m.length .full, I 0] := by
    simp only [frz, List.map_cons, List.map_nil, Nat.not_lt_zero, if_false, List.getElem?_cons_zero, ht, hz, if_true]
  generalize ints m = c at hb2 e1 ⊢
  simp only [leave, e1]
  simp [AV.bnd, AV.bnds, hb2, Room.bnd, retok, H.nil]

/-- the scores of the first players, and nought for the others -/
def sV (t : List Int) : Nat → List Int
  | 0 => List.replicate t.length i0
  | j + 1 => (sV t j).set j ((pc (sn t j) : Nat) : Int)
theorem sV_len (t : List Int) : ∀ j, (sV t j).length = t.length
  | 0 => by simp [sV]
  | j + 1 => by simp [sV, sV_len t j]
abbrev scs (t : List Int) : List Int := sV t t.length
theorem sV_get (t : List Int) : ∀ j i, i < j → i < t.length → ia (sV t j) i = ((pc (sn t i) : Nat) : Int)
  | 0, i, h, _ => by omega
  | j + 1, i, h, hi => by
    have hl := sV_len t j
    simp only [ia, sV, List.getD_eq_getElem?_getD]
    by_cases e : j = i
    · subst e
      rw [List.getElem?_set_self (by omega)]; rfl
    · rw [List.getElem?_set_ne e]
      have := sV_get t j i (by omega) hi
      simpa [ia, List.getD_eq_getElem?_getD] using this
abbrev srt (t : List Int) : List Int := isrt (scs t)
theorem srt_len (t : List Int) : (srt t).length = t.length := by show (isr (scs t) _).length = _; rw [isr_len, sV_len]
/-- 'size' of an integer -/
noncomputable def c57i : PCtr Tryd.prog where
  f := 57
  X := Int
  args x := [I x]
  pre x := s8 x
  v x := I (pc x.toNat : Nat)
  det := by
    intro x y e _ _
    simp only [List.cons.injEq, AV.int.injEq, true_and, and_true] at e
    rw [e]
  ok x hx := by
    have := c57.ok x.toNat (by show x.toNat < 256; have := hx.2; omega)
    have e : c57.args x.toNat = [I x] := by show [I ((x.toNat : Nat) : Int)] = _; rw [Int.toNat_of_nonneg hx.1]
    rw [e] at this
    exact this
noncomputable abbrev cs18 : List (Ctr Tryd.prog) := [c56.to, c57i.to, c58]
abbrev M58 : FuncId → Bool := (· == 58)
theorem ct18 : Ctrs Tryd.prog M58 cs18 := .pure _ (.pure _ (.eff c58 rfl .nil))
abbrev o18 (t : List Int) : List Out := [.mk Unit (.exit 0) [4] (fun _ => True) (fun _ => [mI t.length]) (fun _ => hI (scs t)) (fun _ => [])]
theorem simp18 : allSimpleM M58 (loopAt Tryd.f18 0) = true := by kernel_rfl
theorem lp18 (t : List Int) (r : Room) (h : Tn t) (hr : rok t r) :
    LoopS (En6 cs18) (loopAt Tryd.f18 0) 29 [4, 13, 14, 15] [mI t.length, ls t r, I t.length, I 0] (hI (sV t 0)) (o18 t) := by
  have hR : Rests (En6 cs18) M58 := rests mixed ct18
  have h8 := h.s.2
  refine loop_s hR simp18 none (by intro _ h; cases h) (fun j vs h => h = hI (sV t j) ∧ vs = [mI t.length, ls t r, I t.length, I j]) t.length ⟨rfl, rfl⟩ (by intro _ h; cases h) ?_
  rintro j vs h' hj ⟨rfl, rfl⟩
  by_cases hz : (j : Int) < t.length
  · have hz' : j < t.length := by omega
    have hri := rok_idx hr hz'
    have ev0 := wj1 (j := j) (by omega)
    have hsn := h.sn j
    have p57 := h.s8 j
    have hg : t.getD j i0 = ia t j := rfl
    refine ⟨[Ans.o (Orc.b true), Ans.o (Orc.val 18 (AV.cptr (ints (List.drop j t))) H.nil), Ans.o (Orc.val 19 (I (t.getD j i0)) H.nil), Ans.o (Orc.val 23 (I (↑(pc (t.getD j i0).toNat) : Int)) (H.mk [ints (sV t j)] [] [])), Ans.o (Orc.val 24 (AV.ptr 0 j) H.nil), Ans.o (Orc.val 9999 (AV.tup []) (H.mk [ints ((sV t j).set j (↑(pc (t.getD j i0).toNat) : Int))] [] [])), Ans.o (Orc.val 25 (I (↑(j + (1 : Nat)) : Int)) H.nil)], fun u => of_eq ((↑j : Int) < (↑t.length : Int) ∧ aIndexAddr Tryd.prog (22 : Nat) (AV.sl (ints t) t.length r) (I (↑j : Int)) = some (AV.cptr (ints (List.drop j t))) ∧ aLoad Tryd.prog (3 : Nat) (ints (List.drop j t)) = some (I (t.getD j i0)) ∧ aCall (Sof cs18) (AV.fn (Fn.func (57 : Nat)) [] []) [I (t.getD j i0)] (H.mk [ints (sV t j)] [] []) = some (I (↑(pc (t.getD j i0).toNat) : Int), H.mk [ints (sV t j)] [] []) ∧ aIndexAddr Tryd.prog (22 : Nat) (AV.msl 0 0 t.length t.length (1 : Nat)) (I (↑j : Int)) = some (AV.ptr 0 j) ∧ aStore Tryd.prog H.nil.base (3 : Nat) (AV.ptr 0 j) (I (↑(pc (t.getD j i0).toNat) : Int)) (H.mk [ints (sV t j)] [] []) = some (H.mk [ints ((sV t j).set j (↑(pc (t.getD j i0).toNat) : Int))] [] []) ∧ aBin Tryd.prog BinOp.add (3 : Nat) (I (↑j : Int)) (I 1) = some (I (↑(j + (1 : Nat)) : Int)) ∧ (29 : Nat) = (29 : Nat) ∧ j < t.length ∧ Keep (H.mk [ints ((sV t j).set j (↑(pc (t.getD j i0).toNat) : Int))] [] [] = H.mk [ints (sV t (j + (1 : Nat)))] [] [] ∧ [AV.msl 0 0 t.length t.length (1 : Nat), AV.sl (ints t) t.length r, I (↑t.length : Int), I (↑(j + (1 : Nat)) : Int)] = [AV.msl 0 0 t.length t.length (1 : Nat), AV.sl (ints t) t.length r, I (↑t.length : Int), I (↑(j + (1 : Nat)) : Int)])) (by kernel_rfl) ?_⟩
    refine ⟨by first | with_reducible assumption | omega | assumption, ?_⟩
    refine ⟨ix_ints (by kernel_rfl) hz' hri, ?_⟩
    refine ⟨by first | exact ld_ints (by kernel_rfl) (by kernel_rfl) (by omega) | exact ldm_ints (by kernel_rfl) (by kernel_rfl) (by first | omega | (simp; omega)), ?_⟩
    refine ⟨acall_hit (c := c57i.to) (t.getD j i0) _ rfl p57, ?_⟩
    refine ⟨ixm0 (by kernel_rfl) hz', ?_⟩
    refine ⟨st_ints (by kernel_rfl) rfl (by rw [sV_len]; exact hz'), ?_⟩
    refine ⟨told_add (by with_reducible assumption), ?_⟩
    refine ⟨by first | with_reducible assumption | omega | assumption, ?_⟩
    refine ⟨by first | with_reducible assumption | omega | assumption, ?_⟩
    exact ⟨rfl, rfl⟩
  · have hz : (t.length : Int) ≤ j := by omega
    have e : j = t.length := by omega
    subst e
    refine ⟨[Ans.o (Orc.b false)], fun u => of_eq ((↑t.length : Int) ≤ (↑t.length : Int) ∧ (29 : Nat) = (29 : Nat) ∧ hits [Out.mk Unit (AX.exit (0 : Nat)) [(4 : Nat)] (fun x => True) (fun x => [mI t.length]) (fun x => hI (scs t)) fun x => []] (AX.exit (0 : Nat)) [u (0 : Nat), u (1 : Nat), u (2 : Nat), u (3 : Nat), AV.msl 0 0 t.length t.length (1 : Nat), u (5 : Nat), u (6 : Nat), u (7 : Nat), u (8 : Nat), u (9 : Nat), u (10 : Nat), u (11 : Nat), u (12 : Nat), AV.sl (ints t) t.length r, I (↑t.length : Int), I (↑t.length : Int), AV.bool false, u (17 : Nat), u (18 : Nat), u (19 : Nat), u (20 : Nat), u (21 : Nat), u (22 : Nat), u (23 : Nat), u (24 : Nat), u (25 : Nat), u (26 : Nat), u (27 : Nat), u (28 : Nat)] (H.mk [ints (sV t t.length)] [] [])) (by kernel_rfl) ?_⟩
    refine ⟨by first | with_reducible assumption | omega | assumption, ?_⟩
    refine ⟨by first | with_reducible assumption | omega | assumption, ?_⟩
    exact .inl ⟨(), trivial, rfl, rfl, rfl⟩
theorem ok18t : FokM Tryd.prog (· == 58) 18 Tryd.f18 := ⟨mixed, by kernel_rfl, by kernel_rfl, by kernel_rfl, by kernel_rfl⟩
theorem r18t (t : List Int) (r : Room) (hp : Tn t ∧ rok t r) : Body ⟨Tryd.prog, Sof (P := Tryd.prog) [c56.to, c57i.to, c58], Pof (P := Tryd.prog) [], H.nil.base, 300⟩ (· == 58) Tryd.f18 [ls t r] .nil (.tup [.sl (ints (srt t)) t.length .full, I 0], .nil) := by
  obtain ⟨h, hr⟩ := hp
  have h8 := h.s.2
  have h1 := h.s.1
  have hb := tn_t h
  have p56 : (lim t.length ∧ rok t r) ∧ inI t := ⟨⟨by simp only [lim]; omega, hr⟩, fun i _ => by have := h.s8 i; simp only [s8] at this; simp only [i64]; omega⟩
  have lp := lp18 t r h hr
  have hl := sV_len t t.length
  refine body_s ([Ans.o (Orc.val 8 (AV.bool true) (H.mk [] [] [])), Ans.o (Orc.val 12 (AV.msl 0 0 t.length t.length (1 : Nat)) (H.mk [ints (List.replicate t.length i0)] [] [])), Ans.loop [(4 : Nat), (13 : Nat), (14 : Nat), (15 : Nat)] [Out.mk Unit (AX.exit (0 : Nat)) [(4 : Nat)] (fun x => True) (fun x => [mI t.length]) (fun x => hI (scs t)) fun y => [Ans.o (Orc.val 27 (AV.tup []) (H.mk [ints (isrt (scs t))] [] []))]]]) (aCall (Sof [c56.to, c57i.to, c58]) (AV.fn (Fn.func (56 : Nat)) [] []) [AV.sl (ints t) t.length r] (H.mk [] [] []) = some (AV.bool true, H.mk [] [] []) ∧ aMake Tryd.prog (22 : Nat) (↑t.length : Int) (↑t.length : Int) (H.mk [] [] []) = some (AV.msl 0 0 t.length t.length (1 : Nat), H.mk [ints (List.replicate t.length i0)] [] []) ∧ LoopS (Env.mk Tryd.prog (Sof [c56.to, c57i.to, c58]) (Pof (P := Tryd.prog) []) H.nil.base (300 : Nat)) (loopAt Tryd.f18 (0 : Nat)) (29 : Nat) [(4 : Nat), (13 : Nat), (14 : Nat), (15 : Nat)] [AV.msl 0 0 t.length t.length (1 : Nat), AV.sl (ints t) t.length r, I (↑t.length : Int), I 0] (H.mk [ints (List.replicate t.length i0)] [] []) [Out.mk Unit (AX.exit (0 : Nat)) [(4 : Nat)] (fun x => True) (fun x => [mI t.length]) (fun x => hI (scs t)) fun y => [Ans.o (Orc.val 27 (AV.tup []) (H.mk [ints (isrt (scs t))] [] []))]] ∧ (∀ (y : Unit), True → ∀ (u : Nat → AV), aCall (Sof [c56.to, c57i.to, c58]) (AV.fn (Fn.func (58 : Nat)) [] []) [AV.msl 0 0 t.length t.length (1 : Nat)] (H.mk [ints (scs t)] [] []) = some (AV.tup [], H.mk [ints (isrt (scs t))] [] []) ∧ leave (Base.mk H.nil.blk.length H.nil.toks.length H.nil.maps.length) (AV.tup [AV.msl 0 0 t.length t.length (1 : Nat), I 0]) (H.mk [ints (isrt (scs t))] [] []) = (AV.tup [AV.sl (ints (srt t)) t.length Room.full, I 0], H.mk [] [] [])) ∧ True) (by kernel_rfl) ?_
  refine ⟨acall_b (acall_hit (c := c56.to) (t, r) _ rfl p56) hb, ?_⟩
  refine ⟨mk_ints (by kernel_rfl) (by omega), ?_⟩
  refine ⟨lp, ?_⟩
  refine And.intro ?_ ?_
  · skip
    intro y
    intro w1
    intro u
    refine ⟨acall_hit (c := c58) (t.length, scs t) _ rfl ⟨rfl, hl, h1, h8⟩, ?_⟩
    exact leave_mt (srt_len t)
  · skip
    trivial
noncomputable def c18t : PCtr Tryd.prog := sctr ok18t (X := List Int × Room) (fun x => [ls x.1 x.2]) (fun x => Tn x.1 ∧ rok x.1 x.2) (fun x => .tup [.sl (ints (srt x.1)) x.1.length .full, I 0]) (by intro x y e _ _; simp [Int.natCast_inj] at e; simp [e]) (fun x => by simp [AV.bnds, AV.bnd, AV.wk, rm_wk_bnd]) (fun x => by first | rfl | (simp [AV.bnd, rm_wk_bnd]; done)  | (simp [AV.bnd, AV.bnds, rm_wk_bnd]; done) | simp [AV.bnd, AV.bnds, Room.bnd, rm_wk_bnd]) (fun x hx => ⟨_, _, _, .pure c56 (.pure c57i (.eff c58 rfl (.nil))), r18t (x.1) (x.2).wk (by first | exact hx | (simp only [rok_wk]; exact hx) | (simp only [rok_wk, lst_wk]; exact hx) | (simp only [rok_wk, lst_wk, lsn_wk]; exact hx))⟩)
theorem ok18f : FokM Tryd.prog none1 18 Tryd.f18 := ⟨mixed, by kernel_rfl, by kernel_rfl, by kernel_rfl, by kernel_rfl⟩
theorem r18f (t : List Int) (r : Room) (hp : (lim t.length ∧ rok t r ∧ inI t) ∧ ¬ Tn t) : Body ⟨Tryd.prog, Sof (P := Tryd.prog) [c56.to], Pof (P := Tryd.prog) [], H.nil.base, 300⟩ none1 Tryd.f18 [ls t r] .nil (.tup [.sl [] 0 .nil, I 2], .nil) := by
  obtain ⟨⟨h1, hr, h3⟩, hn⟩ := hp
  have hb := tn_f hn
  have p56 : (lim t.length ∧ rok t r) ∧ inI t := ⟨⟨h1, hr⟩, h3⟩
  refine body_s ([Ans.o (Orc.val 8 (AV.bool false) (H.mk [] [] []))]) (aCall (Sof [c56.to]) (AV.fn (Fn.func (56 : Nat)) [] []) [AV.sl (ints t) t.length r] (H.mk [] [] []) = some (AV.bool false, H.mk [] [] []) ∧ (AV.tup [AV.sl [] (0 : Nat) Room.nil, I 2], H.mk [] [] []) = (AV.tup [AV.sl [] (0 : Nat) Room.nil, I 2], H.mk [] [] [])) (by kernel_rfl) ?_
  refine ⟨acall_b (acall_hit (c := c56.to) (t, r) _ rfl p56) hb, ?_⟩
  first | with_reducible rfl | (refine bleaf_t ?_; omega) | (refine bleaf_f ?_; omega) | (refine ileaf ?_; omega) | rfl | (exfalso; omega)
noncomputable def c18f : PCtr Tryd.prog := sctr ok18f (X := List Int × Room) (fun x => [ls x.1 x.2]) (fun x => (lim x.1.length ∧ rok x.1 x.2 ∧ inI x.1) ∧ ¬ Tn x.1) (fun x => .tup [.sl [] 0 .nil, I 2]) (by intro x y e _ _; simp [Int.natCast_inj] at e; simp [e]) (fun x => by simp [AV.bnds, AV.bnd, AV.wk, rm_wk_bnd]) (fun x => by first | rfl | (simp [AV.bnd, rm_wk_bnd]; done)  | (simp [AV.bnd, AV.bnds, rm_wk_bnd]; done) | simp [AV.bnd, AV.bnds, Room.bnd, rm_wk_bnd]) (fun x hx => ⟨_, _, _, .pure c56 (.nil), r18f (x.1) (x.2).wk (by first | exact hx | (simp only [rok_wk]; exact hx) | (simp only [rok_wk, lst_wk]; exact hx) | (simp only [rok_wk, lst_wk, lsn_wk]; exact hx))⟩)
end Go.Proofs.Rnk

