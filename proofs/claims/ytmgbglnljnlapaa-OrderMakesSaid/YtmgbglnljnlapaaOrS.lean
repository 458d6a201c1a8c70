/- Layer 7: the least order with pairs, by the reference. -/
import Derived.Test.YtmgbglnljnlapaaOrR
import Derived.KernelRfl
set_option linter.unusedSimpArgs false
set_option linter.unusedVariables false
set_option linter.unnecessarySimpa false
set_option maxHeartbeats 4000000
set_option maxRecDepth 100000
namespace Go.Proofs.Ord
open Go Go.VM
open Go.Proofs.Sur (andn andn_bit andn_le i_wrap i_and i_or i_andn i_shl i_shr bit_01)

theorem leave_mt {m : List Int} {n : Nat} (hn : m.length = n) : leave ⟨0, 0, 0⟩ (.tup [.msl 0 0 n n 1, I 0]) ⟨[ints m], [], []⟩ = (.tup [.sl (ints m) n .full, I 0], .nil) := by
  subst hn
  have hz := enc_frz ints_c1 m 0 0 ⟨[ints m], [], []⟩ 3
  have hb2 := enc_bnds ints_c1 m 0 0 0
  have ht : List.take (m.length * 1) (List.drop 0 (ints m)) = ints m := by rw [Nat.mul_one, List.drop_zero]; exact List.take_of_length_le (by simp)
  have hz : List.map (frz 0 0 ⟨[ints m], [], []⟩ 4) (ints m) = ints m := hz
  have hb2 : AV.bnds 0 0 0 (ints m) = true := hb2
  have e1 : frz 0 0 ⟨[ints m], [], []⟩ 6 (.tup [.msl 0 0 m.length m.length 1, I 0]) = .tup [.sl (ints m) m.length .full, I 0] := by
    simp only [frz, List.map_cons, List.map_nil, Nat.not_lt_zero, if_false, List.getElem?_cons_zero, ht, hz, if_true]
  generalize ints m = c at hb2 e1 ⊢
  simp only [leave, e1]
  simp [AV.bnd, AV.bnds, hb2, Room.bnd, retok, H.nil]
theorem rl_set {n : Nat} (A B : Rel) {k : Nat} (hk : k < n) (h : ∀ i, i ≠ k → B i = A i) : (rl n A).set k ((B k : Nat) : Int) = rl n B := by
  apply List.ext_getElem
  · simp
  · intro i h1 h2
    have hi : i < n := by simpa using h1
    simp only [List.getElem_set]
    by_cases e : k = i
    · subst e; rw [if_pos rfl]; simp [rl]
    · rw [if_neg e]; simp [rl, h i (fun q => e q.symm)]
/-- what is above, where the slice may be written -/
noncomputable def c73m : Ctr Try.prog where
  f := 73
  X := (Nat × Rel) × Nat × Nat
  args x := [.msl 0 0 x.1.1 x.1.1 1, I x.2.1, I x.2.2]
  pre x h := h.blk[0]? = some (ints (rl x.1.1 x.1.2)) ∧ (pO x.1.1 x.1.2 ∧ 1 ≤ x.1.1) ∧ x.2.1 < x.1.1 ∧ x.2.2 ≤ 64
  res x h := (.bool ((x.1.2 x.2.1).testBit x.2.2), h)
  det := by
    rintro ⟨⟨n, A⟩, i, j⟩ ⟨⟨m, B⟩, k, l⟩ h e p q
    simp only [List.cons.injEq, AV.int.injEq, AV.msl.injEq, true_and, and_true, Int.natCast_inj] at e
    obtain ⟨⟨rfl, _⟩, rfl, rfl⟩ := e
    have h1 := p.1.symm.trans q.1
    simp only [Option.some.injEq] at h1
    have h2 := ints_inj h1
    have h3 : A i = B i := by
      have h4 : i < n := p.2.2.1
      have := rl_get A h4
      rw [h2, rl_get B h4] at this
      omega
    simp only [h3]
  ok := by
    rintro ⟨⟨n, A⟩, i, j⟩ h ⟨hb, ⟨hp, h1⟩, hi, hj⟩
    simp only at hb hp h1 hi hj
    have hlen : (rl n A).length = n := rl_len n A
    have hsz : (sz (rl n A) ∧ rgO (rl n A)) ∧ rok (rl n A) .no := by
      refine ⟨⟨⟨by omega, by have := hp.2; omega⟩, fun k hk => ?_⟩, fun _ => no_ne⟩
      have hk' : k < n := by omega
      have := hp.1.1 k
      rw [q1, rl_get A hk', hlen]; omega
    have hc := c73.ok (rl n A, .no, i, j) ⟨hsz, by show i < (rl n A).length; omega, hj⟩
    refine ⟨hc.1, ?_⟩
    have hc := hc.2 .nil
    have hv : View h (.msl 0 0 n n 1) (ls (rl n A) .no) := by
      have := View.msl (h := h) 0 0 n n 1 (ints (rl n A)) hb (by simp)
      have e : ((ints (rl n A)).drop 0).take (n * 1) = ints (rl n A) := by rw [List.drop_zero, List.take_of_length_le (by simp)]
      rw [e] at this
      have e2 : ls (rl n A) .no = .sl (ints (rl n A)) n .no := by show AV.sl _ (rl n A).length _ = _; rw [hlen]
      rw [e2]
      exact this
    have e3 : c73.v (rl n A, .no, i, j) = .bool ((A i).testBit j) := by
      show AV.bool (bi (ia (rl n A) i) j) = _
      rw [rl_get A hi]; rfl
    have q := hc.view (by rw [e3]; rfl) (.cons hv (.cons (.same _ rfl) (.cons (.same _ rfl) .nil)))
    rw [e3] at q
    exact q
theorem c73m_reads : c73m.Reads := ⟨fun _ _ _ => rfl, fun x h zs hp => by
  refine ⟨⟨?_, hp.2⟩, rfl⟩
  have hlt := (List.getElem?_eq_some_iff.1 hp.1).1
  show (h.blk ++ zs)[0]? = _
  rw [List.getElem?_append_left hlt]; exact hp.1⟩
abbrev m7 (N : Nat) : AV := .msl 0 0 N N 1
abbrev hr7 (N : Nat) (A : Rel) : H := ⟨[ints (rl N A)], [], []⟩
theorem rl_b {n : Nat} {A : Rel} (h : pO n A) {k : Nat} (hk : k < n) : (rl n A).getD k i0 = ((A k : Nat) : Int) ∧ A k < 64 := ⟨rl_get A hk, rg_lt h.1 h.2 k⟩
abbrev o22a (N : Nat) (l : List Pr) : List Out := [.mk Unit (.exit 0) [0, 6] (fun _ => True) (fun _ => [I N, m7 N]) (fun _ => hr7 N (Pn l l.length)) (fun _ => [])]
theorem simp22a : allSimpleM none1 (loopAt Try.f22 0) = true := by kernel_rfl
theorem lp22a (N : Nat) (l : List Pr) (r : Room) (h1 : N ≤ 6) (h2 : l.length ≤ 30) (h3 : rok l r.wk) (hA : prA N l) :
    LoopS (En6 [c73m]) (loopAt Try.f22 0) 76 [0, 6, 15, 16, 17] [I N, m7 N, pz l r.wk, I l.length, I 0] (hr7 N zeroR) (o22a N l) := by
  have hR : Rests (En6 [c73m]) none1 := rests mixed (.rd _ c73m_reads .nil)
  refine loop_s hR simp22a (some 1) (by intro nb h; cases h; exact ⟨Nat.zero_le _, Nat.le_refl 1⟩) (fun k vs H => H = hr7 N (Pn l k) ∧ vs = [I N, m7 N, pz l r.wk, I l.length, I (k : Nat)]) l.length ⟨rfl, rfl⟩ (by rintro nb h j vs h' ⟨rfl, _⟩; cases h; exact Nat.le_refl 1) ?_
  rintro k vs H hk ⟨rfl, rfl⟩
  by_cases hz : (k : Int) < l.length
  · have hz' : k < l.length := by omega
    have hr := rok_idx h3 hz'
    have ev0 := wj1 (j := k) (by omega)
    have hg := Pn_rg hA k hk
    have hp : pO N (Pn l k) := ⟨hg, h1⟩
    have hcl : AV.bnds 1 0 0 [I N, m7 N, pz l r.wk, I l.length, I (k + 1 : Nat)] = true := by simp [AV.bnds, AV.bnd, rm_wk_bnd]
    have c1 : prK N l k := hA k hz'
    have d0 := c1.1.1
    have d1 : (l.getD k pair0).1 < N := c1.1.2
    have d2 := c1.2.1
    have d3 : (l.getD k pair0).2 < 6 := by have := c1.2.2; omega
    have d4 : (l.getD k pair0).1.toNat < N := by have := c1.1.2; omega
    have ev1 := pw_shlI d2 d3
    have ev2 := i_orv (rl_b hp d4).1 (show ((2 ^ (l.getD k pair0).2.toNat : Nat) : Int) = ((2 ^ (l.getD k pair0).2.toNat : Nat) : Int) from rfl) (rl_b hp d4).2 (p2_lt d3)
    have hs := rl_set (Pn l k) (Pn l (k + 1)) (k := (l.getD k pair0).1.toNat) d4 (fun i hi => by rw [Pn_step, P1, if_neg hi])
    rw [show Pn l (k + 1) (l.getD k pair0).1.toNat = Pn l k (l.getD k pair0).1.toNat ||| 2 ^ (l.getD k pair0).2.toNat from by rw [Pn_step, P1, if_pos rfl]] at hs
    refine ⟨[Ans.o (Orc.b true), Ans.o (Orc.val 19 (AV.cptr (pairsA (List.drop k l))) H.nil), Ans.o (Orc.val 20 (AV.agg [I (l.getD k pair0).fst, I (l.getD k pair0).snd]) H.nil), Ans.o (Orc.val 24 (AV.ptr 0 (l.getD k pair0).fst.toNat) H.nil), Ans.o (Orc.val 25 (I ((rl N (Pn l k)).getD (l.getD k pair0).fst.toNat i0)) H.nil), Ans.o (Orc.val 28 (I (↑((2 : Nat) ^ (l.getD k pair0).snd.toNat) : Int)) H.nil), Ans.o (Orc.val 29 (I (↑(Pn l k (l.getD k pair0).fst.toNat ||| (2 : Nat) ^ (l.getD k pair0).snd.toNat) : Int)) H.nil), Ans.o (Orc.val 30 (AV.ptr 0 (l.getD k pair0).fst.toNat) H.nil), Ans.o (Orc.val 9999 (AV.tup []) (H.mk [ints ((rl N (Pn l k)).set (l.getD k pair0).fst.toNat (↑(Pn l k (l.getD k pair0).fst.toNat ||| (2 : Nat) ^ (l.getD k pair0).snd.toNat) : Int)), [I (l.getD k pair0).fst, I (l.getD k pair0).snd]] [] [])), Ans.o (Orc.val 31 (I (↑(k + (1 : Nat)) : Int)) H.nil)], fun u => of_eq ((↑k : Int) < (↑l.length : Int) ∧ aIndexAddr Try.prog (22 : Nat) (AV.sl (pairsA l) l.length r.wk) (I (↑k : Int)) = some (AV.cptr (pairsA (List.drop k l))) ∧ aLoad Try.prog (54 : Nat) (pairsA (List.drop k l)) = some (AV.agg [I (l.getD k pair0).fst, I (l.getD k pair0).snd]) ∧ aIndexAddr Try.prog (23 : Nat) (AV.msl 0 0 N N (1 : Nat)) (I (l.getD k pair0).fst) = some (AV.ptr 0 (l.getD k pair0).fst.toNat) ∧ aLoad Try.prog (3 : Nat) (List.drop (l.getD k pair0).fst.toNat (ints (rl N (Pn l k)))) = some (I ((rl N (Pn l k)).getD (l.getD k pair0).fst.toNat i0)) ∧ aBin Try.prog BinOp.shl (3 : Nat) (I 1) (I (l.getD k pair0).snd) = some (I (↑((2 : Nat) ^ (l.getD k pair0).snd.toNat) : Int)) ∧ aBin Try.prog BinOp.or (3 : Nat) (I ((rl N (Pn l k)).getD (l.getD k pair0).fst.toNat i0)) (I (↑((2 : Nat) ^ (l.getD k pair0).snd.toNat) : Int)) = some (I (↑(Pn l k (l.getD k pair0).fst.toNat ||| (2 : Nat) ^ (l.getD k pair0).snd.toNat) : Int)) ∧ aIndexAddr Try.prog (23 : Nat) (AV.msl 0 0 N N (1 : Nat)) (I (l.getD k pair0).fst) = some (AV.ptr 0 (l.getD k pair0).fst.toNat) ∧ aStore Try.prog H.nil.base (3 : Nat) (AV.ptr 0 (l.getD k pair0).fst.toNat) (I (↑(Pn l k (l.getD k pair0).fst.toNat ||| (2 : Nat) ^ (l.getD k pair0).snd.toNat) : Int)) (H.mk [ints (rl N (Pn l k)), [I (l.getD k pair0).fst, I (l.getD k pair0).snd]] [] []) = some (H.mk [ints ((rl N (Pn l k)).set (l.getD k pair0).fst.toNat (↑(Pn l k (l.getD k pair0).fst.toNat ||| (2 : Nat) ^ (l.getD k pair0).snd.toNat) : Int)), [I (l.getD k pair0).fst, I (l.getD k pair0).snd]] [] []) ∧ aBin Try.prog BinOp.add (3 : Nat) (I (↑k : Int)) (I 1) = some (I (↑(k + (1 : Nat)) : Int)) ∧ (76 : Nat) = (76 : Nat) ∧ k < l.length ∧ Keep (AV.bnds (1 : Nat) (0 : Nat) (0 : Nat) [I (↑N : Int), AV.msl 0 0 N N (1 : Nat), AV.sl (pairsA l) l.length r.wk, I (↑l.length : Int), I (↑(k + (1 : Nat)) : Int)] = true ∧ (H.mk [ints ((rl N (Pn l k)).set (l.getD k pair0).fst.toNat (↑(Pn l k (l.getD k pair0).fst.toNat ||| (2 : Nat) ^ (l.getD k pair0).snd.toNat) : Int)), [I (l.getD k pair0).fst, I (l.getD k pair0).snd]] [] []).clean (1 : Nat) ∧ H.mk [ints ((rl N (Pn l k)).set (l.getD k pair0).fst.toNat (↑(Pn l k (l.getD k pair0).fst.toNat ||| (2 : Nat) ^ (l.getD k pair0).snd.toNat) : Int))] [] [] = H.mk [ints (rl N (Pn l (k + (1 : Nat))))] [] [] ∧ [I (↑N : Int), AV.msl 0 0 N N (1 : Nat), AV.sl (pairsA l) l.length r.wk, I (↑l.length : Int), I (↑(k + (1 : Nat)) : Int)] = [I (↑N : Int), AV.msl 0 0 N N (1 : Nat), AV.sl (pairsA l) l.length r.wk, I (↑l.length : Int), I (↑(k + (1 : Nat)) : Int)])) (by kernel_rfl) ?_⟩
    refine ⟨by first | with_reducible assumption | omega | assumption, ?_⟩
    refine ⟨ix_pairs (by kernel_rfl) hz' hr, ?_⟩
    refine ⟨ld_pairs (by kernel_rfl) (by kernel_rfl) (by kernel_rfl) (by omega), ?_⟩
    refine ⟨ixm0_int (by kernel_rfl) d0 d1, ?_⟩
    refine ⟨ldm_ints (by kernel_rfl) (by kernel_rfl) (by rw [rl_len]; exact d4), ?_⟩
    refine ⟨by first | exact told_shl (by first | exact Int.natCast_nonneg _ | omega) (by with_reducible assumption) | exact told_shl (by omega) rfl, ?_⟩
    refine ⟨told_or (by with_reducible assumption), ?_⟩
    refine ⟨ixm0_int (by kernel_rfl) d0 d1, ?_⟩
    refine ⟨st_ints (by kernel_rfl) rfl (by rw [rl_len]; exact d4), ?_⟩
    refine ⟨told_add (by with_reducible assumption), ?_⟩
    refine ⟨by first | with_reducible assumption | omega | assumption, ?_⟩
    refine ⟨by first | with_reducible assumption | omega | assumption, ?_⟩
    exact ⟨hcl, clean1 _ _ (ints_bnds _ _ _ _), by rw [hs], rfl⟩
  · have hz : (l.length : Int) ≤ k := by omega
    have hk' : k = l.length := by omega
    subst hk'
    refine ⟨[Ans.o (Orc.b false)], fun u => of_eq ((↑l.length : Int) ≤ (↑l.length : Int) ∧ (76 : Nat) = (76 : Nat) ∧ hits [Out.mk Unit (AX.exit (0 : Nat)) [(0 : Nat), (6 : Nat)] (fun x => True) (fun x => [I (↑N : Int), m7 N]) (fun x => hr7 N (Pn l l.length)) fun x => []] (AX.exit (0 : Nat)) [I (↑N : Int), u (1 : Nat), u (2 : Nat), u (3 : Nat), u (4 : Nat), u (5 : Nat), AV.msl 0 0 N N (1 : Nat), u (7 : Nat), u (8 : Nat), u (9 : Nat), u (10 : Nat), u (11 : Nat), u (12 : Nat), u (13 : Nat), u (14 : Nat), AV.sl (pairsA l) l.length r.wk, I (↑l.length : Int), I (↑l.length : Int), AV.bool false, u (19 : Nat), u (20 : Nat), u (21 : Nat), u (22 : Nat), u (23 : Nat), u (24 : Nat), u (25 : Nat), u (26 : Nat), u (27 : Nat), u (28 : Nat), u (29 : Nat), u (30 : Nat), u (31 : Nat), u (32 : Nat), u (33 : Nat), u (34 : Nat), u (35 : Nat), u (36 : Nat), u (37 : Nat), u (38 : Nat), u (39 : Nat), u (40 : Nat), u (41 : Nat), u (42 : Nat), u (43 : Nat), u (44 : Nat), u (45 : Nat), u (46 : Nat), u (47 : Nat), u (48 : Nat), u (49 : Nat), u (50 : Nat), u (51 : Nat), u (52 : Nat), u (53 : Nat), u (54 : Nat), u (55 : Nat), u (56 : Nat), u (57 : Nat), u (58 : Nat), u (59 : Nat), u (60 : Nat), u (61 : Nat), u (62 : Nat), u (63 : Nat), u (64 : Nat), u (65 : Nat), u (66 : Nat), u (67 : Nat), u (68 : Nat), u (69 : Nat), u (70 : Nat), u (71 : Nat), u (72 : Nat), u (73 : Nat), u (74 : Nat), u (75 : Nat)] (H.mk [ints (rl N (Pn l l.length))] [] [])) (by kernel_rfl) ?_⟩
    refine ⟨by first | with_reducible assumption | omega | assumption, ?_⟩
    refine ⟨by first | with_reducible assumption | omega | assumption, ?_⟩
    exact .inl ⟨(), trivial, rfl, rfl, rfl⟩
abbrev o22d (N : Nat) (A : Rel) (s i : Nat) : List Out := [.mk Unit (.exit 6) [6, 32, 33, 36, 37] (fun _ => True) (fun _ => [m7 N, I N, I s, I N, I i]) (fun _ => hr7 N (Rj A i N)) (fun _ => [])]
theorem simp22d : allSimpleM none1 (loopAt Try.f22 3) = true := by kernel_rfl
theorem lp22d (N : Nat) (A : Rel) (h : pO N A) (h0 : 1 ≤ N) (s i : Nat) (hi : i < N) :
    LoopS (En6 [c73m]) (loopAt Try.f22 3) 76 [6, 9, 32, 33, 36, 37, 41, 42] [m7 N, I i, I N, I s, I N, I i, I N, I 0] (hr7 N A) (o22d N A s i) := by
  have hR : Rests (En6 [c73m]) none1 := rests mixed (.rd _ c73m_reads .nil)
  have h6 := h.2
  refine loop_s hR simp22d none (by intro _ h; cases h) (fun k vs H => H = hr7 N (Rj A i k) ∧ vs = [m7 N, I i, I N, I s, I N, I i, I N, I k]) N ⟨rfl, rfl⟩ (by intro _ h; cases h) ?_
  rintro k vs H hk ⟨rfl, rfl⟩
  by_cases hz : (k : Int) < N
  · have hz' : k < N := by omega
    have ev0 := wj1 (j := k) (by omega)
    have hp : pO N (Rj A i k) := ⟨Rj_rg h.1 i k, h6⟩
    have ev1 := i_orv (rl_b hp hi).1 (rl_b hp hz').1 (rl_b hp hi).2 (rl_b hp hz').2
    have hbk : (H.mk [ints (rl N (Rj A i k))] [] []).blk[0]? = some (ints (rl N (Rj A i k))) := rfl
    have hpr : (pO N (Rj A i k) ∧ 1 ≤ N) ∧ i < N ∧ k ≤ 64 := ⟨⟨hp, h0⟩, hi, by omega⟩
    cases b1 : (Rj A i k i).testBit k
    · have hs : Rj A i (k + 1) = Rj A i k := by
        rw [Rj]; funext e; rw [S1, if_neg]; rintro ⟨_, q⟩; rw [b1] at q; cases q
      refine ⟨[Ans.o (Orc.b true), Ans.o (Orc.val 48 (AV.bool false) (H.mk [ints (rl N (Rj A i k))] [] [])), Ans.o (Orc.val 59 (I (↑(k + (1 : Nat)) : Int)) H.nil)], fun u => of_eq ((↑k : Int) < (↑N : Int) ∧ aCall (Sof [c73m]) (AV.fn (Fn.func (73 : Nat)) [] []) [AV.msl 0 0 N N (1 : Nat), I (↑i : Int), I (↑k : Int)] (H.mk [ints (rl N (Rj A i k))] [] []) = some (AV.bool false, H.mk [ints (rl N (Rj A i k))] [] []) ∧ aBin Try.prog BinOp.add (3 : Nat) (I (↑k : Int)) (I 1) = some (I (↑(k + (1 : Nat)) : Int)) ∧ (76 : Nat) = (76 : Nat) ∧ k < N ∧ Keep (H.mk [ints (rl N (Rj A i k))] [] [] = H.mk [ints (rl N (Rj A i (k + (1 : Nat))))] [] [] ∧ [AV.msl 0 0 N N (1 : Nat), I (↑i : Int), I (↑N : Int), I (↑s : Int), I (↑N : Int), I (↑i : Int), I (↑N : Int), I (↑(k + (1 : Nat)) : Int)] = [AV.msl 0 0 N N (1 : Nat), I (↑i : Int), I (↑N : Int), I (↑s : Int), I (↑N : Int), I (↑i : Int), I (↑N : Int), I (↑(k + (1 : Nat)) : Int)])) (by kernel_rfl) ?_⟩
      refine ⟨by first | with_reducible assumption | omega | assumption, ?_⟩
      refine ⟨acall_b (acall_hit (c := c73m) ((N, Rj A i k), i, k) _ rfl ⟨rfl, hpr⟩) b1, ?_⟩
      refine ⟨told_add (by with_reducible assumption), ?_⟩
      refine ⟨by first | with_reducible assumption | omega | assumption, ?_⟩
      refine ⟨by first | with_reducible assumption | omega | assumption, ?_⟩
      exact ⟨by rw [hs], rfl⟩
    · have hs := rl_set (Rj A i k) (Rj A i (k + 1)) (k := i) hi (fun e he => by rw [Rj, S1, if_neg (fun q => he q.1)])
      rw [show Rj A i (k + 1) i = Rj A i k i ||| Rj A i k k from by rw [Rj, S1, if_pos ⟨rfl, b1⟩]] at hs
      refine ⟨[Ans.o (Orc.b true), Ans.o (Orc.val 48 (AV.bool true) (H.mk [ints (rl N (Rj A i k))] [] [])), Ans.o (Orc.val 51 (AV.ptr 0 i) H.nil), Ans.o (Orc.val 52 (I ((rl N (Rj A i k)).getD i i0)) H.nil), Ans.o (Orc.val 55 (AV.ptr 0 k) H.nil), Ans.o (Orc.val 56 (I ((rl N (Rj A i k)).getD k i0)) H.nil), Ans.o (Orc.val 57 (I (↑(Rj A i k i ||| Rj A i k k) : Int)) H.nil), Ans.o (Orc.val 58 (AV.ptr 0 i) H.nil), Ans.o (Orc.val 9999 (AV.tup []) (H.mk [ints ((rl N (Rj A i k)).set i (↑(Rj A i k i ||| Rj A i k k) : Int))] [] [])), Ans.o (Orc.val 59 (I (↑(k + (1 : Nat)) : Int)) H.nil)], fun u => of_eq ((↑k : Int) < (↑N : Int) ∧ aCall (Sof [c73m]) (AV.fn (Fn.func (73 : Nat)) [] []) [AV.msl 0 0 N N (1 : Nat), I (↑i : Int), I (↑k : Int)] (H.mk [ints (rl N (Rj A i k))] [] []) = some (AV.bool true, H.mk [ints (rl N (Rj A i k))] [] []) ∧ aIndexAddr Try.prog (23 : Nat) (AV.msl 0 0 N N (1 : Nat)) (I (↑i : Int)) = some (AV.ptr 0 i) ∧ aLoad Try.prog (3 : Nat) (List.drop i (ints (rl N (Rj A i k)))) = some (I ((rl N (Rj A i k)).getD i i0)) ∧ aIndexAddr Try.prog (23 : Nat) (AV.msl 0 0 N N (1 : Nat)) (I (↑k : Int)) = some (AV.ptr 0 k) ∧ aLoad Try.prog (3 : Nat) (List.drop k (ints (rl N (Rj A i k)))) = some (I ((rl N (Rj A i k)).getD k i0)) ∧ aBin Try.prog BinOp.or (3 : Nat) (I ((rl N (Rj A i k)).getD i i0)) (I ((rl N (Rj A i k)).getD k i0)) = some (I (↑(Rj A i k i ||| Rj A i k k) : Int)) ∧ aIndexAddr Try.prog (23 : Nat) (AV.msl 0 0 N N (1 : Nat)) (I (↑i : Int)) = some (AV.ptr 0 i) ∧ aStore Try.prog H.nil.base (3 : Nat) (AV.ptr 0 i) (I (↑(Rj A i k i ||| Rj A i k k) : Int)) (H.mk [ints (rl N (Rj A i k))] [] []) = some (H.mk [ints ((rl N (Rj A i k)).set i (↑(Rj A i k i ||| Rj A i k k) : Int))] [] []) ∧ aBin Try.prog BinOp.add (3 : Nat) (I (↑k : Int)) (I 1) = some (I (↑(k + (1 : Nat)) : Int)) ∧ (76 : Nat) = (76 : Nat) ∧ k < N ∧ Keep (H.mk [ints ((rl N (Rj A i k)).set i (↑(Rj A i k i ||| Rj A i k k) : Int))] [] [] = H.mk [ints (rl N (Rj A i (k + (1 : Nat))))] [] [] ∧ [AV.msl 0 0 N N (1 : Nat), I (↑i : Int), I (↑N : Int), I (↑s : Int), I (↑N : Int), I (↑i : Int), I (↑N : Int), I (↑(k + (1 : Nat)) : Int)] = [AV.msl 0 0 N N (1 : Nat), I (↑i : Int), I (↑N : Int), I (↑s : Int), I (↑N : Int), I (↑i : Int), I (↑N : Int), I (↑(k + (1 : Nat)) : Int)])) (by kernel_rfl) ?_⟩
      refine ⟨by first | with_reducible assumption | omega | assumption, ?_⟩
      refine ⟨acall_b (acall_hit (c := c73m) ((N, Rj A i k), i, k) _ rfl ⟨rfl, hpr⟩) b1, ?_⟩
      refine ⟨ixm0 (by kernel_rfl) (by omega), ?_⟩
      refine ⟨ldm_ints (by kernel_rfl) (by kernel_rfl) (by rw [rl_len]; omega), ?_⟩
      refine ⟨ixm0 (by kernel_rfl) (by omega), ?_⟩
      refine ⟨ldm_ints (by kernel_rfl) (by kernel_rfl) (by rw [rl_len]; omega), ?_⟩
      refine ⟨told_or (by with_reducible assumption), ?_⟩
      refine ⟨ixm0 (by kernel_rfl) (by omega), ?_⟩
      refine ⟨st_ints (by kernel_rfl) rfl (by rw [rl_len]; omega), ?_⟩
      refine ⟨told_add (by with_reducible assumption), ?_⟩
      refine ⟨by first | with_reducible assumption | omega | assumption, ?_⟩
      refine ⟨by first | with_reducible assumption | omega | assumption, ?_⟩
      exact ⟨by rw [hs], rfl⟩
  · have hz : (N : Int) ≤ k := by omega
    have hk' : k = N := by omega
    subst hk'
    refine ⟨[Ans.o (Orc.b false)], fun u => of_eq ((↑k : Int) ≤ (↑k : Int) ∧ (76 : Nat) = (76 : Nat) ∧ hits [Out.mk Unit (AX.exit (6 : Nat)) [(6 : Nat), (32 : Nat), (33 : Nat), (36 : Nat), (37 : Nat)] (fun x => True) (fun x => [m7 k, I (↑k : Int), I (↑s : Int), I (↑k : Int), I (↑i : Int)]) (fun x => hr7 k (Rj A i k)) fun x => []] (AX.exit (6 : Nat)) [u (0 : Nat), u (1 : Nat), u (2 : Nat), u (3 : Nat), u (4 : Nat), u (5 : Nat), AV.msl 0 0 k k (1 : Nat), u (7 : Nat), u (8 : Nat), I (↑i : Int), u (10 : Nat), u (11 : Nat), u (12 : Nat), u (13 : Nat), u (14 : Nat), u (15 : Nat), u (16 : Nat), u (17 : Nat), u (18 : Nat), u (19 : Nat), u (20 : Nat), u (21 : Nat), u (22 : Nat), u (23 : Nat), u (24 : Nat), u (25 : Nat), u (26 : Nat), u (27 : Nat), u (28 : Nat), u (29 : Nat), u (30 : Nat), u (31 : Nat), I (↑k : Int), I (↑s : Int), u (34 : Nat), u (35 : Nat), I (↑k : Int), I (↑i : Int), u (38 : Nat), u (39 : Nat), u (40 : Nat), I (↑k : Int), I (↑k : Int), AV.bool false, u (44 : Nat), u (45 : Nat), u (46 : Nat), u (47 : Nat), u (48 : Nat), u (49 : Nat), u (50 : Nat), u (51 : Nat), u (52 : Nat), u (53 : Nat), u (54 : Nat), u (55 : Nat), u (56 : Nat), u (57 : Nat), u (58 : Nat), u (59 : Nat), u (60 : Nat), u (61 : Nat), u (62 : Nat), u (63 : Nat), u (64 : Nat), u (65 : Nat), u (66 : Nat), u (67 : Nat), u (68 : Nat), u (69 : Nat), u (70 : Nat), u (71 : Nat), u (72 : Nat), u (73 : Nat), u (74 : Nat), u (75 : Nat)] (H.mk [ints (rl k (Rj A i k))] [] [])) (by kernel_rfl) ?_⟩
    refine ⟨by first | with_reducible assumption | omega | assumption, ?_⟩
    refine ⟨by first | with_reducible assumption | omega | assumption, ?_⟩
    exact .inl ⟨(), trivial, rfl, rfl, rfl⟩
abbrev o22c (N : Nat) (A : Rel) (s : Nat) : List Out := [.mk Unit (.exit 4) [6, 32, 33] (fun _ => True) (fun _ => [m7 N, I N, I s]) (fun _ => hr7 N (Ri A N N)) (fun _ => [])]
theorem simp22c : allSimpleM none1 (loopAt Try.f22 2) = true := by kernel_rfl
theorem lp22c (N : Nat) (A : Rel) (h : pO N A) (h0 : 1 ≤ N) (s : Nat) :
    LoopS (En6 [c73m]) (loopAt Try.f22 2) 76 [6, 32, 33, 36, 37] [m7 N, I N, I s, I N, I 0] (hr7 N A) (o22c N A s) := by
  have hR : Rests (En6 [c73m]) none1 := rests mixed (.rd _ c73m_reads .nil)
  have h6 := h.2
  refine loop_s hR simp22c none (by intro _ h; cases h) (fun k vs H => H = hr7 N (Ri A N k) ∧ vs = [m7 N, I N, I s, I N, I k]) N ⟨rfl, rfl⟩ (by intro _ h; cases h) ?_
  rintro k vs H hk ⟨rfl, rfl⟩
  by_cases hz : (k : Int) < N
  · have hz' : k < N := by omega
    have ev0 := wj1 (j := k) (by omega)
    have hp : pO N (Ri A N k) := ⟨Ri_rg h.1 N k, h6⟩
    have hl := lp22d N (Ri A N k) hp h0 s k hz'
    refine ⟨[Ans.o (Orc.b true), Ans.loop [(6 : Nat), (9 : Nat), (32 : Nat), (33 : Nat), (36 : Nat), (37 : Nat), (41 : Nat), (42 : Nat)] [Out.mk Unit (AX.exit (6 : Nat)) [(6 : Nat), (32 : Nat), (33 : Nat), (36 : Nat), (37 : Nat)] (fun x => True) (fun x => [m7 N, I (↑N : Int), I (↑s : Int), I (↑N : Int), I (↑k : Int)]) (fun x => hr7 N (Rj (Ri A N k) k N)) fun y => [Ans.o (Orc.val 60 (I (↑(k + (1 : Nat)) : Int)) H.nil)]]], fun u => of_eq ((↑k : Int) < (↑N : Int) ∧ LoopS (Env.mk Try.prog (Sof [c73m]) (Pof (P := Try.prog) []) H.nil.base (300 : Nat)) (loopAt Try.f22 (3 : Nat)) (76 : Nat) [(6 : Nat), (9 : Nat), (32 : Nat), (33 : Nat), (36 : Nat), (37 : Nat), (41 : Nat), (42 : Nat)] [AV.msl 0 0 N N (1 : Nat), I (↑k : Int), I (↑N : Int), I (↑s : Int), I (↑N : Int), I (↑k : Int), I (↑N : Int), I 0] (H.mk [ints (rl N (Ri A N k))] [] []) [Out.mk Unit (AX.exit (6 : Nat)) [(6 : Nat), (32 : Nat), (33 : Nat), (36 : Nat), (37 : Nat)] (fun x => True) (fun x => [m7 N, I (↑N : Int), I (↑s : Int), I (↑N : Int), I (↑k : Int)]) (fun x => hr7 N (Rj (Ri A N k) k N)) fun y => [Ans.o (Orc.val 60 (I (↑(k + (1 : Nat)) : Int)) H.nil)]] ∧ (∀ (y : Unit), True → ∀ (u : Nat → AV), aBin Try.prog BinOp.add (3 : Nat) (I (↑k : Int)) (I 1) = some (I (↑(k + (1 : Nat)) : Int)) ∧ (76 : Nat) = (76 : Nat) ∧ k < N ∧ Keep (H.mk [ints (rl N (Rj (Ri A N k) k N))] [] [] = H.mk [ints (rl N (Ri A N (k + (1 : Nat))))] [] [] ∧ [AV.msl 0 0 N N (1 : Nat), I (↑N : Int), I (↑s : Int), I (↑N : Int), I (↑(k + (1 : Nat)) : Int)] = [AV.msl 0 0 N N (1 : Nat), I (↑N : Int), I (↑s : Int), I (↑N : Int), I (↑(k + (1 : Nat)) : Int)])) ∧ True) (by kernel_rfl) ?_⟩
    refine ⟨by first | with_reducible assumption | omega | assumption, ?_⟩
    refine ⟨hl, ?_⟩
    refine And.intro ?_ ?_
    · skip
      intro y
      intro w1
      intro u
      refine ⟨told_add (by with_reducible assumption), ?_⟩
      refine ⟨by first | with_reducible assumption | omega | assumption, ?_⟩
      refine ⟨by first | with_reducible assumption | omega | assumption, ?_⟩
      exact ⟨rfl, rfl⟩
    · skip
      trivial
  · have hz : (N : Int) ≤ k := by omega
    have hk' : k = N := by omega
    subst hk'
    refine ⟨[Ans.o (Orc.b false)], fun u => of_eq ((↑k : Int) ≤ (↑k : Int) ∧ (76 : Nat) = (76 : Nat) ∧ hits [Out.mk Unit (AX.exit (4 : Nat)) [(6 : Nat), (32 : Nat), (33 : Nat)] (fun x => True) (fun x => [m7 k, I (↑k : Int), I (↑s : Int)]) (fun x => hr7 k (Ri A k k)) fun x => []] (AX.exit (4 : Nat)) [u (0 : Nat), u (1 : Nat), u (2 : Nat), u (3 : Nat), u (4 : Nat), u (5 : Nat), AV.msl 0 0 k k (1 : Nat), u (7 : Nat), u (8 : Nat), u (9 : Nat), u (10 : Nat), u (11 : Nat), u (12 : Nat), u (13 : Nat), u (14 : Nat), u (15 : Nat), u (16 : Nat), u (17 : Nat), u (18 : Nat), u (19 : Nat), u (20 : Nat), u (21 : Nat), u (22 : Nat), u (23 : Nat), u (24 : Nat), u (25 : Nat), u (26 : Nat), u (27 : Nat), u (28 : Nat), u (29 : Nat), u (30 : Nat), u (31 : Nat), I (↑k : Int), I (↑s : Int), u (34 : Nat), u (35 : Nat), I (↑k : Int), I (↑k : Int), AV.bool false, u (39 : Nat), u (40 : Nat), u (41 : Nat), u (42 : Nat), u (43 : Nat), u (44 : Nat), u (45 : Nat), u (46 : Nat), u (47 : Nat), u (48 : Nat), u (49 : Nat), u (50 : Nat), u (51 : Nat), u (52 : Nat), u (53 : Nat), u (54 : Nat), u (55 : Nat), u (56 : Nat), u (57 : Nat), u (58 : Nat), u (59 : Nat), u (60 : Nat), u (61 : Nat), u (62 : Nat), u (63 : Nat), u (64 : Nat), u (65 : Nat), u (66 : Nat), u (67 : Nat), u (68 : Nat), u (69 : Nat), u (70 : Nat), u (71 : Nat), u (72 : Nat), u (73 : Nat), u (74 : Nat), u (75 : Nat)] (H.mk [ints (rl k (Ri A k k))] [] [])) (by kernel_rfl) ?_⟩
    refine ⟨by first | with_reducible assumption | omega | assumption, ?_⟩
    refine ⟨by first | with_reducible assumption | omega | assumption, ?_⟩
    exact .inl ⟨(), trivial, rfl, rfl, rfl⟩
abbrev o22b (N : Nat) (A : Rel) : List Out := [.mk Unit (.exit 2) [6] (fun _ => True) (fun _ => [m7 N]) (fun _ => hr7 N (Rc A N N)) (fun _ => [])]
theorem simp22b : allSimpleM none1 (loopAt Try.f22 1) = true := by kernel_rfl
theorem lp22b (N : Nat) (A : Rel) (h : pO N A) (h0 : 1 ≤ N) :
    LoopS (En6 [c73m]) (loopAt Try.f22 1) 76 [6, 32, 33] [m7 N, I N, I 0] (hr7 N A) (o22b N A) := by
  have hR : Rests (En6 [c73m]) none1 := rests mixed (.rd _ c73m_reads .nil)
  have h6 := h.2
  refine loop_s hR simp22b none (by intro _ h; cases h) (fun k vs H => H = hr7 N (Rc A N k) ∧ vs = [m7 N, I N, I k]) N ⟨rfl, rfl⟩ (by intro _ h; cases h) ?_
  rintro k vs H hk ⟨rfl, rfl⟩
  by_cases hz : (k : Int) < N
  · have hz' : k < N := by omega
    have ev0 := wj1 (j := k) (by omega)
    have hp : pO N (Rc A N k) := ⟨Rc_rg h.1 N k, h6⟩
    have hl := lp22c N (Rc A N k) hp h0 k
    refine ⟨[Ans.o (Orc.b true), Ans.loop [(6 : Nat), (32 : Nat), (33 : Nat), (36 : Nat), (37 : Nat)] [Out.mk Unit (AX.exit (4 : Nat)) [(6 : Nat), (32 : Nat), (33 : Nat)] (fun x => True) (fun x => [m7 N, I (↑N : Int), I (↑k : Int)]) (fun x => hr7 N (Ri (Rc A N k) N N)) fun y => [Ans.o (Orc.val 61 (I (↑(k + (1 : Nat)) : Int)) H.nil)]]], fun u => of_eq ((↑k : Int) < (↑N : Int) ∧ LoopS (Env.mk Try.prog (Sof [c73m]) (Pof (P := Try.prog) []) H.nil.base (300 : Nat)) (loopAt Try.f22 (2 : Nat)) (76 : Nat) [(6 : Nat), (32 : Nat), (33 : Nat), (36 : Nat), (37 : Nat)] [AV.msl 0 0 N N (1 : Nat), I (↑N : Int), I (↑k : Int), I (↑N : Int), I 0] (H.mk [ints (rl N (Rc A N k))] [] []) [Out.mk Unit (AX.exit (4 : Nat)) [(6 : Nat), (32 : Nat), (33 : Nat)] (fun x => True) (fun x => [m7 N, I (↑N : Int), I (↑k : Int)]) (fun x => hr7 N (Ri (Rc A N k) N N)) fun y => [Ans.o (Orc.val 61 (I (↑(k + (1 : Nat)) : Int)) H.nil)]] ∧ (∀ (y : Unit), True → ∀ (u : Nat → AV), aBin Try.prog BinOp.add (3 : Nat) (I (↑k : Int)) (I 1) = some (I (↑(k + (1 : Nat)) : Int)) ∧ (76 : Nat) = (76 : Nat) ∧ k < N ∧ Keep (H.mk [ints (rl N (Ri (Rc A N k) N N))] [] [] = H.mk [ints (rl N (Rc A N (k + (1 : Nat))))] [] [] ∧ [AV.msl 0 0 N N (1 : Nat), I (↑N : Int), I (↑(k + (1 : Nat)) : Int)] = [AV.msl 0 0 N N (1 : Nat), I (↑N : Int), I (↑(k + (1 : Nat)) : Int)])) ∧ True) (by kernel_rfl) ?_⟩
    refine ⟨by first | with_reducible assumption | omega | assumption, ?_⟩
    refine ⟨hl, ?_⟩
    refine And.intro ?_ ?_
    · skip
      intro y
      intro w1
      intro u
      refine ⟨told_add (by with_reducible assumption), ?_⟩
      refine ⟨by first | with_reducible assumption | omega | assumption, ?_⟩
      refine ⟨by first | with_reducible assumption | omega | assumption, ?_⟩
      exact ⟨rfl, rfl⟩
    · skip
      trivial
  · have hz : (N : Int) ≤ k := by omega
    have hk' : k = N := by omega
    subst hk'
    refine ⟨[Ans.o (Orc.b false)], fun u => of_eq ((↑k : Int) ≤ (↑k : Int) ∧ (76 : Nat) = (76 : Nat) ∧ hits [Out.mk Unit (AX.exit (2 : Nat)) [(6 : Nat)] (fun x => True) (fun x => [m7 k]) (fun x => hr7 k (Rc A k k)) fun x => []] (AX.exit (2 : Nat)) [u (0 : Nat), u (1 : Nat), u (2 : Nat), u (3 : Nat), u (4 : Nat), u (5 : Nat), AV.msl 0 0 k k (1 : Nat), u (7 : Nat), u (8 : Nat), u (9 : Nat), u (10 : Nat), u (11 : Nat), u (12 : Nat), u (13 : Nat), u (14 : Nat), u (15 : Nat), u (16 : Nat), u (17 : Nat), u (18 : Nat), u (19 : Nat), u (20 : Nat), u (21 : Nat), u (22 : Nat), u (23 : Nat), u (24 : Nat), u (25 : Nat), u (26 : Nat), u (27 : Nat), u (28 : Nat), u (29 : Nat), u (30 : Nat), u (31 : Nat), I (↑k : Int), I (↑k : Int), AV.bool false, u (35 : Nat), u (36 : Nat), u (37 : Nat), u (38 : Nat), u (39 : Nat), u (40 : Nat), u (41 : Nat), u (42 : Nat), u (43 : Nat), u (44 : Nat), u (45 : Nat), u (46 : Nat), u (47 : Nat), u (48 : Nat), u (49 : Nat), u (50 : Nat), u (51 : Nat), u (52 : Nat), u (53 : Nat), u (54 : Nat), u (55 : Nat), u (56 : Nat), u (57 : Nat), u (58 : Nat), u (59 : Nat), u (60 : Nat), u (61 : Nat), u (62 : Nat), u (63 : Nat), u (64 : Nat), u (65 : Nat), u (66 : Nat), u (67 : Nat), u (68 : Nat), u (69 : Nat), u (70 : Nat), u (71 : Nat), u (72 : Nat), u (73 : Nat), u (74 : Nat), u (75 : Nat)] (H.mk [ints (rl k (Rc A k k))] [] [])) (by kernel_rfl) ?_⟩
    refine ⟨by first | with_reducible assumption | omega | assumption, ?_⟩
    refine ⟨by first | with_reducible assumption | omega | assumption, ?_⟩
    exact .inl ⟨(), trivial, rfl, rfl, rfl⟩
abbrev o22e (N : Nat) (A : Rel) : List Out := [.mk Nat .ret [4, 5] (fun i => i < N ∧ (A i).testBit i = true) (fun _ => [.sl [] 0 .nil, I 4]) (fun _ => hr7 N A) (fun _ => []), .mk Unit (.exit 8) [6] (fun _ => ir A N) (fun _ => [m7 N]) (fun _ => hr7 N A) (fun _ => [])]
theorem simp22e : allSimpleM none1 (loopAt Try.f22 4) = true := by kernel_rfl
theorem lp22e (N : Nat) (A : Rel) (h : pO N A) :
    LoopS (En6 [c73m]) (loopAt Try.f22 4) 76 [6, 62, 63, 64] [m7 N, m7 N, I N, I 0] (hr7 N A) (o22e N A) := by
  have hR : Rests (En6 [c73m]) none1 := rests mixed (.rd _ c73m_reads .nil)
  have h6 := h.2
  refine loop_s hR simp22e none (by intro _ h; cases h) (fun k vs H => H = hr7 N A ∧ vs = [m7 N, m7 N, I N, I k] ∧ ir A k) N ⟨rfl, rfl, fun i hi => absurd hi (Nat.not_lt_zero _)⟩ (by intro _ h; cases h) ?_
  rintro k vs H hk ⟨rfl, rfl, ha⟩
  by_cases hz : (k : Int) < N
  · have hz' : k < N := by omega
    have ev0 := wj1 (j := k) (by omega)
    have hb := rl_b h hz'
    have q1 : bi ((rl N A).getD k i0) k = (A k).testBit k := by rw [hb.1]; rfl
    have hh : 0 ≤ (rl N A).getD k i0 ∧ (rl N A).getD k i0 < 64 := by rw [hb.1]; have := hb.2; omega
    cases hv : bi ((rl N A).getD k i0) k
    · obtain ⟨ev1, ev2⟩ := i_bitv hh.1 hh.2 (show k ≤ 64 by omega) false hv
      have ev2 : IntKind.i64.wrap ((BitVec.ofInt IntKind.i64.bits ((((rl N A).getD k i0).toNat >>> k : Nat) : Int) &&& BitVec.ofInt IntKind.i64.bits 1).toNat : Int) = 0 := ev2
      have hk2 := ir_succ ha (q1.symm.trans hv)
      refine ⟨[Ans.o (Orc.b true), Ans.o (Orc.val 67 (AV.ptr 0 k) H.nil), Ans.o (Orc.val 68 (I ((rl N A).getD k i0)) H.nil), Ans.o (Orc.val 71 (I (↑(((rl N A).getD k i0).toNat >>> k) : Int)) H.nil), Ans.o (Orc.val 72 (I (↑false.toNat : Int)) H.nil), Ans.o Orc.dflt, Ans.o (Orc.val 74 (I (↑(k + (1 : Nat)) : Int)) H.nil)], fun u => of_eq ((↑k : Int) < (↑N : Int) ∧ aIndexAddr Try.prog (23 : Nat) (AV.msl 0 0 N N (1 : Nat)) (I (↑k : Int)) = some (AV.ptr 0 k) ∧ aLoad Try.prog (3 : Nat) (List.drop k (ints (rl N A))) = some (I ((rl N A).getD k i0)) ∧ aBin Try.prog BinOp.shr (3 : Nat) (I ((rl N A).getD k i0)) (I (↑k : Int)) = some (I (↑(((rl N A).getD k i0).toNat >>> k) : Int)) ∧ aBin Try.prog BinOp.and (3 : Nat) (I (↑(((rl N A).getD k i0).toNat >>> k) : Int)) (I 1) = some (I 0) ∧ aBin Try.prog BinOp.add (3 : Nat) (I (↑k : Int)) (I 1) = some (I (↑(k + (1 : Nat)) : Int)) ∧ (76 : Nat) = (76 : Nat) ∧ k < N ∧ Keep (H.mk [ints (rl N A)] [] [] = H.mk [ints (rl N A)] [] [] ∧ [AV.msl 0 0 N N (1 : Nat), AV.msl 0 0 N N (1 : Nat), I (↑N : Int), I (↑(k + (1 : Nat)) : Int)] = [AV.msl 0 0 N N (1 : Nat), AV.msl 0 0 N N (1 : Nat), I (↑N : Int), I (↑(k + (1 : Nat)) : Int)] ∧ ir A (k + (1 : Nat)))) (by kernel_rfl) ?_⟩
      refine ⟨by first | with_reducible assumption | omega | assumption, ?_⟩
      refine ⟨ixm0 (by kernel_rfl) (by omega), ?_⟩
      refine ⟨ldm_ints (by kernel_rfl) (by kernel_rfl) (by rw [rl_len]; omega), ?_⟩
      refine ⟨by first | exact told_shr (by first | exact Int.natCast_nonneg _ | omega) (by with_reducible assumption) | exact told_shr (by omega) rfl, ?_⟩
      refine ⟨told_and (by with_reducible assumption), ?_⟩
      refine ⟨told_add (by with_reducible assumption), ?_⟩
      refine ⟨by first | with_reducible assumption | omega | assumption, ?_⟩
      refine ⟨by first | with_reducible assumption | omega | assumption, ?_⟩
      exact ⟨rfl, rfl, hk2⟩
    · obtain ⟨ev1, ev2⟩ := i_bitv hh.1 hh.2 (show k ≤ 64 by omega) true hv
      have ev2 : IntKind.i64.wrap ((BitVec.ofInt IntKind.i64.bits ((((rl N A).getD k i0).toNat >>> k : Nat) : Int) &&& BitVec.ofInt IntKind.i64.bits 1).toNat : Int) = 1 := ev2
      have hk2 := q1.symm.trans hv
      refine ⟨[Ans.o (Orc.b true), Ans.o (Orc.val 67 (AV.ptr 0 k) H.nil), Ans.o (Orc.val 68 (I ((rl N A).getD k i0)) H.nil), Ans.o (Orc.val 71 (I (↑(((rl N A).getD k i0).toNat >>> k) : Int)) H.nil), Ans.o (Orc.val 72 (I (↑true.toNat : Int)) H.nil), Ans.o Orc.dflt], fun u => of_eq ((↑k : Int) < (↑N : Int) ∧ aIndexAddr Try.prog (23 : Nat) (AV.msl 0 0 N N (1 : Nat)) (I (↑k : Int)) = some (AV.ptr 0 k) ∧ aLoad Try.prog (3 : Nat) (List.drop k (ints (rl N A))) = some (I ((rl N A).getD k i0)) ∧ aBin Try.prog BinOp.shr (3 : Nat) (I ((rl N A).getD k i0)) (I (↑k : Int)) = some (I (↑(((rl N A).getD k i0).toNat >>> k) : Int)) ∧ aBin Try.prog BinOp.and (3 : Nat) (I (↑(((rl N A).getD k i0).toNat >>> k) : Int)) (I 1) = some (I 1) ∧ (76 : Nat) = (76 : Nat) ∧ hits [Out.mk Nat AX.ret [(4 : Nat), (5 : Nat)] (fun i => i < N ∧ (A i).testBit i = true) (fun x => [AV.sl [] (0 : Nat) Room.nil, I 4]) (fun x => hr7 N A) fun x => [], Out.mk Unit (AX.exit (8 : Nat)) [(6 : Nat)] (fun x => ir A N) (fun x => [m7 N]) (fun x => hr7 N A) fun x => []] AX.ret [u (0 : Nat), u (1 : Nat), u (2 : Nat), u (3 : Nat), AV.sl [] (0 : Nat) Room.nil, I 4, AV.msl 0 0 N N (1 : Nat), u (7 : Nat), u (8 : Nat), u (9 : Nat), u (10 : Nat), I (↑k : Int), I ((rl N A).getD k i0), u (13 : Nat), u (14 : Nat), u (15 : Nat), u (16 : Nat), u (17 : Nat), u (18 : Nat), u (19 : Nat), u (20 : Nat), u (21 : Nat), u (22 : Nat), u (23 : Nat), u (24 : Nat), u (25 : Nat), u (26 : Nat), u (27 : Nat), u (28 : Nat), u (29 : Nat), u (30 : Nat), u (31 : Nat), u (32 : Nat), u (33 : Nat), u (34 : Nat), u (35 : Nat), u (36 : Nat), u (37 : Nat), u (38 : Nat), u (39 : Nat), u (40 : Nat), u (41 : Nat), u (42 : Nat), u (43 : Nat), u (44 : Nat), u (45 : Nat), u (46 : Nat), u (47 : Nat), u (48 : Nat), u (49 : Nat), u (50 : Nat), u (51 : Nat), u (52 : Nat), u (53 : Nat), u (54 : Nat), u (55 : Nat), u (56 : Nat), u (57 : Nat), u (58 : Nat), u (59 : Nat), u (60 : Nat), u (61 : Nat), AV.msl 0 0 N N (1 : Nat), I (↑N : Int), I (↑k : Int), AV.bool true, I (↑k : Int), AV.ptr 0 k, I ((rl N A).getD k i0), I ((rl N A).getD k i0), I (↑k : Int), I (↑(((rl N A).getD k i0).toNat >>> k) : Int), I 1, AV.bool true, u (74 : Nat), u (75 : Nat)] (H.mk [ints (rl N A)] [] [])) (by kernel_rfl) ?_⟩
      refine ⟨by first | with_reducible assumption | omega | assumption, ?_⟩
      refine ⟨ixm0 (by kernel_rfl) (by omega), ?_⟩
      refine ⟨ldm_ints (by kernel_rfl) (by kernel_rfl) (by rw [rl_len]; omega), ?_⟩
      refine ⟨by first | exact told_shr (by first | exact Int.natCast_nonneg _ | omega) (by with_reducible assumption) | exact told_shr (by omega) rfl, ?_⟩
      refine ⟨told_and (by with_reducible assumption), ?_⟩
      refine ⟨by first | with_reducible assumption | omega | assumption, ?_⟩
      exact .inl ⟨k, ⟨hz', hk2⟩, rfl, rfl, rfl⟩
  · have hz : (N : Int) ≤ k := by omega
    have hk' : k = N := by omega
    subst hk'
    refine ⟨[Ans.o (Orc.b false)], fun u => of_eq ((↑k : Int) ≤ (↑k : Int) ∧ (76 : Nat) = (76 : Nat) ∧ hits [Out.mk Nat AX.ret [(4 : Nat), (5 : Nat)] (fun i => i < k ∧ (A i).testBit i = true) (fun x => [AV.sl [] (0 : Nat) Room.nil, I 4]) (fun x => hr7 k A) fun x => [], Out.mk Unit (AX.exit (8 : Nat)) [(6 : Nat)] (fun x => ir A k) (fun x => [m7 k]) (fun x => hr7 k A) fun x => []] (AX.exit (8 : Nat)) [u (0 : Nat), u (1 : Nat), u (2 : Nat), u (3 : Nat), u (4 : Nat), u (5 : Nat), AV.msl 0 0 k k (1 : Nat), u (7 : Nat), u (8 : Nat), u (9 : Nat), u (10 : Nat), u (11 : Nat), u (12 : Nat), u (13 : Nat), u (14 : Nat), u (15 : Nat), u (16 : Nat), u (17 : Nat), u (18 : Nat), u (19 : Nat), u (20 : Nat), u (21 : Nat), u (22 : Nat), u (23 : Nat), u (24 : Nat), u (25 : Nat), u (26 : Nat), u (27 : Nat), u (28 : Nat), u (29 : Nat), u (30 : Nat), u (31 : Nat), u (32 : Nat), u (33 : Nat), u (34 : Nat), u (35 : Nat), u (36 : Nat), u (37 : Nat), u (38 : Nat), u (39 : Nat), u (40 : Nat), u (41 : Nat), u (42 : Nat), u (43 : Nat), u (44 : Nat), u (45 : Nat), u (46 : Nat), u (47 : Nat), u (48 : Nat), u (49 : Nat), u (50 : Nat), u (51 : Nat), u (52 : Nat), u (53 : Nat), u (54 : Nat), u (55 : Nat), u (56 : Nat), u (57 : Nat), u (58 : Nat), u (59 : Nat), u (60 : Nat), u (61 : Nat), AV.msl 0 0 k k (1 : Nat), I (↑k : Int), I (↑k : Int), AV.bool false, u (66 : Nat), u (67 : Nat), u (68 : Nat), u (69 : Nat), u (70 : Nat), u (71 : Nat), u (72 : Nat), u (73 : Nat), u (74 : Nat), u (75 : Nat)] (H.mk [ints (rl k A)] [] [])) (by kernel_rfl) ?_⟩
    refine ⟨by first | with_reducible assumption | omega | assumption, ?_⟩
    refine ⟨by first | with_reducible assumption | omega | assumption, ?_⟩
    exact .inr (.inl ⟨(), ha, rfl, rfl, rfl⟩)
theorem ok22 : FokM Try.prog none1 22 Try.f22 := ⟨mixed, by kernel_rfl, by kernel_rfl, by kernel_rfl, by kernel_rfl⟩
theorem rl_zero (N : Nat) : rl N zeroR = List.replicate N i0 := by simp [rl, zeroR, List.map_const']
abbrev o22t (N : Nat) (A : Rel) : List Out := [.mk Unit (.exit 8) [6] (fun _ => ir A N) (fun _ => [m7 N]) (fun _ => hr7 N A) (fun _ => [])]
abbrev o22n (N : Nat) (A : Rel) : List Out := [.mk Nat .ret [4, 5] (fun i => i < N ∧ (A i).testBit i = true) (fun _ => [.sl [] 0 .nil, I 4]) (fun _ => hr7 N A) (fun _ => [])]
theorem r22t (N : Nat) (l : List Pr) (r : Room) (h0 : 1 ≤ N) (h1 : N ≤ 6) (h2 : l.length ≤ 30) (h3 : rok l r.wk) (ha : prA N l) (hi : Irr (clR N l)) : Body (En6 [c73m]) none1 Try.f22 [I N, pz l r.wk] .nil (.tup [ls (rl N (clR N l)) .full, I 0], .nil) := by
  have hmk := mk_ints (P := Try.prog) (t := 23) (by kernel_rfl) (n := N) (h := .nil) (by omega)
  rw [← rl_zero] at hmk
  have hg := Pn_rg ha l.length (Nat.le_refl _)
  have hp : pO N (Pn l l.length) := ⟨hg, h1⟩
  have la := lp22a N l r h1 h2 h3 ha
  have lb := lp22b N (Pn l l.length) hp h0
  rw [o22b, Rc_eq hg] at lb
  have le := lp22e N (clR N l) ⟨Wn_rg hg N, h1⟩
  have le1 : LoopS (En6 [c73m]) (loopAt Try.f22 4) 76 [6, 62, 63, 64] [m7 N, m7 N, I N, I 0] (hr7 N (clR N l)) (o22t N (clR N l)) := fun A hA hs => (le A hA hs).mono fun x A' H' ⟨k, hh⟩ => ⟨k, by
    rcases hh with ⟨i, hc, _⟩ | hh | hh
    · exact absurd hc.2 (hi i)
    · exact .inl hh
    · exact hh.elim⟩
  refine body_s ([Ans.o (Orc.val 14 (AV.msl H.nil.blk.length (0 : Nat) N N (1 : Nat)) (H.mk (H.nil.blk ++ [ints (rl N zeroR)]) H.nil.toks H.nil.maps)), Ans.loop [(0 : Nat), (6 : Nat), (15 : Nat), (16 : Nat), (17 : Nat)] [Out.mk Unit (AX.exit (0 : Nat)) [(0 : Nat), (6 : Nat)] (fun x => True) (fun x => [I (↑N : Int), m7 N]) (fun x => hr7 N (Pn l l.length)) fun y => [Ans.loop [(6 : Nat), (32 : Nat), (33 : Nat)] [Out.mk Unit (AX.exit (2 : Nat)) [(6 : Nat)] (fun x => True) (fun x => [m7 N]) (fun x => hr7 N (clR N l)) fun y => [Ans.loop [(6 : Nat), (62 : Nat), (63 : Nat), (64 : Nat)] [Out.mk Unit (AX.exit (8 : Nat)) [(6 : Nat)] (fun x => ir (clR N l) N) (fun x => [m7 N]) (fun x => hr7 N (clR N l)) fun y => []]]]]]]) (aMake Try.prog (23 : Nat) (↑N : Int) (↑N : Int) (H.mk [] [] []) = some (AV.msl 0 0 N N (1 : Nat), H.mk [ints (rl N zeroR)] [] []) ∧ LoopS (Env.mk Try.prog (Sof [c73m]) (Pof (P := Try.prog) []) H.nil.base (300 : Nat)) (loopAt Try.f22 (0 : Nat)) (76 : Nat) [(0 : Nat), (6 : Nat), (15 : Nat), (16 : Nat), (17 : Nat)] [I (↑N : Int), AV.msl 0 0 N N (1 : Nat), AV.sl (pairsA l) l.length r.wk, I (↑l.length : Int), I 0] (H.mk [ints (rl N zeroR)] [] []) [Out.mk Unit (AX.exit (0 : Nat)) [(0 : Nat), (6 : Nat)] (fun x => True) (fun x => [I (↑N : Int), m7 N]) (fun x => hr7 N (Pn l l.length)) fun y => [Ans.loop [(6 : Nat), (32 : Nat), (33 : Nat)] [Out.mk Unit (AX.exit (2 : Nat)) [(6 : Nat)] (fun x => True) (fun x => [m7 N]) (fun x => hr7 N (clR N l)) fun y => [Ans.loop [(6 : Nat), (62 : Nat), (63 : Nat), (64 : Nat)] [Out.mk Unit (AX.exit (8 : Nat)) [(6 : Nat)] (fun x => ir (clR N l) N) (fun x => [m7 N]) (fun x => hr7 N (clR N l)) fun y => []]]]]] ∧ (∀ (y : Unit), True → ∀ (u : Nat → AV), LoopS (Env.mk Try.prog (Sof [c73m]) (Pof (P := Try.prog) []) H.nil.base (300 : Nat)) (loopAt Try.f22 (1 : Nat)) (76 : Nat) [(6 : Nat), (32 : Nat), (33 : Nat)] [AV.msl 0 0 N N (1 : Nat), I (↑N : Int), I 0] (H.mk [ints (rl N (Pn l l.length))] [] []) [Out.mk Unit (AX.exit (2 : Nat)) [(6 : Nat)] (fun x => True) (fun x => [m7 N]) (fun x => hr7 N (clR N l)) fun y => [Ans.loop [(6 : Nat), (62 : Nat), (63 : Nat), (64 : Nat)] [Out.mk Unit (AX.exit (8 : Nat)) [(6 : Nat)] (fun x => ir (clR N l) N) (fun x => [m7 N]) (fun x => hr7 N (clR N l)) fun y => []]]] ∧ (∀ (y : Unit), True → ∀ (u : Nat → AV), LoopS (Env.mk Try.prog (Sof [c73m]) (Pof (P := Try.prog) []) H.nil.base (300 : Nat)) (loopAt Try.f22 (4 : Nat)) (76 : Nat) [(6 : Nat), (62 : Nat), (63 : Nat), (64 : Nat)] [AV.msl 0 0 N N (1 : Nat), AV.msl 0 0 N N (1 : Nat), I (↑N : Int), I 0] (H.mk [ints (rl N (clR N l))] [] []) [Out.mk Unit (AX.exit (8 : Nat)) [(6 : Nat)] (fun x => ir (clR N l) N) (fun x => [m7 N]) (fun x => hr7 N (clR N l)) fun y => []] ∧ (∀ (y : Unit), (∀ (i : Nat), i < N → (clR N l i).testBit i = false) → ∀ (u : Nat → AV), leave (Base.mk H.nil.blk.length H.nil.toks.length H.nil.maps.length) (AV.tup [AV.msl 0 0 N N (1 : Nat), I 0]) (H.mk [ints (rl N (clR N l))] [] []) = (AV.tup [AV.sl (ints (rl N (clR N l))) (rl N (clR N l)).length Room.full, I 0], H.mk [] [] [])) ∧ True) ∧ True) ∧ True) (by kernel_rfl) ?_
  refine ⟨hmk, ?_⟩
  refine ⟨la, ?_⟩
  refine And.intro ?_ ?_
  · skip
    intro y
    intro w1
    intro u
    refine ⟨lb, ?_⟩
    refine And.intro ?_ ?_
    · skip
      intro y
      intro w4
      intro u
      refine ⟨le1, ?_⟩
      refine And.intro ?_ ?_
      · skip
        intro y
        intro w7
        intro u
        exact (leave_mt (rl_len N _)).trans (by show _ = (AV.tup [AV.sl _ (rl N (clR N l)).length _, _], _); rw [rl_len]; rfl)
      · skip
        trivial
    · skip
      trivial
  · skip
    trivial
theorem r22n (N : Nat) (l : List Pr) (r : Room) (h0 : 1 ≤ N) (h1 : N ≤ 6) (h2 : l.length ≤ 30) (h3 : rok l r.wk) (ha : prA N l) (hi : ¬ Irr (clR N l)) : Body (En6 [c73m]) none1 Try.f22 [I N, pz l r.wk] .nil (.tup [.sl [] 0 .nil, I 4], .nil) := by
  have hmk := mk_ints (P := Try.prog) (t := 23) (by kernel_rfl) (n := N) (h := .nil) (by omega)
  rw [← rl_zero] at hmk
  have hg := Pn_rg ha l.length (Nat.le_refl _)
  have hp : pO N (Pn l l.length) := ⟨hg, h1⟩
  have la := lp22a N l r h1 h2 h3 ha
  have lb := lp22b N (Pn l l.length) hp h0
  rw [o22b, Rc_eq hg] at lb
  have le := lp22e N (clR N l) ⟨Wn_rg hg N, h1⟩
  have le1 : LoopS (En6 [c73m]) (loopAt Try.f22 4) 76 [6, 62, 63, 64] [m7 N, m7 N, I N, I 0] (hr7 N (clR N l)) (o22n N (clR N l)) := fun A hA hs => (le A hA hs).mono fun x A' H' ⟨k, hh⟩ => ⟨k, by
    rcases hh with hh | ⟨_, hc, _⟩ | hh
    · exact .inl hh
    · exact absurd (cy_irr (cy_f (Wn_rg hg N) hc)) hi
    · exact hh.elim⟩
  refine body_s ([Ans.o (Orc.val 14 (AV.msl H.nil.blk.length (0 : Nat) N N (1 : Nat)) (H.mk (H.nil.blk ++ [ints (rl N zeroR)]) H.nil.toks H.nil.maps)), Ans.loop [(0 : Nat), (6 : Nat), (15 : Nat), (16 : Nat), (17 : Nat)] [Out.mk Unit (AX.exit (0 : Nat)) [(0 : Nat), (6 : Nat)] (fun x => True) (fun x => [I (↑N : Int), m7 N]) (fun x => hr7 N (Pn l l.length)) fun y => [Ans.loop [(6 : Nat), (32 : Nat), (33 : Nat)] [Out.mk Unit (AX.exit (2 : Nat)) [(6 : Nat)] (fun x => True) (fun x => [m7 N]) (fun x => hr7 N (clR N l)) fun y => [Ans.loop [(6 : Nat), (62 : Nat), (63 : Nat), (64 : Nat)] [Out.mk Nat AX.ret [(4 : Nat), (5 : Nat)] (fun i => i < N ∧ (clR N l i).testBit i = true) (fun x => [AV.sl [] (0 : Nat) Room.nil, I 4]) (fun x => hr7 N (clR N l)) fun y => []]]]]]]) (aMake Try.prog (23 : Nat) (↑N : Int) (↑N : Int) (H.mk [] [] []) = some (AV.msl 0 0 N N (1 : Nat), H.mk [ints (rl N zeroR)] [] []) ∧ LoopS (Env.mk Try.prog (Sof [c73m]) (Pof (P := Try.prog) []) H.nil.base (300 : Nat)) (loopAt Try.f22 (0 : Nat)) (76 : Nat) [(0 : Nat), (6 : Nat), (15 : Nat), (16 : Nat), (17 : Nat)] [I (↑N : Int), AV.msl 0 0 N N (1 : Nat), AV.sl (pairsA l) l.length r.wk, I (↑l.length : Int), I 0] (H.mk [ints (rl N zeroR)] [] []) [Out.mk Unit (AX.exit (0 : Nat)) [(0 : Nat), (6 : Nat)] (fun x => True) (fun x => [I (↑N : Int), m7 N]) (fun x => hr7 N (Pn l l.length)) fun y => [Ans.loop [(6 : Nat), (32 : Nat), (33 : Nat)] [Out.mk Unit (AX.exit (2 : Nat)) [(6 : Nat)] (fun x => True) (fun x => [m7 N]) (fun x => hr7 N (clR N l)) fun y => [Ans.loop [(6 : Nat), (62 : Nat), (63 : Nat), (64 : Nat)] [Out.mk Nat AX.ret [(4 : Nat), (5 : Nat)] (fun i => i < N ∧ (clR N l i).testBit i = true) (fun x => [AV.sl [] (0 : Nat) Room.nil, I 4]) (fun x => hr7 N (clR N l)) fun y => []]]]]] ∧ (∀ (y : Unit), True → ∀ (u : Nat → AV), LoopS (Env.mk Try.prog (Sof [c73m]) (Pof (P := Try.prog) []) H.nil.base (300 : Nat)) (loopAt Try.f22 (1 : Nat)) (76 : Nat) [(6 : Nat), (32 : Nat), (33 : Nat)] [AV.msl 0 0 N N (1 : Nat), I (↑N : Int), I 0] (H.mk [ints (rl N (Pn l l.length))] [] []) [Out.mk Unit (AX.exit (2 : Nat)) [(6 : Nat)] (fun x => True) (fun x => [m7 N]) (fun x => hr7 N (clR N l)) fun y => [Ans.loop [(6 : Nat), (62 : Nat), (63 : Nat), (64 : Nat)] [Out.mk Nat AX.ret [(4 : Nat), (5 : Nat)] (fun i => i < N ∧ (clR N l i).testBit i = true) (fun x => [AV.sl [] (0 : Nat) Room.nil, I 4]) (fun x => hr7 N (clR N l)) fun y => []]]] ∧ (∀ (y : Unit), True → ∀ (u : Nat → AV), LoopS (Env.mk Try.prog (Sof [c73m]) (Pof (P := Try.prog) []) H.nil.base (300 : Nat)) (loopAt Try.f22 (4 : Nat)) (76 : Nat) [(6 : Nat), (62 : Nat), (63 : Nat), (64 : Nat)] [AV.msl 0 0 N N (1 : Nat), AV.msl 0 0 N N (1 : Nat), I (↑N : Int), I 0] (H.mk [ints (rl N (clR N l))] [] []) [Out.mk Nat AX.ret [(4 : Nat), (5 : Nat)] (fun i => i < N ∧ (clR N l i).testBit i = true) (fun x => [AV.sl [] (0 : Nat) Room.nil, I 4]) (fun x => hr7 N (clR N l)) fun y => []] ∧ (∀ (y : Nat), y < N ∧ (clR N l y).testBit y = true → ∀ (u : Nat → AV), (AV.tup [AV.sl [] (0 : Nat) Room.nil, I 4], H.mk [] [] []) = (AV.tup [AV.sl [] (0 : Nat) Room.nil, I 4], H.mk [] [] [])) ∧ True) ∧ True) ∧ True) (by kernel_rfl) ?_
  refine ⟨hmk, ?_⟩
  refine ⟨la, ?_⟩
  refine And.intro ?_ ?_
  · skip
    intro y
    intro w1
    intro u
    refine ⟨lb, ?_⟩
    refine And.intro ?_ ?_
    · skip
      intro y
      intro w4
      intro u
      refine ⟨le1, ?_⟩
      refine And.intro ?_ ?_
      · skip
        intro y
        intro w7
        intro u
        first | rfl | exact leave_bs _ (by simp [AV.bnd, AV.bnds, Room.bnd])
      · skip
        trivial
    · skip
      trivial
  · skip
    trivial
noncomputable def c22t : PCtr Try.prog := sctr ok22 (X := Nat × List Pr × Room) (fun x => [I x.1, pz x.2.1 x.2.2]) (fun x => (clOK x.1 x.2.1 ∧ Irr (clR x.1 x.2.1)) ∧ rok x.2.1 x.2.2) (fun x => .tup [ls (rl x.1 (clR x.1 x.2.1)) .full, I 0])
  (by rintro ⟨n, l, r⟩ ⟨m, k, s⟩ e _ _; simp only [List.cons.injEq, AV.int.injEq, AV.sl.injEq, true_and, and_true, Int.natCast_inj] at e; obtain ⟨rfl, e, _⟩ := e; rw [pairsA_inj e]) (fun x => pz_wk _ _ _) (fun x => by simp [AV.bnd, AV.bnds, Room.bnd])
  (fun x hx => ⟨_, _, _, (.rd _ c73m_reads .nil), r22t x.1 x.2.1 x.2.2 (by have := hx.1.1.1; omega) (by have := hx.1.1.1; omega) hx.1.1.1.2 (by simpa using hx.2) hx.1.1.2 hx.1.2⟩)
noncomputable def c22n : PCtr Try.prog := sctr ok22 (X := Nat × List Pr × Room) (fun x => [I x.1, pz x.2.1 x.2.2]) (fun x => (clOK x.1 x.2.1 ∧ ¬ Irr (clR x.1 x.2.1)) ∧ rok x.2.1 x.2.2) (fun x => .tup [.sl [] 0 .nil, I 4])
  (fun _ _ _ _ _ => rfl) (fun x => pz_wk _ _ _) (fun x => rfl)
  (fun x hx => ⟨_, _, _, (.rd _ c73m_reads .nil), r22n x.1 x.2.1 x.2.2 (by have := hx.1.1.1; omega) (by have := hx.1.1.1; omega) hx.1.1.1.2 (by simpa using hx.2) hx.1.1.2 hx.1.2⟩)
end Go.Proofs.Ord

