/- Layer 2: results turned, by the reference. -/
import Derived.Test.YtnnhomkkggkkfaaDoorRkAo
import Derived.Test.YtnnhomkkggkkfaaDoorVm8
import Derived.KernelRfl
set_option linter.unusedSimpArgs false
set_option linter.unusedVariables false
set_option linter.unnecessarySimpa false
set_option maxHeartbeats 4000000
set_option maxRecDepth 100000
namespace Go.Proofs.Rnk
open Go Go.VM
open Go.Proofs.Sur (andn andn_bit andn_le i_wrap i_and i_or i_xor i_andn i_shl i_shr bit_01)
local instance wrI2 : Inhabited Globs := ⟨⟨gcell, fun t => t == 22⟩⟩

/-- a type of slices whose elements are one cell, and whose appends may be written -/
def appTW (P : Program) (t : TypeId) : Bool :=
  match elemT P t with
  | some e => match P.info? e, zeroCs P e with
    | some i, some z => i.size == 1 && decide (i.bytes ≤ 24) && z.length == 1 && appW t
    | _, _ => false
  | none => false
theorem app_newW {P : Program} {t : TypeId} (hT : appTW P t = true) {cs : List AV} {n : Nat} {r : Room} {h : H} (hne : n ≠ 0) (hl : cs.length = n) (ho : cs.all AV.one = true) (hn : n ≤ 1000000000) :
    aAppend P t t (.sl [] 0 .full) (.sl cs n r) h = some (.msl h.blk.length 0 n noCap 1, { h with blk := h.blk ++ [cs] }) := by
  unfold appTW at hT
  split at hT
  · rename_i e he
    split at hT
    · rename_i i z hi hz
      simp only [Bool.and_eq_true, beq_iff_eq, decide_eq_true_eq] at hT
      obtain ⟨⟨⟨h1, h2⟩, h3⟩, h4⟩ := hT
      have hb : n * i.bytes ≤ 2 ^ 47 := Nat.le_trans (Nat.mul_le_mul hn h2) (by decide)
      have hm : n ≤ maxLen := Nat.le_trans hn (by decide)
      have ho' : ∀ x ∈ cs, x.one = true := List.all_eq_true.1 ho
      simp [aAppend, he, hi, hz, h1, h3, h4, slCells, hl, hb, hm, hne]
      exact ho'
    · cases hT
  · cases hT
abbrev o52 (t : List Int) (l : List Pr) : List Out := [.mk Unit (.exit 0) [5] (fun _ => True) (fun _ => [mR t.length]) (fun _ => hR t.length (tn t l)) (fun _ => [])]
theorem simp52 : allSimpleM none1 (loopAt Tryd.f52 0) = true := by kernel_rfl
theorem lp52 (t : List Int) (h : Tn t) (l : List Pr) (r : Room) (hr : rok l r) (hrb : r.bnd 0 = true) (hl : prs t.length l) (hll : l.length ≤ 28) :
    LoopS (En6 []) (loopAt Tryd.f52 0) 39 [5, 11, 12, 13] [mR t.length, pz l r, I l.length, I 0] (hR t.length (tv (sn t) l 0)) (o52 t l) := by
  have hRs : Rests (En6 []) none1 := rests mixed .nil
  have h8 := h.s.2
  refine loop_s hRs simp52 (some 1) (by intro nb h; cases h; exact ⟨Nat.zero_le _, Nat.le_refl 1⟩) (fun k vs H => H = hR t.length (tv (sn t) l k) ∧ vs = [mR t.length, pz l r, I l.length, I k]) l.length ⟨rfl, rfl⟩ (by rintro nb h j vs h' ⟨rfl, _⟩; cases h; exact Nat.le_refl 1) ?_
  rintro k vs H hk ⟨rfl, rfl⟩
  by_cases hz : (k : Int) < l.length
  · have hz' : k < l.length := by omega
    have hri := rok_idx hr hz'
    have ev0 := wj1 (j := k) (by omega)
    have hcl : AV.bnds 1 0 0 [mR t.length, pz l r, I l.length, I (k + 1 : Nat)] = true := by simp [AV.bnds, AV.bnd, hrb]
    have hcn : ∀ z, (H.mk [ints (wl t.length (tv (sn t) l (k + 1))), z] [] []).clean 1 := fun z cs hcs => by simp at hcs; subst hcs; exact ints_bnds _ _ _ _
    obtain ⟨d0, d1, d2, d3, d6, d7, e0, e1, ev1, ev2, ev3, hs0, ev4, hs1⟩ := ts_ok (A := tv (sn t) l k) (hl k hz') h8 (fun e => tv_lt h (fun j hj => hl j (by omega)) e)
    have hs1' : (wl t.length (T0 (tv (sn t) l k) (p1 l k) (p2 l k))).set (p2 l k) ((T1 (tv (sn t) l k) (p1 l k) (p2 l k) (p2 l k) : Nat) : Int) = wl t.length (tv (sn t) l (k + 1)) := hs1
    rw [← hs0] at ev4
    refine ⟨[Ans.o (Orc.b true), Ans.o (Orc.val 15 (AV.cptr (pairsA (List.drop k l))) H.nil), Ans.o (Orc.val 16 (AV.agg [I (l.getD k pair0).fst, I (l.getD k pair0).snd]) H.nil), Ans.o (Orc.val 20 (AV.ptr 0 (l.getD k pair0).fst.toNat) H.nil), Ans.o (Orc.val 21 (I ((wl t.length (tv (sn t) l k)).getD (l.getD k pair0).fst.toNat i0)) H.nil), Ans.o (Orc.val 24 (I (↑((2 : Nat) ^ (l.getD k pair0).snd.toNat) : Int)) H.nil), Ans.o (Orc.val 25 (I (↑(T0 (tv (sn t) l k) (l.getD k pair0).fst.toNat (l.getD k pair0).snd.toNat (l.getD k pair0).fst.toNat) : Int)) H.nil), Ans.o (Orc.val 26 (AV.ptr 0 (l.getD k pair0).fst.toNat) H.nil), Ans.o (Orc.val 9999 (AV.tup []) (H.mk [ints ((wl t.length (tv (sn t) l k)).set (l.getD k pair0).fst.toNat (↑(T0 (tv (sn t) l k) (l.getD k pair0).fst.toNat (l.getD k pair0).snd.toNat (l.getD k pair0).fst.toNat) : Int)), [I (l.getD k pair0).fst, I (l.getD k pair0).snd]] [] [])), Ans.o (Orc.val 30 (AV.ptr 0 (l.getD k pair0).snd.toNat) H.nil), Ans.o (Orc.val 31 (I (((wl t.length (tv (sn t) l k)).set (l.getD k pair0).fst.toNat (↑(T0 (tv (sn t) l k) (l.getD k pair0).fst.toNat (l.getD k pair0).snd.toNat (l.getD k pair0).fst.toNat) : Int)).getD (l.getD k pair0).snd.toNat i0)) H.nil), Ans.o (Orc.val 34 (I (↑((2 : Nat) ^ (l.getD k pair0).fst.toNat) : Int)) H.nil), Ans.o (Orc.val 35 (I (↑(T1 (tv (sn t) l k) (l.getD k pair0).fst.toNat (l.getD k pair0).snd.toNat (l.getD k pair0).snd.toNat) : Int)) H.nil), Ans.o (Orc.val 36 (AV.ptr 0 (l.getD k pair0).snd.toNat) H.nil), Ans.o (Orc.val 9999 (AV.tup []) (H.mk [ints (((wl t.length (tv (sn t) l k)).set (l.getD k pair0).fst.toNat (↑(T0 (tv (sn t) l k) (l.getD k pair0).fst.toNat (l.getD k pair0).snd.toNat (l.getD k pair0).fst.toNat) : Int)).set (l.getD k pair0).snd.toNat (↑(T1 (tv (sn t) l k) (l.getD k pair0).fst.toNat (l.getD k pair0).snd.toNat (l.getD k pair0).snd.toNat) : Int)), [I (l.getD k pair0).fst, I (l.getD k pair0).snd]] [] [])), Ans.o (Orc.val 37 (I (↑(k + (1 : Nat)) : Int)) H.nil)], fun u => of_eq ((↑k : Int) < (↑l.length : Int) ∧ aIndexAddr Tryd.prog (45 : Nat) (AV.sl (pairsA l) l.length r) (I (↑k : Int)) = some (AV.cptr (pairsA (List.drop k l))) ∧ aLoad Tryd.prog (54 : Nat) (pairsA (List.drop k l)) = some (AV.agg [I (l.getD k pair0).fst, I (l.getD k pair0).snd]) ∧ aIndexAddr Tryd.prog (22 : Nat) (AV.msl 0 0 t.length (9223372036854775808 : Nat) (1 : Nat)) (I (l.getD k pair0).fst) = some (AV.ptr 0 (l.getD k pair0).fst.toNat) ∧ aLoad Tryd.prog (3 : Nat) (List.drop (l.getD k pair0).fst.toNat (ints (wl t.length (tv (sn t) l k)))) = some (I ((wl t.length (tv (sn t) l k)).getD (l.getD k pair0).fst.toNat i0)) ∧ aBin Tryd.prog BinOp.shl (3 : Nat) (I 1) (I (l.getD k pair0).snd) = some (I (↑((2 : Nat) ^ (l.getD k pair0).snd.toNat) : Int)) ∧ aBin Tryd.prog BinOp.xor (3 : Nat) (I ((wl t.length (tv (sn t) l k)).getD (l.getD k pair0).fst.toNat i0)) (I (↑((2 : Nat) ^ (l.getD k pair0).snd.toNat) : Int)) = some (I (↑(T0 (tv (sn t) l k) (l.getD k pair0).fst.toNat (l.getD k pair0).snd.toNat (l.getD k pair0).fst.toNat) : Int)) ∧ aIndexAddr Tryd.prog (22 : Nat) (AV.msl 0 0 t.length (9223372036854775808 : Nat) (1 : Nat)) (I (l.getD k pair0).fst) = some (AV.ptr 0 (l.getD k pair0).fst.toNat) ∧ aStore Tryd.prog H.nil.base (3 : Nat) (AV.ptr 0 (l.getD k pair0).fst.toNat) (I (↑(T0 (tv (sn t) l k) (l.getD k pair0).fst.toNat (l.getD k pair0).snd.toNat (l.getD k pair0).fst.toNat) : Int)) (H.mk [ints (wl t.length (tv (sn t) l k)), [I (l.getD k pair0).fst, I (l.getD k pair0).snd]] [] []) = some (H.mk [ints ((wl t.length (tv (sn t) l k)).set (l.getD k pair0).fst.toNat (↑(T0 (tv (sn t) l k) (l.getD k pair0).fst.toNat (l.getD k pair0).snd.toNat (l.getD k pair0).fst.toNat) : Int)), [I (l.getD k pair0).fst, I (l.getD k pair0).snd]] [] []) ∧ aIndexAddr Tryd.prog (22 : Nat) (AV.msl 0 0 t.length (9223372036854775808 : Nat) (1 : Nat)) (I (l.getD k pair0).snd) = some (AV.ptr 0 (l.getD k pair0).snd.toNat) ∧ aLoad Tryd.prog (3 : Nat) (List.drop (l.getD k pair0).snd.toNat (ints ((wl t.length (tv (sn t) l k)).set (l.getD k pair0).fst.toNat (↑(T0 (tv (sn t) l k) (l.getD k pair0).fst.toNat (l.getD k pair0).snd.toNat (l.getD k pair0).fst.toNat) : Int)))) = some (I (((wl t.length (tv (sn t) l k)).set (l.getD k pair0).fst.toNat (↑(T0 (tv (sn t) l k) (l.getD k pair0).fst.toNat (l.getD k pair0).snd.toNat (l.getD k pair0).fst.toNat) : Int)).getD (l.getD k pair0).snd.toNat i0)) ∧ aBin Tryd.prog BinOp.shl (3 : Nat) (I 1) (I (l.getD k pair0).fst) = some (I (↑((2 : Nat) ^ (l.getD k pair0).fst.toNat) : Int)) ∧ aBin Tryd.prog BinOp.xor (3 : Nat) (I (((wl t.length (tv (sn t) l k)).set (l.getD k pair0).fst.toNat (↑(T0 (tv (sn t) l k) (l.getD k pair0).fst.toNat (l.getD k pair0).snd.toNat (l.getD k pair0).fst.toNat) : Int)).getD (l.getD k pair0).snd.toNat i0)) (I (↑((2 : Nat) ^ (l.getD k pair0).fst.toNat) : Int)) = some (I (↑(T1 (tv (sn t) l k) (l.getD k pair0).fst.toNat (l.getD k pair0).snd.toNat (l.getD k pair0).snd.toNat) : Int)) ∧ aIndexAddr Tryd.prog (22 : Nat) (AV.msl 0 0 t.length (9223372036854775808 : Nat) (1 : Nat)) (I (l.getD k pair0).snd) = some (AV.ptr 0 (l.getD k pair0).snd.toNat) ∧ aStore Tryd.prog H.nil.base (3 : Nat) (AV.ptr 0 (l.getD k pair0).snd.toNat) (I (↑(T1 (tv (sn t) l k) (l.getD k pair0).fst.toNat (l.getD k pair0).snd.toNat (l.getD k pair0).snd.toNat) : Int)) (H.mk [ints ((wl t.length (tv (sn t) l k)).set (l.getD k pair0).fst.toNat (↑(T0 (tv (sn t) l k) (l.getD k pair0).fst.toNat (l.getD k pair0).snd.toNat (l.getD k pair0).fst.toNat) : Int)), [I (l.getD k pair0).fst, I (l.getD k pair0).snd]] [] []) = some (H.mk [ints (((wl t.length (tv (sn t) l k)).set (l.getD k pair0).fst.toNat (↑(T0 (tv (sn t) l k) (l.getD k pair0).fst.toNat (l.getD k pair0).snd.toNat (l.getD k pair0).fst.toNat) : Int)).set (l.getD k pair0).snd.toNat (↑(T1 (tv (sn t) l k) (l.getD k pair0).fst.toNat (l.getD k pair0).snd.toNat (l.getD k pair0).snd.toNat) : Int)), [I (l.getD k pair0).fst, I (l.getD k pair0).snd]] [] []) ∧ aBin Tryd.prog BinOp.add (3 : Nat) (I (↑k : Int)) (I 1) = some (I (↑(k + (1 : Nat)) : Int)) ∧ (39 : Nat) = (39 : Nat) ∧ k < l.length ∧ Keep (AV.bnds (1 : Nat) (0 : Nat) (0 : Nat) [AV.msl 0 0 t.length (9223372036854775808 : Nat) (1 : Nat), AV.sl (pairsA l) l.length r, I (↑l.length : Int), I (↑(k + (1 : Nat)) : Int)] = true ∧ (H.mk [ints (((wl t.length (tv (sn t) l k)).set (l.getD k pair0).fst.toNat (↑(T0 (tv (sn t) l k) (l.getD k pair0).fst.toNat (l.getD k pair0).snd.toNat (l.getD k pair0).fst.toNat) : Int)).set (l.getD k pair0).snd.toNat (↑(T1 (tv (sn t) l k) (l.getD k pair0).fst.toNat (l.getD k pair0).snd.toNat (l.getD k pair0).snd.toNat) : Int)), [I (l.getD k pair0).fst, I (l.getD k pair0).snd]] [] []).clean (1 : Nat) ∧ H.mk [ints (((wl t.length (tv (sn t) l k)).set (l.getD k pair0).fst.toNat (↑(T0 (tv (sn t) l k) (l.getD k pair0).fst.toNat (l.getD k pair0).snd.toNat (l.getD k pair0).fst.toNat) : Int)).set (l.getD k pair0).snd.toNat (↑(T1 (tv (sn t) l k) (l.getD k pair0).fst.toNat (l.getD k pair0).snd.toNat (l.getD k pair0).snd.toNat) : Int))] [] [] = H.mk [ints (wl t.length (tv (sn t) l (k + (1 : Nat))))] [] [] ∧ [AV.msl 0 0 t.length (9223372036854775808 : Nat) (1 : Nat), AV.sl (pairsA l) l.length r, I (↑l.length : Int), I (↑(k + (1 : Nat)) : Int)] = [AV.msl 0 0 t.length (9223372036854775808 : Nat) (1 : Nat), AV.sl (pairsA l) l.length r, I (↑l.length : Int), I (↑(k + (1 : Nat)) : Int)])) (by kernel_rfl) ?_⟩
    refine ⟨by first | with_reducible assumption | omega | assumption, ?_⟩
    refine ⟨ix_pairs (by kernel_rfl) hz' hri, ?_⟩
    refine ⟨ld_pairs (by kernel_rfl) (by kernel_rfl) (by kernel_rfl) (by omega), ?_⟩
    refine ⟨by first | exact ixm0_int (by kernel_rfl) d0 d1 | exact ixm0_int (by kernel_rfl) d2 d3, ?_⟩
    refine ⟨by first | exact ldm_ints (by kernel_rfl) (by kernel_rfl) (by rw [wl_len]; exact e0) | exact ldm_ints (by kernel_rfl) (by kernel_rfl) (by rw [List.length_set, wl_len]; exact e1), ?_⟩
    refine ⟨by first | exact told_shl (by first | exact Int.natCast_nonneg _ | omega) (by with_reducible assumption) | exact told_shl (by omega) rfl, ?_⟩
    refine ⟨told_xor (by with_reducible assumption), ?_⟩
    refine ⟨by first | exact ixm0_int (by kernel_rfl) d0 d1 | exact ixm0_int (by kernel_rfl) d2 d3, ?_⟩
    refine ⟨by first | exact st_ints (by kernel_rfl) rfl (by rw [wl_len]; exact e0) | exact st_ints (by kernel_rfl) rfl (by rw [List.length_set, wl_len]; exact e1), ?_⟩
    refine ⟨by first | exact ixm0_int (by kernel_rfl) d0 d1 | exact ixm0_int (by kernel_rfl) d2 d3, ?_⟩
    refine ⟨by first | exact ldm_ints (by kernel_rfl) (by kernel_rfl) (by rw [wl_len]; exact e0) | exact ldm_ints (by kernel_rfl) (by kernel_rfl) (by rw [List.length_set, wl_len]; exact e1), ?_⟩
    refine ⟨by first | exact told_shl (by first | exact Int.natCast_nonneg _ | omega) (by with_reducible assumption) | exact told_shl (by omega) rfl, ?_⟩
    refine ⟨told_xor (by with_reducible assumption), ?_⟩
    refine ⟨by first | exact ixm0_int (by kernel_rfl) d0 d1 | exact ixm0_int (by kernel_rfl) d2 d3, ?_⟩
    refine ⟨by first | exact st_ints (by kernel_rfl) rfl (by rw [wl_len]; exact e0) | exact st_ints (by kernel_rfl) rfl (by rw [List.length_set, wl_len]; exact e1), ?_⟩
    refine ⟨told_add (by with_reducible assumption), ?_⟩
    refine ⟨by first | with_reducible assumption | omega | assumption, ?_⟩
    refine ⟨by first | with_reducible assumption | omega | assumption, ?_⟩
    (rw [hs0, hs1']; exact ⟨hcl, hcn _, rfl, rfl⟩)
  · have hz : (l.length : Int) ≤ k := by omega
    have e : k = l.length := by omega
    subst e
    refine ⟨[Ans.o (Orc.b false)], fun u => of_eq ((↑l.length : Int) ≤ (↑l.length : Int) ∧ (39 : Nat) = (39 : Nat) ∧ hits [Out.mk Unit (AX.exit (0 : Nat)) [(5 : Nat)] (fun x => True) (fun x => [mR t.length]) (fun x => hR t.length (tn t l)) fun x => []] (AX.exit (0 : Nat)) [u (0 : Nat), u (1 : Nat), u (2 : Nat), u (3 : Nat), u (4 : Nat), AV.msl 0 0 t.length (9223372036854775808 : Nat) (1 : Nat), u (6 : Nat), u (7 : Nat), u (8 : Nat), u (9 : Nat), u (10 : Nat), AV.sl (pairsA l) l.length r, I (↑l.length : Int), I (↑l.length : Int), AV.bool false, u (15 : Nat), u (16 : Nat), u (17 : Nat), u (18 : Nat), u (19 : Nat), u (20 : Nat), u (21 : Nat), u (22 : Nat), u (23 : Nat), u (24 : Nat), u (25 : Nat), u (26 : Nat), u (27 : Nat), u (28 : Nat), u (29 : Nat), u (30 : Nat), u (31 : Nat), u (32 : Nat), u (33 : Nat), u (34 : Nat), u (35 : Nat), u (36 : Nat), u (37 : Nat), u (38 : Nat)] (H.mk [ints (wl t.length (tv (sn t) l l.length))] [] [])) (by kernel_rfl) ?_⟩
    refine ⟨by first | with_reducible assumption | omega | assumption, ?_⟩
    refine ⟨by first | with_reducible assumption | omega | assumption, ?_⟩
    exact .inl ⟨(), trivial, rfl, rfl, rfl⟩
theorem ok52 : FokM Tryd.prog none1 52 Tryd.f52 := ⟨mixed, by kernel_rfl, by kernel_rfl, by kernel_rfl, by kernel_rfl⟩
theorem leave_mRv (n : Nat) (A : Nat → Nat) (hn : n ≤ 8) (bs : List (List AV)) : leave ⟨0, 0, 0⟩ (mR n) ⟨ints (wl n A) :: bs, [], []⟩ = (.sl (ints (wl n A)) n .no, .nil) := by
  have hz5 : List.map (frz 0 0 ⟨ints (wl n A) :: bs, [], []⟩ 5) (ints (wl n A)) = ints (wl n A) := enc_frz ints_c1 (wl n A) 0 0 ⟨ints (wl n A) :: bs, [], []⟩ 4
  have hb2 : AV.bnds 0 0 0 (ints (wl n A)) = true := enc_bnds ints_c1 (wl n A) 0 0 0
  have ht : List.take (n * 1) (List.drop 0 (ints (wl n A))) = ints (wl n A) := by rw [Nat.mul_one, List.drop_zero]; exact List.take_of_length_le (by simp)
  have hnc : ¬ noCap = n := by intro q; rw [← q] at hn; exact absurd hn (by decide)
  have e1 : frz 0 0 ⟨ints (wl n A) :: bs, [], []⟩ 6 (mR n) = .sl (ints (wl n A)) n .no := by
    simp only [frz, Nat.not_lt_zero, if_false, List.getElem?_cons_zero, ht, hz5, if_neg hnc]
  generalize ints (wl n A) = c at hb2 e1 ⊢
  simp only [leave, e1]
  simp [AV.bnd, hb2, Room.bnd, retok, H.nil]
theorem r52 (t : List Int) (s : Room) (hs : rok t s) (h : Tn t) (l : List Pr) (r : Room) (hp : pP l r) (hrb : r.bnd 0 = true) (hl : PB t.length l) : Body (En6 []) none1 Tryd.f52 [ls t s, pz l r] .nil (.sl (ints (tnl t l)) t.length .no, .nil) := by
  have h8 := h.s.2
  have lp := lp52 t h l r hp.2.1 hrb (fun j hj => (hl.h.h j hj).p) hl.le
  have e : ints t = ints (wl t.length (tv (sn t) l 0)) := congrArg ints (wl_sn h).symm
  simp only [hR] at lp
  rw [← e] at lp
  have lv := leave_mRv t.length (tn t l) h8
  have hap : aAppend Tryd.prog 22 22 (.sl [] 0 .full) (.sl (ints t) t.length s) .nil = some (mR t.length, ⟨[ints t], [], []⟩) := by
    have := app_newW (P := Tryd.prog) (t := 22) (by kernel_rfl) (cs := ints t) (n := t.length) (r := s) (h := .nil) (by have := h.s.1; omega) (by simp) (ints_one t) (by omega)
    exact this
  refine body_s ([Ans.o (Orc.val 10 (mR t.length) (H.mk [ints t] [] [])), Ans.loop [(5 : Nat), (11 : Nat), (12 : Nat), (13 : Nat)] [Out.mk Unit (AX.exit (0 : Nat)) [(5 : Nat)] (fun x => True) (fun x => [mR t.length]) (fun x => hR t.length (tn t l)) fun y => []]]) (aAppend Tryd.prog (22 : Nat) (22 : Nat) (AV.sl [] (0 : Nat) Room.full) (AV.sl (ints t) t.length s) (H.mk [] [] []) = some (AV.msl 0 0 t.length (9223372036854775808 : Nat) (1 : Nat), H.mk [ints t] [] []) ∧ LoopS (Env.mk Tryd.prog (Sof (P := Tryd.prog) []) (Pof (P := Tryd.prog) []) H.nil.base (300 : Nat)) (loopAt Tryd.f52 (0 : Nat)) (39 : Nat) [(5 : Nat), (11 : Nat), (12 : Nat), (13 : Nat)] [AV.msl 0 0 t.length (9223372036854775808 : Nat) (1 : Nat), AV.sl (pairsA l) l.length r, I (↑l.length : Int), I 0] (H.mk [ints t] [] []) [Out.mk Unit (AX.exit (0 : Nat)) [(5 : Nat)] (fun x => True) (fun x => [mR t.length]) (fun x => hR t.length (tn t l)) fun y => []] ∧ (∀ (y : Unit), True → ∀ (u : Nat → AV), leave (Base.mk H.nil.blk.length H.nil.toks.length H.nil.maps.length) (AV.msl 0 0 t.length (9223372036854775808 : Nat) (1 : Nat)) (H.mk [ints (wl t.length (tn t l))] [] []) = (AV.sl (ints (tnl t l)) t.length Room.no, H.mk [] [] [])) ∧ True) (by kernel_rfl) ?_
  refine ⟨hap, ?_⟩
  refine ⟨lp, ?_⟩
  refine And.intro ?_ ?_
  · skip
    intro y
    intro w1
    intro u
    exact lv _
  · skip
    trivial
theorem k52 (t : List Int) (s : Room) (hs : rok t s) (h : Tn t) (l : List Pr) (r : Room) (hp : pP l r) (hrb : r.bnd 0 = true) (hl : PB t.length l) : CallOk Tryd.prog 52 [ls t s, pz l r] .nil (.sl (ints (tnl t l)) t.length .no) .nil :=
  (r52 t s hs h l r hp hrb hl).run ok52 .nil rfl
end Go.Proofs.Rnk

