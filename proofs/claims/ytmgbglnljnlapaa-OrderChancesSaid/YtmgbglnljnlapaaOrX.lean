/- Layer 7: the reference's Add. -/
import Derived.Test.YtmgbglnljnlapaaOrW
import Derived.Test.YtmgbglnljnlapaaVm7
import Derived.KernelRfl
set_option linter.unusedSimpArgs false
set_option linter.unusedVariables false
set_option linter.unnecessarySimpa false
set_option maxHeartbeats 4000000
set_option maxRecDepth 100000
namespace Go.Proofs.Ord
open Go Go.VM
open Go.Proofs.Sur (andn andn_bit andn_le i_wrap i_and i_or i_andn i_shl i_shr bit_01)

theorem rl_rel {o : List Int} (h : rgO o) : rl o.length (rel o) = o := by
  apply List.ext_getElem
  · simp
  · intro i h1 h2
    have := h i h2
    have e : ia o i = o[i] := by simp [ia, List.getD_eq_getElem?_getD, h2]
    simp only [rl, List.getElem_map, List.getElem_range, rel, e]
    have h3 := this.1
    rw [e] at h3; omega
theorem leave_intsN {l : List Int} {n : Nat} (hn : l.length = n) (h : n ≤ 1000) : leave ⟨0, 0, 0⟩ (.msl 0 0 n noCap 1) ⟨[ints l], [], []⟩ = (.sl (ints l) n .no, .nil) := by
  subst hn
  have hz := enc_frz ints_c1 l 0 0 ⟨[ints l], [], []⟩ 4
  have hb2 := enc_bnds ints_c1 l 0 0 0
  have ht : List.take (l.length * 1) (List.drop 0 (ints l)) = ints l := by rw [Nat.mul_one, List.drop_zero]; exact List.take_of_length_le (by simp)
  have hz : List.map (frz 0 0 ⟨[ints l], [], []⟩ 5) (ints l) = ints l := hz
  have hb2 : AV.bnds 0 0 0 (ints l) = true := hb2
  have hc : ¬ noCap = l.length := by
    have : 1000 < noCap := by decide
    omega
  have e1 : frz 0 0 ⟨[ints l], [], []⟩ 6 (.msl 0 0 l.length noCap 1) = .sl (ints l) l.length .no := by
    simp only [frz, Nat.not_lt_zero, if_false, List.getElem?_cons_zero, ht, hz, hc]
  generalize ints l = m at hb2 e1 ⊢
  simp only [leave, e1]
  simp [AV.bnd, hb2, Room.bnd, retok, H.nil]
abbrev mN (n : Nat) : AV := .msl 0 0 n noCap 1
abbrev p28 (o : List Int) (r : Room) : Prop := (sz o ∧ rgO o) ∧ rok o r
abbrev o28 (o : List Int) (r : Room) (i j : Nat) : List Out := [.mk Unit (.exit 0) [7] (fun _ => True) (fun _ => [mN o.length]) (fun _ => hr7 o.length (adR (rel o) i j)) (fun _ => [])]
theorem simp28 : allSimpleM none1 (loopAt Try.f28 0) = true := by kernel_rfl
theorem lp28 (o : List Int) (r : Room) (h : p28 o r) (i j : Nat) (hi : i < o.length) (hj' : j < o.length) :
    LoopS (En6 [c73.to]) (loopAt Try.f28 0) 41 [0, 1, 2, 7, 13, 14] [ls o r, I i, I j, mN o.length, I o.length, I 0] (hr7 o.length (rel o)) (o28 o r i j) := by
  have hR : Rests (En6 [c73.to]) none1 := rests mixed (.pure _ .nil)
  have h6 := h.1.1.2
  have hg := rel_rg h.1.2
  have hp0 : pO o.length (rel o) := ⟨hg, h6⟩
  have hrj := rok_idx h.2 hj'
  refine loop_s hR simp28 none (by intro _ h; cases h) (fun k vs H => H = hr7 o.length (adj (rel o) i j k) ∧ vs = [ls o r, I i, I j, mN o.length, I o.length, I k]) o.length ⟨by rw [adj_0], rfl⟩ (by intro _ h; cases h) ?_
  rintro k vs H hk ⟨rfl, rfl⟩
  by_cases hz : (k : Int) < o.length
  · have hz' : k < o.length := by omega
    have hw : pO o.length (adj (rel o) i j k) := ⟨adj_rg hg hi hj' k, h6⟩
    have ev0 := wj1 (j := k) (by omega)
    have ev1 := pw_shl (n := j) (by omega)
    have eoj : ia o j = ((rel o j : Nat) : Int) := by have := h.1.2 j hj'; simp only [rel]; omega
    have p2 : 2 ^ j < 64 := Nat.lt_of_lt_of_le (Nat.pow_lt_pow_right (by decide : 1 < 2) (show j < 6 by omega)) (by decide)
    have ev2 := i_orv eoj (show ((2 ^ j : Nat) : Int) = ((2 ^ j : Nat) : Int) from rfl) (rg_lt hg h6 j) p2
    have e1 := rl_b hw hz'
    rw [adj_k] at e1
    have hmo : rel o j ||| 2 ^ j < 64 := by rw [Nat.or_comm]; exact mor_lt hp0 hj'
    have ev3 := i_orv e1.1 (show ((rel o j ||| 2 ^ j : Nat) : Int) = ((rel o j ||| 2 ^ j : Nat) : Int) from rfl) e1.2 hmo
    have p73 : ((sz o ∧ rgO o) ∧ rok o r) ∧ k < o.length ∧ i ≤ 64 := ⟨h, hz', by omega⟩
    have q1 : bi (ia o k) i = (rel o k).testBit i := rfl
    by_cases hki : (k : Int) = i
    · have hk := rl_set (adj (rel o) i j k) (adj (rel o) i j (k + 1)) hz' (adj_next (rel o) i j k)
      rw [adj_last, adR, if_pos (.inl (by omega)), Nat.or_comm (2 ^ j)] at hk
      refine ⟨[Ans.o (Orc.b true), Ans.o (Orc.b true), Ans.o (Orc.val 28 (AV.ptr 0 k) H.nil), Ans.o (Orc.val 29 (I ((rl o.length (adj (rel o) i j k)).getD k i0)) H.nil), Ans.o (Orc.val 32 (AV.cptr (ints (List.drop j o))) H.nil), Ans.o (Orc.val 33 (I (o.getD j i0)) H.nil), Ans.o (Orc.val 35 (I (↑((2 : Nat) ^ j) : Int)) H.nil), Ans.o (Orc.val 36 (I (↑(rel o j ||| (2 : Nat) ^ j) : Int)) H.nil), Ans.o (Orc.val 37 (I (↑(rel o k ||| (rel o j ||| (2 : Nat) ^ j)) : Int)) H.nil), Ans.o (Orc.val 38 (AV.ptr 0 k) H.nil), Ans.o (Orc.val 9999 (AV.tup []) (H.mk [ints ((rl o.length (adj (rel o) i j k)).set k (↑(rel o k ||| (rel o j ||| (2 : Nat) ^ j)) : Int))] [] [])), Ans.o (Orc.val 39 (I (↑(k + (1 : Nat)) : Int)) H.nil)], fun u => of_eq ((↑k : Int) < (↑o.length : Int) ∧ (↑k : Int) = (↑i : Int) ∧ aIndexAddr Try.prog (23 : Nat) (AV.msl 0 0 o.length (9223372036854775808 : Nat) (1 : Nat)) (I (↑k : Int)) = some (AV.ptr 0 k) ∧ aLoad Try.prog (3 : Nat) (List.drop k (ints (rl o.length (adj (rel o) i j k)))) = some (I ((rl o.length (adj (rel o) i j k)).getD k i0)) ∧ aIndexAddr Try.prog (23 : Nat) (AV.sl (ints o) o.length r) (I (↑j : Int)) = some (AV.cptr (ints (List.drop j o))) ∧ aLoad Try.prog (3 : Nat) (ints (List.drop j o)) = some (I (o.getD j i0)) ∧ aBin Try.prog BinOp.shl (3 : Nat) (I 1) (I (↑j : Int)) = some (I (↑((2 : Nat) ^ j) : Int)) ∧ aBin Try.prog BinOp.or (3 : Nat) (I (o.getD j i0)) (I (↑((2 : Nat) ^ j) : Int)) = some (I (↑(rel o j ||| (2 : Nat) ^ j) : Int)) ∧ aBin Try.prog BinOp.or (3 : Nat) (I ((rl o.length (adj (rel o) i j k)).getD k i0)) (I (↑(rel o j ||| (2 : Nat) ^ j) : Int)) = some (I (↑(rel o k ||| (rel o j ||| (2 : Nat) ^ j)) : Int)) ∧ aIndexAddr Try.prog (23 : Nat) (AV.msl 0 0 o.length (9223372036854775808 : Nat) (1 : Nat)) (I (↑k : Int)) = some (AV.ptr 0 k) ∧ aStore Try.prog H.nil.base (3 : Nat) (AV.ptr 0 k) (I (↑(rel o k ||| (rel o j ||| (2 : Nat) ^ j)) : Int)) (H.mk [ints (rl o.length (adj (rel o) i j k))] [] []) = some (H.mk [ints ((rl o.length (adj (rel o) i j k)).set k (↑(rel o k ||| (rel o j ||| (2 : Nat) ^ j)) : Int))] [] []) ∧ aBin Try.prog BinOp.add (3 : Nat) (I (↑k : Int)) (I 1) = some (I (↑(k + (1 : Nat)) : Int)) ∧ (41 : Nat) = (41 : Nat) ∧ k < o.length ∧ Keep (H.mk [ints ((rl o.length (adj (rel o) i j k)).set k (↑(rel o k ||| (rel o j ||| (2 : Nat) ^ j)) : Int))] [] [] = H.mk [ints (rl o.length (adj (rel o) i j (k + (1 : Nat))))] [] [] ∧ [AV.sl (ints o) o.length r, I (↑i : Int), I (↑j : Int), AV.msl 0 0 o.length (9223372036854775808 : Nat) (1 : Nat), I (↑o.length : Int), I (↑(k + (1 : Nat)) : Int)] = [AV.sl (ints o) o.length r, I (↑i : Int), I (↑j : Int), AV.msl 0 0 o.length (9223372036854775808 : Nat) (1 : Nat), I (↑o.length : Int), I (↑(k + (1 : Nat)) : Int)])) (by kernel_rfl) ?_⟩
      refine ⟨by first | with_reducible assumption | omega | assumption, ?_⟩
      refine ⟨by first | with_reducible assumption | omega | assumption, ?_⟩
      refine ⟨ixm0 (by kernel_rfl) (by omega), ?_⟩
      refine ⟨by first | exact ldm_ints (by kernel_rfl) (by kernel_rfl) (by rw [rl_len]; omega) | exact ld_ints (by kernel_rfl) (by kernel_rfl) (by omega), ?_⟩
      refine ⟨ix_ints (by kernel_rfl) (by omega) hrj, ?_⟩
      refine ⟨by first | exact ldm_ints (by kernel_rfl) (by kernel_rfl) (by rw [rl_len]; omega) | exact ld_ints (by kernel_rfl) (by kernel_rfl) (by omega), ?_⟩
      refine ⟨by first | exact told_shl (by first | exact Int.natCast_nonneg _ | omega) (by with_reducible assumption) | exact told_shl (by omega) rfl, ?_⟩
      refine ⟨told_or (by with_reducible assumption), ?_⟩
      refine ⟨told_or (by with_reducible assumption), ?_⟩
      refine ⟨ixm0 (by kernel_rfl) (by omega), ?_⟩
      refine ⟨st_ints (by kernel_rfl) rfl (by rw [rl_len]; omega), ?_⟩
      refine ⟨told_add (by with_reducible assumption), ?_⟩
      refine ⟨by first | with_reducible assumption | omega | assumption, ?_⟩
      refine ⟨by first | with_reducible assumption | omega | assumption, ?_⟩
      exact ⟨by rw [hk], rfl⟩
    · have hki : (k : Int) ≠ i := hki
      cases b1 : bi (ia o k) i
      · have hk := adj_same (i := i) (j := j) (show k ≠ i by omega) (q1.symm.trans b1)
        refine ⟨[Ans.o (Orc.b true), Ans.o (Orc.b false), Ans.o (Orc.val 24 (AV.bool false) (H.mk [ints (rl o.length (adj (rel o) i j k))] [] [])), Ans.o (Orc.val 39 (I (↑(k + (1 : Nat)) : Int)) H.nil)], fun u => of_eq ((↑k : Int) < (↑o.length : Int) ∧ (↑k : Int) ≠ (↑i : Int) ∧ aCall (Sof [c73.to]) (AV.fn (Fn.func (73 : Nat)) [] []) [AV.sl (ints o) o.length r, I (↑k : Int), I (↑i : Int)] (H.mk [ints (rl o.length (adj (rel o) i j k))] [] []) = some (AV.bool false, H.mk [ints (rl o.length (adj (rel o) i j k))] [] []) ∧ aBin Try.prog BinOp.add (3 : Nat) (I (↑k : Int)) (I 1) = some (I (↑(k + (1 : Nat)) : Int)) ∧ (41 : Nat) = (41 : Nat) ∧ k < o.length ∧ Keep (H.mk [ints (rl o.length (adj (rel o) i j k))] [] [] = H.mk [ints (rl o.length (adj (rel o) i j (k + (1 : Nat))))] [] [] ∧ [AV.sl (ints o) o.length r, I (↑i : Int), I (↑j : Int), AV.msl 0 0 o.length (9223372036854775808 : Nat) (1 : Nat), I (↑o.length : Int), I (↑(k + (1 : Nat)) : Int)] = [AV.sl (ints o) o.length r, I (↑i : Int), I (↑j : Int), AV.msl 0 0 o.length (9223372036854775808 : Nat) (1 : Nat), I (↑o.length : Int), I (↑(k + (1 : Nat)) : Int)])) (by kernel_rfl) ?_⟩
        refine ⟨by first | with_reducible assumption | omega | assumption, ?_⟩
        refine ⟨by first | with_reducible assumption | omega | assumption, ?_⟩
        refine ⟨acall_b (acall_hit (c := c73.to) (o, r, k, i) _ rfl p73) b1, ?_⟩
        refine ⟨told_add (by with_reducible assumption), ?_⟩
        refine ⟨by first | with_reducible assumption | omega | assumption, ?_⟩
        refine ⟨by first | with_reducible assumption | omega | assumption, ?_⟩
        exact ⟨by rw [hk], rfl⟩
      · have hk := rl_set (adj (rel o) i j k) (adj (rel o) i j (k + 1)) hz' (adj_next (rel o) i j k)
        rw [adj_last, adR, if_pos (.inr (q1.symm.trans b1)), Nat.or_comm (2 ^ j)] at hk
        refine ⟨[Ans.o (Orc.b true), Ans.o (Orc.b false), Ans.o (Orc.val 24 (AV.bool true) (H.mk [ints (rl o.length (adj (rel o) i j k))] [] [])), Ans.o (Orc.val 28 (AV.ptr 0 k) H.nil), Ans.o (Orc.val 29 (I ((rl o.length (adj (rel o) i j k)).getD k i0)) H.nil), Ans.o (Orc.val 32 (AV.cptr (ints (List.drop j o))) H.nil), Ans.o (Orc.val 33 (I (o.getD j i0)) H.nil), Ans.o (Orc.val 35 (I (↑((2 : Nat) ^ j) : Int)) H.nil), Ans.o (Orc.val 36 (I (↑(rel o j ||| (2 : Nat) ^ j) : Int)) H.nil), Ans.o (Orc.val 37 (I (↑(rel o k ||| (rel o j ||| (2 : Nat) ^ j)) : Int)) H.nil), Ans.o (Orc.val 38 (AV.ptr 0 k) H.nil), Ans.o (Orc.val 9999 (AV.tup []) (H.mk [ints ((rl o.length (adj (rel o) i j k)).set k (↑(rel o k ||| (rel o j ||| (2 : Nat) ^ j)) : Int))] [] [])), Ans.o (Orc.val 39 (I (↑(k + (1 : Nat)) : Int)) H.nil)], fun u => of_eq ((↑k : Int) < (↑o.length : Int) ∧ (↑k : Int) ≠ (↑i : Int) ∧ aCall (Sof [c73.to]) (AV.fn (Fn.func (73 : Nat)) [] []) [AV.sl (ints o) o.length r, I (↑k : Int), I (↑i : Int)] (H.mk [ints (rl o.length (adj (rel o) i j k))] [] []) = some (AV.bool true, H.mk [ints (rl o.length (adj (rel o) i j k))] [] []) ∧ aIndexAddr Try.prog (23 : Nat) (AV.msl 0 0 o.length (9223372036854775808 : Nat) (1 : Nat)) (I (↑k : Int)) = some (AV.ptr 0 k) ∧ aLoad Try.prog (3 : Nat) (List.drop k (ints (rl o.length (adj (rel o) i j k)))) = some (I ((rl o.length (adj (rel o) i j k)).getD k i0)) ∧ aIndexAddr Try.prog (23 : Nat) (AV.sl (ints o) o.length r) (I (↑j : Int)) = some (AV.cptr (ints (List.drop j o))) ∧ aLoad Try.prog (3 : Nat) (ints (List.drop j o)) = some (I (o.getD j i0)) ∧ aBin Try.prog BinOp.shl (3 : Nat) (I 1) (I (↑j : Int)) = some (I (↑((2 : Nat) ^ j) : Int)) ∧ aBin Try.prog BinOp.or (3 : Nat) (I (o.getD j i0)) (I (↑((2 : Nat) ^ j) : Int)) = some (I (↑(rel o j ||| (2 : Nat) ^ j) : Int)) ∧ aBin Try.prog BinOp.or (3 : Nat) (I ((rl o.length (adj (rel o) i j k)).getD k i0)) (I (↑(rel o j ||| (2 : Nat) ^ j) : Int)) = some (I (↑(rel o k ||| (rel o j ||| (2 : Nat) ^ j)) : Int)) ∧ aIndexAddr Try.prog (23 : Nat) (AV.msl 0 0 o.length (9223372036854775808 : Nat) (1 : Nat)) (I (↑k : Int)) = some (AV.ptr 0 k) ∧ aStore Try.prog H.nil.base (3 : Nat) (AV.ptr 0 k) (I (↑(rel o k ||| (rel o j ||| (2 : Nat) ^ j)) : Int)) (H.mk [ints (rl o.length (adj (rel o) i j k))] [] []) = some (H.mk [ints ((rl o.length (adj (rel o) i j k)).set k (↑(rel o k ||| (rel o j ||| (2 : Nat) ^ j)) : Int))] [] []) ∧ aBin Try.prog BinOp.add (3 : Nat) (I (↑k : Int)) (I 1) = some (I (↑(k + (1 : Nat)) : Int)) ∧ (41 : Nat) = (41 : Nat) ∧ k < o.length ∧ Keep (H.mk [ints ((rl o.length (adj (rel o) i j k)).set k (↑(rel o k ||| (rel o j ||| (2 : Nat) ^ j)) : Int))] [] [] = H.mk [ints (rl o.length (adj (rel o) i j (k + (1 : Nat))))] [] [] ∧ [AV.sl (ints o) o.length r, I (↑i : Int), I (↑j : Int), AV.msl 0 0 o.length (9223372036854775808 : Nat) (1 : Nat), I (↑o.length : Int), I (↑(k + (1 : Nat)) : Int)] = [AV.sl (ints o) o.length r, I (↑i : Int), I (↑j : Int), AV.msl 0 0 o.length (9223372036854775808 : Nat) (1 : Nat), I (↑o.length : Int), I (↑(k + (1 : Nat)) : Int)])) (by kernel_rfl) ?_⟩
        refine ⟨by first | with_reducible assumption | omega | assumption, ?_⟩
        refine ⟨by first | with_reducible assumption | omega | assumption, ?_⟩
        refine ⟨acall_b (acall_hit (c := c73.to) (o, r, k, i) _ rfl p73) b1, ?_⟩
        refine ⟨ixm0 (by kernel_rfl) (by omega), ?_⟩
        refine ⟨by first | exact ldm_ints (by kernel_rfl) (by kernel_rfl) (by rw [rl_len]; omega) | exact ld_ints (by kernel_rfl) (by kernel_rfl) (by omega), ?_⟩
        refine ⟨ix_ints (by kernel_rfl) (by omega) hrj, ?_⟩
        refine ⟨by first | exact ldm_ints (by kernel_rfl) (by kernel_rfl) (by rw [rl_len]; omega) | exact ld_ints (by kernel_rfl) (by kernel_rfl) (by omega), ?_⟩
        refine ⟨by first | exact told_shl (by first | exact Int.natCast_nonneg _ | omega) (by with_reducible assumption) | exact told_shl (by omega) rfl, ?_⟩
        refine ⟨told_or (by with_reducible assumption), ?_⟩
        refine ⟨told_or (by with_reducible assumption), ?_⟩
        refine ⟨ixm0 (by kernel_rfl) (by omega), ?_⟩
        refine ⟨st_ints (by kernel_rfl) rfl (by rw [rl_len]; omega), ?_⟩
        refine ⟨told_add (by with_reducible assumption), ?_⟩
        refine ⟨by first | with_reducible assumption | omega | assumption, ?_⟩
        refine ⟨by first | with_reducible assumption | omega | assumption, ?_⟩
        exact ⟨by rw [hk], rfl⟩
  · have hz : (o.length : Int) ≤ k := by omega
    have hk' : k = o.length := by omega
    subst hk'
    refine ⟨[Ans.o (Orc.b false)], fun u => of_eq ((↑o.length : Int) ≤ (↑o.length : Int) ∧ (41 : Nat) = (41 : Nat) ∧ hits [Out.mk Unit (AX.exit (0 : Nat)) [(7 : Nat)] (fun x => True) (fun x => [mN o.length]) (fun x => hr7 o.length (adR (rel o) i j)) fun x => []] (AX.exit (0 : Nat)) [AV.sl (ints o) o.length r, I (↑i : Int), I (↑j : Int), u (3 : Nat), u (4 : Nat), u (5 : Nat), u (6 : Nat), AV.msl 0 0 o.length (9223372036854775808 : Nat) (1 : Nat), u (8 : Nat), u (9 : Nat), u (10 : Nat), u (11 : Nat), u (12 : Nat), I (↑o.length : Int), I (↑o.length : Int), AV.bool false, u (16 : Nat), u (17 : Nat), u (18 : Nat), u (19 : Nat), u (20 : Nat), u (21 : Nat), u (22 : Nat), u (23 : Nat), u (24 : Nat), u (25 : Nat), u (26 : Nat), u (27 : Nat), u (28 : Nat), u (29 : Nat), u (30 : Nat), u (31 : Nat), u (32 : Nat), u (33 : Nat), u (34 : Nat), u (35 : Nat), u (36 : Nat), u (37 : Nat), u (38 : Nat), u (39 : Nat), u (40 : Nat)] (H.mk [ints (rl o.length (adj (rel o) i j o.length))] [] [])) (by kernel_rfl) ?_⟩
    refine ⟨by first | with_reducible assumption | omega | assumption, ?_⟩
    refine ⟨by first | with_reducible assumption | omega | assumption, ?_⟩
    exact .inl ⟨(), trivial, rfl, rfl, by rw [adj_n hg hi hj']⟩
theorem ok28 : FokM Try.prog none1 28 Try.f28 := ⟨mixed, by kernel_rfl, by kernel_rfl, by kernel_rfl, by kernel_rfl⟩
abbrev A280 (o : List Int) (r : Room) (i j : Nat) : List AV := [ls o r, I i, I j, .undef, .undef, .undef, .undef, .undef, .undef, .undef, .undef, .undef, .undef, .undef, .undef, .undef, .undef, .undef, .undef, .undef, .undef, .undef, .undef, .undef, .undef, .undef, .undef, .undef, .undef, .undef, .undef, .undef, .undef, .undef, .undef, .undef, .undef, .undef, .undef, .undef, .undef]
abbrev A281 (o : List Int) (r : Room) (i j : Nat) : List AV := [ls o r, I i, I j, .undef, .undef, .undef, .sl [] 0 .nil, .undef, .undef, .undef, .undef, .undef, .undef, .undef, .undef, .undef, .undef, .undef, .undef, .undef, .undef, .undef, .undef, .undef, .undef, .undef, .undef, .undef, .undef, .undef, .undef, .undef, .undef, .undef, .undef, .undef, .undef, .undef, .undef, .undef, .undef]
abbrev B28 (o : List Int) (r : Room) (i j : Nat) : List AV := [ls o r, I i, I j, .undef, .undef, .undef, .sl [] 0 .nil, .sl (ints o) o.length (.tok 0 1), .undef, .sl [] 0 .full, ls o r, .sl (ints o) o.length (.tok 0 1), .undef, .undef, .undef, .undef, .undef, .undef, .undef, .undef, .undef, .undef, .undef, .undef, .undef, .undef, .undef, .undef, .undef, .undef, .undef, .undef, .undef, .undef, .undef, .undef, .undef, .undef, .undef, .undef, .undef]
abbrev A282 (o : List Int) (r : Room) (i j : Nat) : List AV := [ls o r, I i, I j, .undef, .undef, .undef, .sl [] 0 .nil, .msl 0 0 o.length noCap 1, .undef, .sl [] 0 .full, thS o.length (ls o r), .msl 0 0 o.length noCap 1, .undef, .undef, .undef, .undef, .undef, .undef, .undef, .undef, .undef, .undef, .undef, .undef, .undef, .undef, .undef, .undef, .undef, .undef, .undef, .undef, .undef, .undef, .undef, .undef, .undef, .undef, .undef, .undef, .undef]
theorem s28a (o : List Int) (r : Room) (i j : Nat) : ∃ os, ∀ u : Nat → AV, Led (wS (En6 [c73.to]) (sq1 (bd Try.f28)) (A280 o r i j) .nil os (fun x A h _ => Keep (x = .normal ∧ A = A281 o r i j ∧ h = .nil))) := by
  refine ⟨[], fun u => of_eq (AX.normal = AX.normal ∧ [AV.sl (ints o) o.length r, I (↑i : Int), I (↑j : Int), AV.tup [], AV.tup [], AV.tup [], AV.sl [] (0 : Nat) Room.nil, AV.tup [], AV.tup [], AV.tup [], AV.tup [], AV.tup [], AV.tup [], AV.tup [], AV.tup [], AV.tup [], AV.tup [], AV.tup [], AV.tup [], AV.tup [], AV.tup [], AV.tup [], AV.tup [], AV.tup [], AV.tup [], AV.tup [], AV.tup [], AV.tup [], AV.tup [], AV.tup [], AV.tup [], AV.tup [], AV.tup [], AV.tup [], AV.tup [], AV.tup [], AV.tup [], AV.tup [], AV.tup [], AV.tup [], AV.tup []] = [AV.sl (ints o) o.length r, I (↑i : Int), I (↑j : Int), AV.tup [], AV.tup [], AV.tup [], AV.sl [] (0 : Nat) Room.nil, AV.tup [], AV.tup [], AV.tup [], AV.tup [], AV.tup [], AV.tup [], AV.tup [], AV.tup [], AV.tup [], AV.tup [], AV.tup [], AV.tup [], AV.tup [], AV.tup [], AV.tup [], AV.tup [], AV.tup [], AV.tup [], AV.tup [], AV.tup [], AV.tup [], AV.tup [], AV.tup [], AV.tup [], AV.tup [], AV.tup [], AV.tup [], AV.tup [], AV.tup [], AV.tup [], AV.tup [], AV.tup [], AV.tup [], AV.tup []] ∧ H.mk [] [] [] = H.mk [] [] []) (by kernel_rfl) ?_⟩
  refine ⟨by rfl, ?_⟩
  refine ⟨by rfl, ?_⟩
  rfl
theorem s28b (o : List Int) (r : Room) (i j : Nat) (h : p28 o r) : ∃ os, ∀ u : Nat → AV, Led (wS (En6 [c73.to]) (sq1 (sq2 (bd Try.f28))) (A281 o r i j) .nil os (fun x A h _ => Keep (x = .normal ∧ A = B28 o r i j ∧ h = ⟨[], [o.length], []⟩))) := by
  have h1 := h.1.1.1
  have h6 := h.1.1.2
  have hap := app_new (P := Try.prog) (t := 23) (by kernel_rfl) (cs := ints o) (n := o.length) (r := r) (h := .nil) (by omega) (by simp) (ints_one o) (by omega)
  refine ⟨[Ans.o (Orc.val 11 (AV.sl (ints o) o.length (Room.tok H.nil.toks.length (1 : Nat))) (H.mk H.nil.blk (H.nil.toks ++ [o.length]) H.nil.maps))], fun u => of_eq (aAppend Try.prog (23 : Nat) (23 : Nat) (AV.sl [] (0 : Nat) Room.full) (AV.sl (ints o) o.length r) (H.mk [] [] []) = some (AV.sl (ints o) o.length (Room.tok 0 1), H.mk [] [o.length] []) ∧ AX.normal = AX.normal ∧ [AV.sl (ints o) o.length r, I (↑i : Int), I (↑j : Int), AV.tup [], AV.tup [], AV.tup [], AV.sl [] (0 : Nat) Room.nil, AV.sl (ints o) o.length (Room.tok 0 1), AV.tup [], AV.sl [] (0 : Nat) Room.full, AV.sl (ints o) o.length r, AV.sl (ints o) o.length (Room.tok 0 1), AV.tup [], AV.tup [], AV.tup [], AV.tup [], AV.tup [], AV.tup [], AV.tup [], AV.tup [], AV.tup [], AV.tup [], AV.tup [], AV.tup [], AV.tup [], AV.tup [], AV.tup [], AV.tup [], AV.tup [], AV.tup [], AV.tup [], AV.tup [], AV.tup [], AV.tup [], AV.tup [], AV.tup [], AV.tup [], AV.tup [], AV.tup [], AV.tup [], AV.tup []] = [AV.sl (ints o) o.length r, I (↑i : Int), I (↑j : Int), AV.tup [], AV.tup [], AV.tup [], AV.sl [] (0 : Nat) Room.nil, AV.sl (ints o) o.length (Room.tok 0 1), AV.tup [], AV.sl [] (0 : Nat) Room.full, AV.sl (ints o) o.length r, AV.sl (ints o) o.length (Room.tok 0 1), AV.tup [], AV.tup [], AV.tup [], AV.tup [], AV.tup [], AV.tup [], AV.tup [], AV.tup [], AV.tup [], AV.tup [], AV.tup [], AV.tup [], AV.tup [], AV.tup [], AV.tup [], AV.tup [], AV.tup [], AV.tup [], AV.tup [], AV.tup [], AV.tup [], AV.tup [], AV.tup [], AV.tup [], AV.tup [], AV.tup [], AV.tup [], AV.tup [], AV.tup []] ∧ H.mk [] [o.length] [] = H.mk [] [o.length] []) (by kernel_rfl) ?_⟩
  refine ⟨hap, ?_⟩
  refine ⟨by rfl, ?_⟩
  refine ⟨by rfl, ?_⟩
  rfl
theorem s28c (o : List Int) (r : Room) (i j : Nat) (h : p28 o r) (hi : i < o.length) (hj : j < o.length) : ∃ os, ∀ u : Nat → AV, Led (wS (En6 [c73.to]) (sq2 (sq2 (bd Try.f28))) (A282 o r i j) (hr7 o.length (rel o)) os (Kfin (En6 [c73.to]) Try.f28 .nil (ls (rl o.length (adR (rel o) i j)) .no, .nil))) := by
  have hl := lp28 o r h i j hi hj
  refine ⟨[Ans.loop [(0 : Nat), (1 : Nat), (2 : Nat), (7 : Nat), (13 : Nat), (14 : Nat)] [Out.mk Unit (AX.exit (0 : Nat)) [(7 : Nat)] (fun x => True) (fun x => [mN o.length]) (fun x => hr7 o.length (adR (rel o) i j)) fun y => []]], fun u => of_eq (LoopS (En6 [c73.to]) (loopAt Try.f28 (0 : Nat)) (41 : Nat) [(0 : Nat), (1 : Nat), (2 : Nat), (7 : Nat), (13 : Nat), (14 : Nat)] [AV.sl (ints o) o.length r, I (↑i : Int), I (↑j : Int), AV.msl 0 0 o.length (9223372036854775808 : Nat) (1 : Nat), I (↑o.length : Int), I 0] (H.mk [ints (rl o.length (rel o))] [] []) [Out.mk Unit (AX.exit (0 : Nat)) [(7 : Nat)] (fun x => True) (fun x => [mN o.length]) (fun x => hr7 o.length (adR (rel o) i j)) fun y => []] ∧ (∀ (y : Unit), True → ∀ (u : Nat → AV), leave (Base.mk H.nil.blk.length H.nil.toks.length H.nil.maps.length) (AV.msl 0 0 o.length (9223372036854775808 : Nat) (1 : Nat)) (H.mk [ints (rl o.length (adR (rel o) i j))] [] []) = (AV.sl (ints (rl o.length (adR (rel o) i j))) (rl o.length (adR (rel o) i j)).length Room.no, H.mk [] [] [])) ∧ True) (by kernel_rfl) ?_⟩
  refine ⟨hl, ?_⟩
  refine And.intro ?_ ?_
  · skip
    intro y
    intro w1
    intro u
    exact (leave_intsN (rl_len _ _) (by have := h.1.1.2; omega)).trans (by show _ = (AV.sl _ (rl o.length (adR (rel o) i j)).length _, _); rw [rl_len]; rfl)
  · skip
    trivial
theorem bd28 : bd Try.f28 = .seq (sq1 (bd Try.f28)) (.seq (sq1 (sq2 (bd Try.f28))) (sq2 (sq2 (bd Try.f28)))) := by kernel_rfl
theorem reg28 : sq1 (sq2 (bd Try.f28)) = .region (regId (sq1 (sq2 (bd Try.f28)))) (regOps (sq1 (sq2 (bd Try.f28)))) false := by kernel_rfl
theorem smp28a : allSimpleM none1 (sq1 (bd Try.f28)) = true := by kernel_rfl
theorem smp28c : allSimpleM none1 (sq2 (sq2 (bd Try.f28))) = true := by kernel_rfl
theorem tha28 (o : List Int) (r : Room) (i j : Nat) : thA (dsts (regOps (sq1 (sq2 (bd Try.f28)))).toList) o.length (A281 o r i j) (B28 o r i j) = A282 o r i j := by
  have e1 : thS o.length (.sl (ints o) o.length (.tok 0 1)) = mN o.length := by simp [thS, tOk, thw]
  have e2 : thA (dsts (regOps (sq1 (sq2 (bd Try.f28)))).toList) o.length (A281 o r i j) (B28 o r i j) = ((A282 o r i j).set 7 (thS o.length (.sl (ints o) o.length (.tok 0 1)))).set 11 (thS o.length (.sl (ints o) o.length (.tok 0 1))) := by kernel_rfl
  rw [e2, e1]; rfl
theorem call28 (o : List Int) (r : Room) (i j : Nat) (h : p28 o r) (hi : i < o.length) (hj : j < o.length) : CallOk Try.prog 28 [ls o r, I i, I j] .nil (ls (rl o.length (adR (rel o) i j)) .no) .nil := by
  have hR : Rests (En6 [c73.to]) none1 := rests mixed (.pure _ .nil)
  refine sem_call (E := En6 [c73.to]) (r := (ls (rl o.length (adR (rel o) i j)) .no, .nil)) (lv := (300 = 300)) ok28 rfl ?_
  have e0 : [ls o r, I i, I j] ++ List.replicate (Try.f28.ntmps - [ls o r, I i, I j].length) .undef = A280 o r i j := by kernel_rfl
  rw [e0, bd28]
  have hro : ints (rl o.length (rel o)) = ints o := by rw [rl_rel h.1.2]
  refine SemC.seq (K1 := fun x A h => x = .normal ∧ A = A281 o r i j ∧ h = .nil) ((SemC.read hR smp28a (s28a o r i j)).mono fun x A' h' ⟨_, hk⟩ => hk) (fun _ _ _ hk => hk.1) (fun A1 h1 hk => ?_)
  obtain ⟨_, rfl, rfl⟩ := hk
  refine SemC.seq (SemC.thaw_at hR (i0 := 7) (z := 1) reg28 (s28b o r i j h) rfl rfl (inds_ints _ _) (tha28 o r i j)) (fun _ _ _ hk => hk.1) (fun A1 h1 hk => ?_)
  obtain ⟨_, rfl, rfl⟩ := hk
  have := SemC.read hR smp28c (s28c o r i j h hi hj)
  rw [show hr7 o.length (rel o) = ⟨[ints o], [], []⟩ by rw [hr7, hro]] at this
  exact this
noncomputable def c28 : PCtr Try.prog where
  f := 28
  X := (List Int × Room) × Nat × Nat
  args x := [ls x.1.1 x.1.2, I x.2.1, I x.2.2]
  pre x := p28 x.1.1 x.1.2 ∧ x.2.1 < x.1.1.length ∧ x.2.2 < x.1.1.length
  v x := ls (rl x.1.1.length (adR (rel x.1.1) x.2.1 x.2.2)) .no
  det := by rintro ⟨⟨l, r⟩, i, j⟩ ⟨⟨m, s⟩, k, n⟩ e _ _; simp [Int.natCast_inj] at e; simp [e]
  ok := by
    rintro ⟨⟨o, r⟩, i, j⟩ ⟨h, hi, hj⟩
    refine ⟨ok28.call, fun H => ?_⟩
    exact (pure_call (call28 o r.wk i j ⟨h.1, by simpa using h.2⟩ hi hj) (ls3_wk o r i j) (by simp [AV.bnd, Room.bnd]) H).wk
end Go.Proofs.Ord

