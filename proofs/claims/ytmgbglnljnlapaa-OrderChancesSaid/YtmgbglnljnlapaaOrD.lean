/- Layer 7: an order with a pair more; an order as a slice. -/
import Derived.Test.YtmgbglnljnlapaaOrC
import Derived.KernelRfl
set_option linter.unusedSimpArgs false
set_option linter.unusedVariables false
set_option linter.unnecessarySimpa false
set_option maxHeartbeats 4000000
set_option maxRecDepth 100000
namespace Go.Proofs.Ord
open Go Go.VM
open Go.Proofs.Sur (andn andn_bit andn_le i_wrap i_and i_or i_andn i_shl i_shr bit_01)

/-- with i before j, for the first elements alone -/
def adj (A : Rel) (i j k : Nat) : Rel := fun e => if e < k then adR A i j e else A e
theorem adj_0 (A : Rel) (i j : Nat) : adj A i j 0 = A := by funext e; simp [adj]
theorem adj_k (A : Rel) (i j k : Nat) : adj A i j k k = A k := by simp [adj]
theorem adj_next (A : Rel) (i j k : Nat) : ∀ e, e ≠ k → adj A i j (k + 1) e = adj A i j k e := fun e he => by
  simp only [adj]
  by_cases h : e < k
  · rw [if_pos h, if_pos (by omega)]
  · rw [if_neg h, if_neg (by omega)]
theorem adj_last (A : Rel) (i j k : Nat) : adj A i j (k + 1) k = adR A i j k := by simp [adj]
theorem adj_same {A : Rel} {i j k : Nat} (h : k ≠ i) (h2 : (A k).testBit i = false) : adj A i j (k + 1) = adj A i j k := by
  funext e
  by_cases q : e = k
  · subst q; rw [adj_last, adj_k, adR, if_neg]; rintro (h3 | h3)
    · exact h h3
    · rw [h2] at h3; cases h3
  · exact adj_next A i j k e q
theorem ad_rg {n : Nat} {A : Rel} (h : Rg n A) {i j : Nat} (hi : i < n) (hj : j < n) : Rg n (adR A i j) := by
  refine ⟨fun e => ?_, fun e he => ?_⟩
  · simp only [adR]; split
    · exact Nat.or_lt_two_pow (h.1 e) (Nat.or_lt_two_pow (Nat.pow_lt_pow_right (by decide) hj) (h.1 j))
    · exact h.1 e
  · simp only [adR]
    rw [if_neg, h.2 e he]
    rintro (h1 | h1)
    · omega
    · rw [h.2 e he] at h1; simp at h1
theorem adj_n {n : Nat} {A : Rel} (h : Rg n A) {i j : Nat} (hi : i < n) (hj : j < n) : adj A i j n = adR A i j := by
  funext e
  simp only [adj]
  split
  · rfl
  · rw [(ad_rg h hi hj).2 e (by omega), h.2 e (by omega)]
theorem adj_rg {n : Nat} {A : Rel} (h : Rg n A) {i j : Nat} (hi : i < n) (hj : j < n) (k : Nat) : Rg n (adj A i j k) := by
  refine ⟨fun e => ?_, fun e he => ?_⟩
  · simp only [adj]; split
    · exact (ad_rg h hi hj).1 e
    · exact h.1 e
  · simp only [adj]; split
    · exact (ad_rg h hi hj).2 e he
    · exact h.2 e he
abbrev mor (A : Rel) (j : Nat) : Nat := 2 ^ j ||| A j
theorem mor_lt {n : Nat} {A : Rel} (h : pO n A) {j : Nat} (hj : j < n) : mor A j < 64 :=
  Nat.lt_of_lt_of_le (Nat.or_lt_two_pow (Nat.pow_lt_pow_right (by decide) hj) (h.1.1 j)) (Nat.le_trans (Nat.pow_le_pow_right (by decide) h.2) (by decide : 2 ^ 6 ≤ 64))
abbrev o71 (n : Nat) (A : Rel) (i j : Nat) : List Out := [.mk Unit (.exit 0) [3, 6] (fun _ => True) (fun _ => [.ptr 0 0, .ptr 1 0]) (fun _ => b77 n (adR A i j)) (fun _ => [])]
theorem simp71 : allSimpleM none1 (loopAt Try.f71 0) = true := by kernel_rfl
theorem lp71 (n : Nat) (A : Rel) (h : pO n A) (i j : Nat) (hi : i < n) (hj' : j < n) : LoopS (En6 [c102.to]) (loopAt Try.f71 0) 42 [1, 3, 6, 7, 17, 18] [I i, .ptr 0 0, .ptr 1 0, I (mor A j : Nat), I n, I 0] (b77 n A) (o71 n A i j) := by
  have hR : Rests (En6 [c102.to]) none1 := rests mixed (.pure _ .nil)
  have h6 := h.2
  refine loop_s hR simp71 none (by intro _ h; cases h) (fun k vs H => H = b77 n (adj A i j k) ∧ vs = [I i, .ptr 0 0, .ptr 1 0, I (mor A j : Nat), I n, I k]) n ⟨by rw [adj_0], rfl⟩ (by intro _ h; cases h) ?_
  rintro k vs H hk ⟨rfl, rfl⟩
  by_cases hz : (k : Int) < n
  · have hz' : k < n := by omega
    have hw : pO n (adj A i j k) := ⟨adj_rg h.1 hi hj' k, h6⟩
    have p1 := p102 hw hz' hi
    have q1 := bi_oo hw (j := i) hz'
    rw [adj_k] at q1
    have ev0 := wj1 (j := k) (by omega)
    have e1 := (oo_b hw.1 h6 hz').1
    rw [adj_k] at e1
    have ev1 := i_orv e1 rfl (rg_lt h.1 h6 k) (mor_lt h hj')
    by_cases hki : (k : Int) = i
    · have hk := o7_set n (adj A i j k) (adj A i j (k + 1)) (k := k) (by omega) (adj_next A i j k)
      rw [adj_last, adR, if_pos (.inl (by omega))] at hk
      refine ⟨[Ans.o (Orc.b true), Ans.o (Orc.b true), Ans.o (Orc.val 34 (AV.ptr 0 ((1 : Nat) + k)) H.nil), Ans.o (Orc.val 35 (I ((o7 n (adj A i j k)).getD ((1 : Nat) + k) i0)) H.nil), Ans.o (Orc.val 37 (I (↑(A k ||| mor A j) : Int)) H.nil), Ans.o (Orc.val 39 (AV.ptr 0 ((1 : Nat) + k)) H.nil), Ans.o (Orc.val 9999 (AV.tup []) (H.mk [ints ((o7 n (adj A i j k)).set ((1 : Nat) + k) (↑(A k ||| mor A j) : Int)), ints (o7 (0 : Nat) zeroR)] [] [])), Ans.o (Orc.val 40 (I (↑(k + (1 : Nat)) : Int)) H.nil)], fun u => of_eq ((↑k : Int) < (↑n : Int) ∧ (↑k : Int) = (↑i : Int) ∧ aIndexAddr Try.prog (77 : Nat) (AV.ptr 0 1) (I (↑k : Int)) = some (AV.ptr 0 ((1 : Nat) + k)) ∧ aLoad Try.prog (3 : Nat) (List.drop ((1 : Nat) + k) (ints (o7 n (adj A i j k)))) = some (I ((o7 n (adj A i j k)).getD ((1 : Nat) + k) i0)) ∧ aBin Try.prog BinOp.or (3 : Nat) (I ((o7 n (adj A i j k)).getD ((1 : Nat) + k) i0)) (I (↑(mor A j) : Int)) = some (I (↑(A k ||| mor A j) : Int)) ∧ aIndexAddr Try.prog (77 : Nat) (AV.ptr 0 1) (I (↑k : Int)) = some (AV.ptr 0 ((1 : Nat) + k)) ∧ aStore Try.prog H.nil.base (3 : Nat) (AV.ptr 0 ((1 : Nat) + k)) (I (↑(A k ||| mor A j) : Int)) (H.mk [ints (o7 n (adj A i j k)), ints (o7 (0 : Nat) zeroR)] [] []) = some (H.mk [ints ((o7 n (adj A i j k)).set ((1 : Nat) + k) (↑(A k ||| mor A j) : Int)), ints (o7 (0 : Nat) zeroR)] [] []) ∧ aBin Try.prog BinOp.add (3 : Nat) (I (↑k : Int)) (I 1) = some (I (↑(k + (1 : Nat)) : Int)) ∧ (42 : Nat) = (42 : Nat) ∧ k < n ∧ Keep (H.mk [ints ((o7 n (adj A i j k)).set ((1 : Nat) + k) (↑(A k ||| mor A j) : Int)), ints (o7 (0 : Nat) zeroR)] [] [] = H.mk [ints (o7 n (adj A i j (k + (1 : Nat)))), ints (o7 (0 : Nat) zeroR)] [] [] ∧ [I (↑i : Int), AV.ptr 0 0, AV.ptr 1 0, I (↑(mor A j) : Int), I (↑n : Int), I (↑(k + (1 : Nat)) : Int)] = [I (↑i : Int), AV.ptr 0 0, AV.ptr 1 0, I (↑(mor A j) : Int), I (↑n : Int), I (↑(k + (1 : Nat)) : Int)])) (by kernel_rfl) ?_⟩
      refine ⟨by first | with_reducible assumption | omega | assumption, ?_⟩
      refine ⟨by first | with_reducible assumption | omega | assumption, ?_⟩
      refine ⟨ixa_map (n := 6) (by kernel_rfl) (by omega), ?_⟩
      refine ⟨by first | exact ld_ints (by kernel_rfl) (by kernel_rfl) (by omega) | exact ldm_ints (by kernel_rfl) (by kernel_rfl) (by first | omega | (simp; omega)), ?_⟩
      refine ⟨told_or (by with_reducible assumption), ?_⟩
      refine ⟨ixa_map (n := 6) (by kernel_rfl) (by omega), ?_⟩
      refine ⟨by first | exact st_ints (by kernel_rfl) rfl (by first | omega | (simp; omega) | (simp at *; omega)) | exact st_u64s (by kernel_rfl) rfl (by first | omega | (simp; omega) | (simp at *; omega)) | exact st_bools (by kernel_rfl) rfl (by first | omega | (simp; omega) | (simp at *; omega)), ?_⟩
      refine ⟨told_add (by with_reducible assumption), ?_⟩
      refine ⟨by first | with_reducible assumption | omega | assumption, ?_⟩
      refine ⟨by first | with_reducible assumption | omega | assumption, ?_⟩
      exact ⟨by rw [hk], rfl⟩
    · have hki : (k : Int) ≠ i := hki
      cases b1 : bi (oo n (adj A i j k) k) ((i : Int)).toNat
      · have hk := adj_same (i := i) (j := j) (show k ≠ i by omega) (q1.symm.trans b1)
        refine ⟨[Ans.o (Orc.b true), Ans.o (Orc.b false), Ans.o (Orc.val 27 (AV.ptr 0 ((1 : Nat) + k)) H.nil), Ans.o (Orc.val 28 (I ((o7 n (adj A i j k)).getD ((1 : Nat) + k) i0)) H.nil), Ans.o (Orc.val 30 (AV.bool false) (H.mk [ints (o7 n (adj A i j k)), ints (o7 (0 : Nat) zeroR)] [] [])), Ans.o (Orc.val 40 (I (↑(k + (1 : Nat)) : Int)) H.nil)], fun u => of_eq ((↑k : Int) < (↑n : Int) ∧ (↑k : Int) ≠ (↑i : Int) ∧ aIndexAddr Try.prog (77 : Nat) (AV.ptr 0 1) (I (↑k : Int)) = some (AV.ptr 0 ((1 : Nat) + k)) ∧ aLoad Try.prog (3 : Nat) (List.drop ((1 : Nat) + k) (ints (o7 n (adj A i j k)))) = some (I ((o7 n (adj A i j k)).getD ((1 : Nat) + k) i0)) ∧ aCall (Sof [c102.to]) (AV.fn (Fn.func (102 : Nat)) [] []) [I ((o7 n (adj A i j k)).getD ((1 : Nat) + k) i0), I (↑i : Int)] (H.mk [ints (o7 n (adj A i j k)), ints (o7 (0 : Nat) zeroR)] [] []) = some (AV.bool false, H.mk [ints (o7 n (adj A i j k)), ints (o7 (0 : Nat) zeroR)] [] []) ∧ aBin Try.prog BinOp.add (3 : Nat) (I (↑k : Int)) (I 1) = some (I (↑(k + (1 : Nat)) : Int)) ∧ (42 : Nat) = (42 : Nat) ∧ k < n ∧ Keep (H.mk [ints (o7 n (adj A i j k)), ints (o7 (0 : Nat) zeroR)] [] [] = H.mk [ints (o7 n (adj A i j (k + (1 : Nat)))), ints (o7 (0 : Nat) zeroR)] [] [] ∧ [I (↑i : Int), AV.ptr 0 0, AV.ptr 1 0, I (↑(mor A j) : Int), I (↑n : Int), I (↑(k + (1 : Nat)) : Int)] = [I (↑i : Int), AV.ptr 0 0, AV.ptr 1 0, I (↑(mor A j) : Int), I (↑n : Int), I (↑(k + (1 : Nat)) : Int)])) (by kernel_rfl) ?_⟩
        refine ⟨by first | with_reducible assumption | omega | assumption, ?_⟩
        refine ⟨by first | with_reducible assumption | omega | assumption, ?_⟩
        refine ⟨ixa_map (n := 6) (by kernel_rfl) (by omega), ?_⟩
        refine ⟨by first | exact ld_ints (by kernel_rfl) (by kernel_rfl) (by omega) | exact ldm_ints (by kernel_rfl) (by kernel_rfl) (by first | omega | (simp; omega)), ?_⟩
        refine ⟨acall_b (acall_hit (c := c102.to) (oo n (adj A i j k) k, (i : Int)) _ rfl p1) b1, ?_⟩
        refine ⟨told_add (by with_reducible assumption), ?_⟩
        refine ⟨by first | with_reducible assumption | omega | assumption, ?_⟩
        refine ⟨by first | with_reducible assumption | omega | assumption, ?_⟩
        exact ⟨by rw [hk], rfl⟩
      · have hk := o7_set n (adj A i j k) (adj A i j (k + 1)) (k := k) (by omega) (adj_next A i j k)
        rw [adj_last, adR, if_pos (.inr (q1.symm.trans b1))] at hk
        refine ⟨[Ans.o (Orc.b true), Ans.o (Orc.b false), Ans.o (Orc.val 27 (AV.ptr 0 ((1 : Nat) + k)) H.nil), Ans.o (Orc.val 28 (I ((o7 n (adj A i j k)).getD ((1 : Nat) + k) i0)) H.nil), Ans.o (Orc.val 30 (AV.bool true) (H.mk [ints (o7 n (adj A i j k)), ints (o7 (0 : Nat) zeroR)] [] [])), Ans.o (Orc.val 34 (AV.ptr 0 ((1 : Nat) + k)) H.nil), Ans.o (Orc.val 35 (I ((o7 n (adj A i j k)).getD ((1 : Nat) + k) i0)) H.nil), Ans.o (Orc.val 37 (I (↑(A k ||| mor A j) : Int)) H.nil), Ans.o (Orc.val 39 (AV.ptr 0 ((1 : Nat) + k)) H.nil), Ans.o (Orc.val 9999 (AV.tup []) (H.mk [ints ((o7 n (adj A i j k)).set ((1 : Nat) + k) (↑(A k ||| mor A j) : Int)), ints (o7 (0 : Nat) zeroR)] [] [])), Ans.o (Orc.val 40 (I (↑(k + (1 : Nat)) : Int)) H.nil)], fun u => of_eq ((↑k : Int) < (↑n : Int) ∧ (↑k : Int) ≠ (↑i : Int) ∧ aIndexAddr Try.prog (77 : Nat) (AV.ptr 0 1) (I (↑k : Int)) = some (AV.ptr 0 ((1 : Nat) + k)) ∧ aLoad Try.prog (3 : Nat) (List.drop ((1 : Nat) + k) (ints (o7 n (adj A i j k)))) = some (I ((o7 n (adj A i j k)).getD ((1 : Nat) + k) i0)) ∧ aCall (Sof [c102.to]) (AV.fn (Fn.func (102 : Nat)) [] []) [I ((o7 n (adj A i j k)).getD ((1 : Nat) + k) i0), I (↑i : Int)] (H.mk [ints (o7 n (adj A i j k)), ints (o7 (0 : Nat) zeroR)] [] []) = some (AV.bool true, H.mk [ints (o7 n (adj A i j k)), ints (o7 (0 : Nat) zeroR)] [] []) ∧ aIndexAddr Try.prog (77 : Nat) (AV.ptr 0 1) (I (↑k : Int)) = some (AV.ptr 0 ((1 : Nat) + k)) ∧ aLoad Try.prog (3 : Nat) (List.drop ((1 : Nat) + k) (ints (o7 n (adj A i j k)))) = some (I ((o7 n (adj A i j k)).getD ((1 : Nat) + k) i0)) ∧ aBin Try.prog BinOp.or (3 : Nat) (I ((o7 n (adj A i j k)).getD ((1 : Nat) + k) i0)) (I (↑(mor A j) : Int)) = some (I (↑(A k ||| mor A j) : Int)) ∧ aIndexAddr Try.prog (77 : Nat) (AV.ptr 0 1) (I (↑k : Int)) = some (AV.ptr 0 ((1 : Nat) + k)) ∧ aStore Try.prog H.nil.base (3 : Nat) (AV.ptr 0 ((1 : Nat) + k)) (I (↑(A k ||| mor A j) : Int)) (H.mk [ints (o7 n (adj A i j k)), ints (o7 (0 : Nat) zeroR)] [] []) = some (H.mk [ints ((o7 n (adj A i j k)).set ((1 : Nat) + k) (↑(A k ||| mor A j) : Int)), ints (o7 (0 : Nat) zeroR)] [] []) ∧ aBin Try.prog BinOp.add (3 : Nat) (I (↑k : Int)) (I 1) = some (I (↑(k + (1 : Nat)) : Int)) ∧ (42 : Nat) = (42 : Nat) ∧ k < n ∧ Keep (H.mk [ints ((o7 n (adj A i j k)).set ((1 : Nat) + k) (↑(A k ||| mor A j) : Int)), ints (o7 (0 : Nat) zeroR)] [] [] = H.mk [ints (o7 n (adj A i j (k + (1 : Nat)))), ints (o7 (0 : Nat) zeroR)] [] [] ∧ [I (↑i : Int), AV.ptr 0 0, AV.ptr 1 0, I (↑(mor A j) : Int), I (↑n : Int), I (↑(k + (1 : Nat)) : Int)] = [I (↑i : Int), AV.ptr 0 0, AV.ptr 1 0, I (↑(mor A j) : Int), I (↑n : Int), I (↑(k + (1 : Nat)) : Int)])) (by kernel_rfl) ?_⟩
        refine ⟨by first | with_reducible assumption | omega | assumption, ?_⟩
        refine ⟨by first | with_reducible assumption | omega | assumption, ?_⟩
        refine ⟨ixa_map (n := 6) (by kernel_rfl) (by omega), ?_⟩
        refine ⟨by first | exact ld_ints (by kernel_rfl) (by kernel_rfl) (by omega) | exact ldm_ints (by kernel_rfl) (by kernel_rfl) (by first | omega | (simp; omega)), ?_⟩
        refine ⟨acall_b (acall_hit (c := c102.to) (oo n (adj A i j k) k, (i : Int)) _ rfl p1) b1, ?_⟩
        refine ⟨ixa_map (n := 6) (by kernel_rfl) (by omega), ?_⟩
        refine ⟨by first | exact ld_ints (by kernel_rfl) (by kernel_rfl) (by omega) | exact ldm_ints (by kernel_rfl) (by kernel_rfl) (by first | omega | (simp; omega)), ?_⟩
        refine ⟨told_or (by with_reducible assumption), ?_⟩
        refine ⟨ixa_map (n := 6) (by kernel_rfl) (by omega), ?_⟩
        refine ⟨by first | exact st_ints (by kernel_rfl) rfl (by first | omega | (simp; omega) | (simp at *; omega)) | exact st_u64s (by kernel_rfl) rfl (by first | omega | (simp; omega) | (simp at *; omega)) | exact st_bools (by kernel_rfl) rfl (by first | omega | (simp; omega) | (simp at *; omega)), ?_⟩
        refine ⟨told_add (by with_reducible assumption), ?_⟩
        refine ⟨by first | with_reducible assumption | omega | assumption, ?_⟩
        refine ⟨by first | with_reducible assumption | omega | assumption, ?_⟩
        exact ⟨by rw [hk], rfl⟩
  · have hz : (n : Int) ≤ k := by omega
    have hk' : k = n := by omega
    subst hk'
    refine ⟨[Ans.o (Orc.b false)], fun u => of_eq ((↑k : Int) ≤ (↑k : Int) ∧ (42 : Nat) = (42 : Nat) ∧ hits [Out.mk Unit (AX.exit (0 : Nat)) [(3 : Nat), (6 : Nat)] (fun x => True) (fun x => [AV.ptr 0 0, AV.ptr 1 0]) (fun x => b77 k (adR A i j)) fun x => []] (AX.exit (0 : Nat)) [u (0 : Nat), I (↑i : Int), u (2 : Nat), AV.ptr 0 0, u (4 : Nat), u (5 : Nat), AV.ptr 1 0, I (↑(mor A j) : Int), u (8 : Nat), u (9 : Nat), u (10 : Nat), u (11 : Nat), u (12 : Nat), u (13 : Nat), u (14 : Nat), u (15 : Nat), u (16 : Nat), I (↑k : Int), I (↑k : Int), AV.bool false, u (20 : Nat), u (21 : Nat), u (22 : Nat), u (23 : Nat), u (24 : Nat), u (25 : Nat), u (26 : Nat), u (27 : Nat), u (28 : Nat), u (29 : Nat), u (30 : Nat), u (31 : Nat), u (32 : Nat), u (33 : Nat), u (34 : Nat), u (35 : Nat), u (36 : Nat), u (37 : Nat), u (38 : Nat), u (39 : Nat), u (40 : Nat), u (41 : Nat)] (H.mk [ints (o7 k (adj A i j k)), ints (o7 (0 : Nat) zeroR)] [] [])) (by kernel_rfl) ?_⟩
    refine ⟨by first | with_reducible assumption | omega | assumption, ?_⟩
    refine ⟨by first | with_reducible assumption | omega | assumption, ?_⟩
    exact .inl ⟨(), trivial, rfl, rfl, by rw [adj_n h.1 hi hj']⟩
theorem ok71 : FokM Try.prog none1 71 Try.f71 := ⟨mixed, by kernel_rfl, by kernel_rfl, by kernel_rfl, by kernel_rfl⟩
theorem r71 (n : Nat) (A : Rel) (i j : Nat) (h : pO n A) (hi : i < n) (hj : j < n) : Body (En6 [c102.to]) none1 Try.f71 [oA n A, I i, I j] .nil (oA n (adR A i j), .nil) := by
  have hl := lp71 n A h i j hi hj
  have h6 := h.2
  have ev0 := pw_shl (n := j) (by omega)
  have ev1 := i_orv (show ((2 ^ j : Nat) : Int) = ((2 ^ j : Nat) : Int) from rfl) (oo_b h.1 h6 hj).1 (Nat.lt_of_lt_of_le (Nat.pow_lt_pow_right (by decide : 1 < 2) (show j < 6 by omega)) (by decide)) (rg_lt h.1 h6 j)
  refine body_s ([Ans.o (Orc.val 10 (I (↑((2 : Nat) ^ j) : Int)) H.nil), Ans.o (Orc.val 13 (AV.ptr 0 ((1 : Nat) + j)) H.nil), Ans.o (Orc.val 14 (I ((o7 n A).getD ((1 : Nat) + j) i0)) H.nil), Ans.o (Orc.val 15 (I (↑((2 : Nat) ^ j ||| A j) : Int)) H.nil), Ans.loop [(1 : Nat), (3 : Nat), (6 : Nat), (7 : Nat), (17 : Nat), (18 : Nat)] [Out.mk Unit (AX.exit (0 : Nat)) [(3 : Nat), (6 : Nat)] (fun x => True) (fun x => [AV.ptr 0 0, AV.ptr 1 0]) (fun x => b77 n (adR A i j)) fun y => []]]) (aBin Try.prog BinOp.shl (3 : Nat) (I 1) (I (↑j : Int)) = some (I (↑((2 : Nat) ^ j) : Int)) ∧ aIndexAddr Try.prog (77 : Nat) (AV.ptr 0 1) (I (↑j : Int)) = some (AV.ptr 0 ((1 : Nat) + j)) ∧ aLoad Try.prog (3 : Nat) (List.drop ((1 : Nat) + j) (ints (o7 n A))) = some (I ((o7 n A).getD ((1 : Nat) + j) i0)) ∧ aBin Try.prog BinOp.or (3 : Nat) (I (↑((2 : Nat) ^ j) : Int)) (I ((o7 n A).getD ((1 : Nat) + j) i0)) = some (I (↑((2 : Nat) ^ j ||| A j) : Int)) ∧ LoopS (Env.mk Try.prog (Sof [c102.to]) (Pof (P := Try.prog) []) H.nil.base (300 : Nat)) (loopAt Try.f71 (0 : Nat)) (42 : Nat) [(1 : Nat), (3 : Nat), (6 : Nat), (7 : Nat), (17 : Nat), (18 : Nat)] [I (↑i : Int), AV.ptr 0 0, AV.ptr 1 0, I (↑((2 : Nat) ^ j ||| A j) : Int), I (↑n : Int), I 0] (H.mk [ints (o7 n A), [I 0, I 0, I 0, I 0, I 0, I 0, I 0]] [] []) [Out.mk Unit (AX.exit (0 : Nat)) [(3 : Nat), (6 : Nat)] (fun x => True) (fun x => [AV.ptr 0 0, AV.ptr 1 0]) (fun x => b77 n (adR A i j)) fun y => []] ∧ (∀ (y : Unit), True → ∀ (u : Nat → AV), (AV.agg [I (↑n : Int), I (↑(adR A i j (nat_lit 0)) : Int), I (↑(adR A i j (nat_lit 1)) : Int), I (↑(adR A i j (nat_lit 2)) : Int), I (↑(adR A i j (nat_lit 3)) : Int), I (↑(adR A i j (nat_lit 4)) : Int), I (↑(adR A i j (nat_lit 5)) : Int)], H.mk [] [] []) = (AV.agg (ints (o7 n (adR A i j))), H.mk [] [] [])) ∧ True) (by kernel_rfl) ?_
  refine ⟨by first | exact told_shl (by first | exact Int.natCast_nonneg _ | omega) (by with_reducible assumption) | exact told_shl (by omega) rfl, ?_⟩
  refine ⟨ixa_map (n := 6) (by kernel_rfl) (by omega), ?_⟩
  refine ⟨by first | exact ld_ints (by kernel_rfl) (by kernel_rfl) (by omega) | exact ldm_ints (by kernel_rfl) (by kernel_rfl) (by first | omega | (simp; omega)), ?_⟩
  refine ⟨told_or (by with_reducible assumption), ?_⟩
  refine ⟨hl, ?_⟩
  refine And.intro ?_ ?_
  · skip
    intro y
    intro w1
    intro u
    rfl
  · skip
    trivial
noncomputable def c71 : PCtr Try.prog := sctr ok71 (X := (Nat × Rel) × Nat × Nat) (fun x => [oA x.1.1 x.1.2, I x.2.1, I x.2.2]) (fun x => pO x.1.1 x.1.2 ∧ x.2.1 < x.1.1 ∧ x.2.2 < x.1.1) (fun x => oA x.1.1 (adR x.1.2 x.2.1 x.2.2))
  (by
    rintro ⟨⟨n, A⟩, i, j⟩ ⟨⟨m, B⟩, k, l⟩ e hx hy
    simp only [List.cons.injEq, AV.int.injEq, true_and, and_true, Int.natCast_inj] at e
    obtain ⟨rfl, rfl⟩ := o_det e.1 hx.1.1 hy.1.1 hx.1.2
    obtain ⟨rfl, rfl⟩ := e.2; rfl) (fun x => bnd3 _ _ _ _) (fun _ => by simp [AV.bnd]) (fun x hx => ⟨_, _, _, .pure _ .nil, r71 x.1.1 x.1.2 x.2.1 x.2.2 hx.1 hx.2.1 hx.2.2⟩)
/-- as a slice -/
def rl (n : Nat) (A : Rel) : List Int := (List.range n).map fun k => ((A k : Nat) : Int)
@[simp] theorem rl_len (n : Nat) (A : Rel) : (rl n A).length = n := by simp [rl]
end Go.Proofs.Ord

