/- Layer 7: closures, additions, lists. -/
import Derived.Test.YtmgbglnljnlapaaOrB
import Derived.Test.YtmgbglnljnlapaaVm6
import Derived.KernelRfl
set_option linter.unusedSimpArgs false
set_option linter.unusedVariables false
set_option linter.unnecessarySimpa false
set_option maxHeartbeats 4000000
set_option maxRecDepth 100000
namespace Go.Proofs.Ord
open Go Go.VM
open Go.Proofs.Sur (andn andn_bit andn_le i_wrap i_and i_or i_andn i_shl i_shr bit_01)

theorem W1j_j (A : Rel) (v j : Nat) : W1j A v j j = A j := by simp [W1j]
theorem W1j_next (A : Rel) (v j : Nat) : ∀ i, i ≠ j → W1j A v (j + 1) i = W1j A v j i := fun i hi => by
  simp only [W1j]
  by_cases h : i < j
  · rw [if_pos h, if_pos (by omega)]
  · rw [if_neg h, if_neg (by omega)]
theorem W1j_last (A : Rel) (v j : Nat) : W1j A v (j + 1) j = W1 A v j := by simp [W1j]
theorem W1j_same {A : Rel} {v j : Nat} (h : (A j).testBit v = false) : W1j A v (j + 1) = W1j A v j := by
  funext i
  by_cases e : i = j
  · subst e; rw [W1j_last, W1j_j, W1, h]; rfl
  · exact W1j_next A v j i e
theorem W1j_n {n : Nat} {A : Rel} (h : Rg n A) (v : Nat) : W1j A v n = W1 A v := by
  funext i
  simp only [W1j]
  split
  · rfl
  · rw [(W1_rg h v).2 i (by omega), h.2 i (by omega)]
theorem W1j_rg {n : Nat} {A : Rel} (h : Rg n A) (v j : Nat) : Rg n (W1j A v j) := by
  refine ⟨fun i => ?_, fun i hi => ?_⟩
  · simp only [W1j]; split
    · exact (W1_rg h v).1 i
    · exact h.1 i
  · simp only [W1j]; split
    · exact (W1_rg h v).2 i hi
    · exact h.2 i hi
/-- two orders' cells -/
abbrev b77 (n : Nat) (A : Rel) : H := ⟨[ints (o7 n A), ints (o7 0 zeroR)], [], []⟩
abbrev o66b (n : Nat) (A : Rel) (v : Nat) : List Out := [.mk Unit (.exit 2) [1, 2, 6, 7] (fun _ => True) (fun _ => [.ptr 0 0, .ptr 1 0, I n, I v]) (fun _ => b77 n (W1 A v)) (fun _ => [])]
theorem simp66b : allSimpleM none1 (loopAt Try.f66 1) = true := by kernel_rfl
theorem lp66b (n : Nat) (A : Rel) (h : pO n A) (v : Nat) (hv : v < n) : LoopS (En6 [c102.to]) (loopAt Try.f66 1) 35 [1, 2, 3, 6, 7, 11, 12] [.ptr 0 0, .ptr 1 0, I v, I n, I v, I n, I 0] (b77 n A) (o66b n A v) := by
  have hR : Rests (En6 [c102.to]) none1 := rests mixed (.pure _ .nil)
  have h6 := h.2
  refine loop_s hR simp66b none (by intro _ h; cases h) (fun j vs H => H = b77 n (W1j A v j) ∧ vs = [.ptr 0 0, .ptr 1 0, I v, I n, I v, I n, I j]) n ⟨by rw [W1j_0], rfl⟩ (by intro _ h; cases h) ?_
  rintro j vs H hj ⟨rfl, rfl⟩
  by_cases hz : (j : Int) < n
  · have hz' : j < n := by omega
    have hw : pO n (W1j A v j) := ⟨W1j_rg h.1 v j, h6⟩
    have p1 := p102 hw hz' hv
    have q1 := bi_oo hw (j := v) hz'
    rw [W1j_j] at q1
    have ev0 := wj1 (j := j) (by omega)
    have e1 := (oo_b hw.1 h6 hz').1
    have e2 := (oo_b hw.1 h6 hv).1
    rw [W1j_j] at e1
    rw [W1j_v] at e2
    have ev1 := i_orv e1 e2 (rg_lt h.1 h6 j) (rg_lt h.1 h6 v)
    cases b1 : bi (oo n (W1j A v j) j) ((v : Int)).toNat
    · have hk := W1j_same (q1.symm.trans b1)
      refine ⟨[Ans.o (Orc.b true), Ans.o (Orc.val 17 (AV.ptr 0 ((1 : Nat) + j)) H.nil), Ans.o (Orc.val 18 (I ((o7 n (W1j A v j)).getD ((1 : Nat) + j) i0)) H.nil), Ans.o (Orc.val 20 (AV.bool false) (H.mk [ints (o7 n (W1j A v j)), ints (o7 (0 : Nat) zeroR)] [] [])), Ans.o (Orc.val 32 (I (↑(j + (1 : Nat)) : Int)) H.nil)], fun u => of_eq ((↑j : Int) < (↑n : Int) ∧ aIndexAddr Try.prog (77 : Nat) (AV.ptr 0 1) (I (↑j : Int)) = some (AV.ptr 0 ((1 : Nat) + j)) ∧ aLoad Try.prog (3 : Nat) (List.drop ((1 : Nat) + j) (ints (o7 n (W1j A v j)))) = some (I ((o7 n (W1j A v j)).getD ((1 : Nat) + j) i0)) ∧ aCall (Sof [c102.to]) (AV.fn (Fn.func (102 : Nat)) [] []) [I ((o7 n (W1j A v j)).getD ((1 : Nat) + j) i0), I (↑v : Int)] (H.mk [ints (o7 n (W1j A v j)), ints (o7 (0 : Nat) zeroR)] [] []) = some (AV.bool false, H.mk [ints (o7 n (W1j A v j)), ints (o7 (0 : Nat) zeroR)] [] []) ∧ aBin Try.prog BinOp.add (3 : Nat) (I (↑j : Int)) (I 1) = some (I (↑(j + (1 : Nat)) : Int)) ∧ (35 : Nat) = (35 : Nat) ∧ j < n ∧ Keep (H.mk [ints (o7 n (W1j A v j)), ints (o7 (0 : Nat) zeroR)] [] [] = H.mk [ints (o7 n (W1j A v (j + (1 : Nat)))), ints (o7 (0 : Nat) zeroR)] [] [] ∧ [AV.ptr 0 0, AV.ptr 1 0, I (↑v : Int), I (↑n : Int), I (↑v : Int), I (↑n : Int), I (↑(j + (1 : Nat)) : Int)] = [AV.ptr 0 0, AV.ptr 1 0, I (↑v : Int), I (↑n : Int), I (↑v : Int), I (↑n : Int), I (↑(j + (1 : Nat)) : Int)])) (by kernel_rfl) ?_⟩
      refine ⟨by first | with_reducible assumption | omega | assumption, ?_⟩
      refine ⟨ixa_map (n := 6) (by kernel_rfl) (by omega), ?_⟩
      refine ⟨by first | exact ld_ints (by kernel_rfl) (by kernel_rfl) (by omega) | exact ldm_ints (by kernel_rfl) (by kernel_rfl) (by first | omega | (simp; omega)), ?_⟩
      refine ⟨acall_b (acall_hit (c := c102.to) (oo n (W1j A v j) j, (v : Int)) _ rfl p1) b1, ?_⟩
      refine ⟨told_add (by with_reducible assumption), ?_⟩
      refine ⟨by first | with_reducible assumption | omega | assumption, ?_⟩
      refine ⟨by first | with_reducible assumption | omega | assumption, ?_⟩
      exact ⟨by rw [hk], rfl⟩
    · have hk := o7_set n (W1j A v j) (W1j A v (j + 1)) (k := j) (by omega) (W1j_next A v j)
      rw [W1j_last, W1, if_pos (q1.symm.trans b1)] at hk
      refine ⟨[Ans.o (Orc.b true), Ans.o (Orc.val 17 (AV.ptr 0 ((1 : Nat) + j)) H.nil), Ans.o (Orc.val 18 (I ((o7 n (W1j A v j)).getD ((1 : Nat) + j) i0)) H.nil), Ans.o (Orc.val 20 (AV.bool true) (H.mk [ints (o7 n (W1j A v j)), ints (o7 (0 : Nat) zeroR)] [] [])), Ans.o (Orc.val 23 (AV.ptr 0 ((1 : Nat) + j)) H.nil), Ans.o (Orc.val 24 (I ((o7 n (W1j A v j)).getD ((1 : Nat) + j) i0)) H.nil), Ans.o (Orc.val 27 (AV.ptr 0 ((1 : Nat) + v)) H.nil), Ans.o (Orc.val 28 (I ((o7 n (W1j A v j)).getD ((1 : Nat) + v) i0)) H.nil), Ans.o (Orc.val 29 (I (↑(A j ||| A v) : Int)) H.nil), Ans.o (Orc.val 31 (AV.ptr 0 ((1 : Nat) + j)) H.nil), Ans.o (Orc.val 9999 (AV.tup []) (H.mk [ints ((o7 n (W1j A v j)).set ((1 : Nat) + j) (↑(A j ||| A v) : Int)), ints (o7 (0 : Nat) zeroR)] [] [])), Ans.o (Orc.val 32 (I (↑(j + (1 : Nat)) : Int)) H.nil)], fun u => of_eq ((↑j : Int) < (↑n : Int) ∧ aIndexAddr Try.prog (77 : Nat) (AV.ptr 0 1) (I (↑j : Int)) = some (AV.ptr 0 ((1 : Nat) + j)) ∧ aLoad Try.prog (3 : Nat) (List.drop ((1 : Nat) + j) (ints (o7 n (W1j A v j)))) = some (I ((o7 n (W1j A v j)).getD ((1 : Nat) + j) i0)) ∧ aCall (Sof [c102.to]) (AV.fn (Fn.func (102 : Nat)) [] []) [I ((o7 n (W1j A v j)).getD ((1 : Nat) + j) i0), I (↑v : Int)] (H.mk [ints (o7 n (W1j A v j)), ints (o7 (0 : Nat) zeroR)] [] []) = some (AV.bool true, H.mk [ints (o7 n (W1j A v j)), ints (o7 (0 : Nat) zeroR)] [] []) ∧ aIndexAddr Try.prog (77 : Nat) (AV.ptr 0 1) (I (↑j : Int)) = some (AV.ptr 0 ((1 : Nat) + j)) ∧ aLoad Try.prog (3 : Nat) (List.drop ((1 : Nat) + j) (ints (o7 n (W1j A v j)))) = some (I ((o7 n (W1j A v j)).getD ((1 : Nat) + j) i0)) ∧ aIndexAddr Try.prog (77 : Nat) (AV.ptr 0 1) (I (↑v : Int)) = some (AV.ptr 0 ((1 : Nat) + v)) ∧ aLoad Try.prog (3 : Nat) (List.drop ((1 : Nat) + v) (ints (o7 n (W1j A v j)))) = some (I ((o7 n (W1j A v j)).getD ((1 : Nat) + v) i0)) ∧ aBin Try.prog BinOp.or (3 : Nat) (I ((o7 n (W1j A v j)).getD ((1 : Nat) + j) i0)) (I ((o7 n (W1j A v j)).getD ((1 : Nat) + v) i0)) = some (I (↑(A j ||| A v) : Int)) ∧ aIndexAddr Try.prog (77 : Nat) (AV.ptr 0 1) (I (↑j : Int)) = some (AV.ptr 0 ((1 : Nat) + j)) ∧ aStore Try.prog H.nil.base (3 : Nat) (AV.ptr 0 ((1 : Nat) + j)) (I (↑(A j ||| A v) : Int)) (H.mk [ints (o7 n (W1j A v j)), ints (o7 (0 : Nat) zeroR)] [] []) = some (H.mk [ints ((o7 n (W1j A v j)).set ((1 : Nat) + j) (↑(A j ||| A v) : Int)), ints (o7 (0 : Nat) zeroR)] [] []) ∧ aBin Try.prog BinOp.add (3 : Nat) (I (↑j : Int)) (I 1) = some (I (↑(j + (1 : Nat)) : Int)) ∧ (35 : Nat) = (35 : Nat) ∧ j < n ∧ Keep (H.mk [ints ((o7 n (W1j A v j)).set ((1 : Nat) + j) (↑(A j ||| A v) : Int)), ints (o7 (0 : Nat) zeroR)] [] [] = H.mk [ints (o7 n (W1j A v (j + (1 : Nat)))), ints (o7 (0 : Nat) zeroR)] [] [] ∧ [AV.ptr 0 0, AV.ptr 1 0, I (↑v : Int), I (↑n : Int), I (↑v : Int), I (↑n : Int), I (↑(j + (1 : Nat)) : Int)] = [AV.ptr 0 0, AV.ptr 1 0, I (↑v : Int), I (↑n : Int), I (↑v : Int), I (↑n : Int), I (↑(j + (1 : Nat)) : Int)])) (by kernel_rfl) ?_⟩
      refine ⟨by first | with_reducible assumption | omega | assumption, ?_⟩
      refine ⟨ixa_map (n := 6) (by kernel_rfl) (by omega), ?_⟩
      refine ⟨by first | exact ld_ints (by kernel_rfl) (by kernel_rfl) (by omega) | exact ldm_ints (by kernel_rfl) (by kernel_rfl) (by first | omega | (simp; omega)), ?_⟩
      refine ⟨acall_b (acall_hit (c := c102.to) (oo n (W1j A v j) j, (v : Int)) _ rfl p1) b1, ?_⟩
      refine ⟨ixa_map (n := 6) (by kernel_rfl) (by omega), ?_⟩
      refine ⟨by first | exact ld_ints (by kernel_rfl) (by kernel_rfl) (by omega) | exact ldm_ints (by kernel_rfl) (by kernel_rfl) (by first | omega | (simp; omega)), ?_⟩
      refine ⟨ixa_map (n := 6) (by kernel_rfl) (by omega), ?_⟩
      refine ⟨by first | exact ld_ints (by kernel_rfl) (by kernel_rfl) (by omega) | exact ldm_ints (by kernel_rfl) (by kernel_rfl) (by first | omega | (simp; omega)), ?_⟩
      refine ⟨told_or (by with_reducible assumption), ?_⟩
      refine ⟨ixa_map (n := 6) (by kernel_rfl) (by omega), ?_⟩
      refine ⟨by first | exact st_ints (by kernel_rfl) rfl (by first | omega | (simp; omega) | (simp at *; omega)) | exact st_u64s (by kernel_rfl) rfl (by first | omega | (simp; omega) | (simp at *; omega)) | exact st_bools (by kernel_rfl) rfl (by first | omega | (simp; omega) | (simp at *; omega)), ?_⟩
      refine ⟨told_add (by with_reducible assumption), ?_⟩
      refine ⟨by first | with_reducible assumption | omega | assumption, ?_⟩
      refine ⟨by first | with_reducible assumption | omega | assumption, ?_⟩
      exact ⟨by rw [hk], rfl⟩
  · have hz : (n : Int) ≤ j := by omega
    have hj' : j = n := by omega
    subst hj'
    refine ⟨[Ans.o (Orc.b false)], fun u => of_eq ((↑j : Int) ≤ (↑j : Int) ∧ (35 : Nat) = (35 : Nat) ∧ hits [Out.mk Unit (AX.exit (2 : Nat)) [(1 : Nat), (2 : Nat), (6 : Nat), (7 : Nat)] (fun x => True) (fun x => [AV.ptr 0 0, AV.ptr 1 0, I (↑j : Int), I (↑v : Int)]) (fun x => b77 j (W1 A v)) fun x => []] (AX.exit (2 : Nat)) [u (0 : Nat), AV.ptr 0 0, AV.ptr 1 0, I (↑v : Int), u (4 : Nat), u (5 : Nat), I (↑j : Int), I (↑v : Int), u (8 : Nat), u (9 : Nat), u (10 : Nat), I (↑j : Int), I (↑j : Int), AV.bool false, u (14 : Nat), u (15 : Nat), u (16 : Nat), u (17 : Nat), u (18 : Nat), u (19 : Nat), u (20 : Nat), u (21 : Nat), u (22 : Nat), u (23 : Nat), u (24 : Nat), u (25 : Nat), u (26 : Nat), u (27 : Nat), u (28 : Nat), u (29 : Nat), u (30 : Nat), u (31 : Nat), u (32 : Nat), u (33 : Nat), u (34 : Nat)] (H.mk [ints (o7 j (W1j A v j)), ints (o7 (0 : Nat) zeroR)] [] [])) (by kernel_rfl) ?_⟩
    refine ⟨by first | with_reducible assumption | omega | assumption, ?_⟩
    refine ⟨by first | with_reducible assumption | omega | assumption, ?_⟩
    exact .inl ⟨(), trivial, rfl, rfl, by rw [W1j_n h.1]⟩
abbrev o66 (n : Nat) (A : Rel) : List Out := [.mk Unit (.exit 0) [1, 2] (fun _ => True) (fun _ => [.ptr 0 0, .ptr 1 0]) (fun _ => b77 n (Wn A n)) (fun _ => [])]
theorem simp66 : allSimpleM none1 (loopAt Try.f66 0) = true := by kernel_rfl
theorem lp66 (n : Nat) (A : Rel) (h : pO n A) : LoopS (En6 [c102.to]) (loopAt Try.f66 0) 35 [1, 2, 6, 7] [.ptr 0 0, .ptr 1 0, I n, I 0] (b77 n A) (o66 n A) := by
  have hR : Rests (En6 [c102.to]) none1 := rests mixed (.pure _ .nil)
  have h6 := h.2
  refine loop_s hR simp66 none (by intro _ h; cases h) (fun j vs H => H = b77 n (Wn A j) ∧ vs = [.ptr 0 0, .ptr 1 0, I n, I j]) n ⟨rfl, rfl⟩ (by intro _ h; cases h) ?_
  rintro j vs H hj ⟨rfl, rfl⟩
  by_cases hz : (j : Int) < n
  · have hz' : j < n := by omega
    have ev0 := wj1 (j := j) (by omega)
    have hl := lp66b n (Wn A j) ⟨Wn_rg h.1 j, h6⟩ j hz'
    refine ⟨[Ans.o (Orc.b true), Ans.loop [(1 : Nat), (2 : Nat), (3 : Nat), (6 : Nat), (7 : Nat), (11 : Nat), (12 : Nat)] [Out.mk Unit (AX.exit (2 : Nat)) [(1 : Nat), (2 : Nat), (6 : Nat), (7 : Nat)] (fun x => True) (fun x => [AV.ptr 0 0, AV.ptr 1 0, I (↑n : Int), I (↑j : Int)]) (fun x => b77 n (W1 (Wn A j) j)) fun y => [Ans.o (Orc.val 33 (I (↑(j + (1 : Nat)) : Int)) H.nil)]]], fun u => of_eq ((↑j : Int) < (↑n : Int) ∧ LoopS (Env.mk Try.prog (Sof [c102.to]) (Pof (P := Try.prog) []) H.nil.base (300 : Nat)) (loopAt Try.f66 (1 : Nat)) (35 : Nat) [(1 : Nat), (2 : Nat), (3 : Nat), (6 : Nat), (7 : Nat), (11 : Nat), (12 : Nat)] [AV.ptr 0 0, AV.ptr 1 0, I (↑j : Int), I (↑n : Int), I (↑j : Int), I (↑n : Int), I 0] (H.mk [ints (o7 n (Wn A j)), ints (o7 (0 : Nat) zeroR)] [] []) [Out.mk Unit (AX.exit (2 : Nat)) [(1 : Nat), (2 : Nat), (6 : Nat), (7 : Nat)] (fun x => True) (fun x => [AV.ptr 0 0, AV.ptr 1 0, I (↑n : Int), I (↑j : Int)]) (fun x => b77 n (W1 (Wn A j) j)) fun y => [Ans.o (Orc.val 33 (I (↑(j + (1 : Nat)) : Int)) H.nil)]] ∧ (∀ (y : Unit), True → ∀ (u : Nat → AV), aBin Try.prog BinOp.add (3 : Nat) (I (↑j : Int)) (I 1) = some (I (↑(j + (1 : Nat)) : Int)) ∧ (35 : Nat) = (35 : Nat) ∧ j < n ∧ Keep (H.mk [ints (o7 n (W1 (Wn A j) j)), ints (o7 (0 : Nat) zeroR)] [] [] = H.mk [ints (o7 n (Wn A (j + (1 : Nat)))), ints (o7 (0 : Nat) zeroR)] [] [] ∧ [AV.ptr 0 0, AV.ptr 1 0, I (↑n : Int), I (↑(j + (1 : Nat)) : Int)] = [AV.ptr 0 0, AV.ptr 1 0, I (↑n : Int), I (↑(j + (1 : Nat)) : Int)])) ∧ True) (by kernel_rfl) ?_⟩
    refine ⟨by first | with_reducible assumption | omega | assumption, ?_⟩
    refine ⟨hl, ?_⟩
    refine And.intro ?_ ?_
    · skip
      intro y
      intro w1
      intro u
      refine ⟨told_add (by with_reducible assumption), ?_⟩
      refine ⟨by first | with_reducible assumption | omega | assumption, ?_⟩
      refine ⟨by first | with_reducible assumption | omega | assumption, ?_⟩
      exact ⟨rfl, rfl⟩
    · skip
      trivial
  · have hz : (n : Int) ≤ j := by omega
    have hj' : j = n := by omega
    subst hj'
    refine ⟨[Ans.o (Orc.b false)], fun u => of_eq ((↑j : Int) ≤ (↑j : Int) ∧ (35 : Nat) = (35 : Nat) ∧ hits [Out.mk Unit (AX.exit (0 : Nat)) [(1 : Nat), (2 : Nat)] (fun x => True) (fun x => [AV.ptr 0 0, AV.ptr 1 0]) (fun x => b77 j (Wn A j)) fun x => []] (AX.exit (0 : Nat)) [u (0 : Nat), AV.ptr 0 0, AV.ptr 1 0, u (3 : Nat), u (4 : Nat), u (5 : Nat), I (↑j : Int), I (↑j : Int), AV.bool false, u (9 : Nat), u (10 : Nat), u (11 : Nat), u (12 : Nat), u (13 : Nat), u (14 : Nat), u (15 : Nat), u (16 : Nat), u (17 : Nat), u (18 : Nat), u (19 : Nat), u (20 : Nat), u (21 : Nat), u (22 : Nat), u (23 : Nat), u (24 : Nat), u (25 : Nat), u (26 : Nat), u (27 : Nat), u (28 : Nat), u (29 : Nat), u (30 : Nat), u (31 : Nat), u (32 : Nat), u (33 : Nat), u (34 : Nat)] (H.mk [ints (o7 j (Wn A j)), ints (o7 (0 : Nat) zeroR)] [] [])) (by kernel_rfl) ?_⟩
    refine ⟨by first | with_reducible assumption | omega | assumption, ?_⟩
    refine ⟨by first | with_reducible assumption | omega | assumption, ?_⟩
    exact .inl ⟨(), trivial, rfl, rfl, rfl⟩
theorem ok66 : FokM Try.prog none1 66 Try.f66 := ⟨mixed, by kernel_rfl, by kernel_rfl, by kernel_rfl, by kernel_rfl⟩
theorem r66 (n : Nat) (A : Rel) (h : pO n A) : Body (En6 [c102.to]) none1 Try.f66 [oA n A] .nil (oA n (Wn A n), .nil) := by
  have hl := lp66 n A h
  refine body_s ([Ans.loop [(1 : Nat), (2 : Nat), (6 : Nat), (7 : Nat)] [Out.mk Unit (AX.exit (0 : Nat)) [(1 : Nat), (2 : Nat)] (fun x => True) (fun x => [AV.ptr 0 0, AV.ptr 1 0]) (fun x => b77 n (Wn A n)) fun y => []]]) (LoopS (Env.mk Try.prog (Sof [c102.to]) (Pof (P := Try.prog) []) H.nil.base (300 : Nat)) (loopAt Try.f66 (0 : Nat)) (35 : Nat) [(1 : Nat), (2 : Nat), (6 : Nat), (7 : Nat)] [AV.ptr 0 0, AV.ptr 1 0, I (↑n : Int), I 0] (H.mk [ints (o7 n A), [I 0, I 0, I 0, I 0, I 0, I 0, I 0]] [] []) [Out.mk Unit (AX.exit (0 : Nat)) [(1 : Nat), (2 : Nat)] (fun x => True) (fun x => [AV.ptr 0 0, AV.ptr 1 0]) (fun x => b77 n (Wn A n)) fun y => []] ∧ (∀ (y : Unit), True → ∀ (u : Nat → AV), (AV.agg [I (↑n : Int), I (↑(Wn A n (nat_lit 0)) : Int), I (↑(Wn A n (nat_lit 1)) : Int), I (↑(Wn A n (nat_lit 2)) : Int), I (↑(Wn A n (nat_lit 3)) : Int), I (↑(Wn A n (nat_lit 4)) : Int), I (↑(Wn A n (nat_lit 5)) : Int)], H.mk [] [] []) = (AV.agg (ints (o7 n (Wn A n))), H.mk [] [] [])) ∧ True) (by kernel_rfl) ?_
  refine ⟨hl, ?_⟩
  refine And.intro ?_ ?_
  · skip
    intro y
    intro w1
    intro u
    rfl
  · skip
    trivial
noncomputable def c66 : PCtr Try.prog := sctr ok66 (X := Nat × Rel) (fun x => [oA x.1 x.2]) (fun x => pO x.1 x.2) (fun x => oA x.1 (Wn x.2 x.1))
  (by rintro ⟨n, A⟩ ⟨m, B⟩ e hx hy; obtain ⟨rfl, rfl⟩ := o_det (List.cons.inj e).1 hx.1 hy.1 hx.2; rfl) (fun x => oA_wk _ _) (fun _ => by simp [AV.bnd]) (fun x hx => ⟨_, _, _, .pure _ .nil, r66 x.1 x.2 hx⟩)
end Go.Proofs.Ord

