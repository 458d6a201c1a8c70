/- Layer 5: linear programs: which equation gives an unknown away. -/
import Derived.Test.YtlomlnkafakloaaDoorSyb
import Derived.KernelRfl
set_option linter.unusedSimpArgs false
set_option linter.unusedVariables false
set_option linter.unnecessarySimpa false
set_option maxHeartbeats 4000000
set_option maxRecDepth 100000
namespace Go.Proofs.Sur
open Go Go.VM

theorem ok107 : FokM Tryd.prog none1 107 Tryd.f107 := ⟨mixed, by kernel_rfl, by kernel_rfl, by kernel_rfl, by kernel_rfl⟩
theorem r107 (n m : Nat) (R B : List Int) (s : Int) (hn : nm n m) (h : Eqs n m R B) (i j e : Nat) (hi : i < m) (hj : j < m) (he : e < n + m) :
    Body (E4 [g89 n m hn]) none1 Tryd.f107 [.ptr 2 0, I (i : Nat), I (j : Nat), I (e : Nat)] (hG n m R B s) (.bool (decide (tg n m R B e i j)), hG n m R B s) := by
  have ev0 := w_pred hn
  have hi1 := hsG n m i R B s (by omega)
  have hj1 := hsG n m j R B s (by omega)
  have l1 := wd_ix h (i := i) (c := n + m) (by omega) (by omega)
  have l2 := wd_ix h (i := j) (c := n + m) (by omega) (by omega)
  have l3 := wd_ix h (i := i) (c := e) (by omega) (by omega)
  have l4 := wd_ix h (i := j) (c := e) (by omega) (by omega)
  have c1 := h.cl i (n + m) (by omega) (by omega)
  have c2 := h.cl j (n + m) (by omega) (by omega)
  have c3 := h.cl i e (by omega) (by omega)
  have c4 := h.cl j e (by omega) (by omega)
  have ev1 := wr_mul c1 c4
  have ev2 := wr_mul c2 c3
  have b1 : i < B.length := by rw [h.lenB]; exact hi
  have b2 : j < B.length := by rw [h.lenB]; exact hj
  have x1 : n + m < wdt n m := by simp only [wdt]; omega
  have x2 : e < wdt n m := by simp only [wdt]; omega
  have ht : tg n m R B e i j = (R.getD (i * wdt n m + (n + m)) i0 * R.getD (j * wdt n m + e) i0 < R.getD (j * wdt n m + (n + m)) i0 * R.getD (i * wdt n m + e) i0 ∨ R.getD (i * wdt n m + (n + m)) i0 * R.getD (j * wdt n m + e) i0 = R.getD (j * wdt n m + (n + m)) i0 * R.getD (i * wdt n m + e) i0 ∧ B.getD i i0 < B.getD j i0) := rfl
  by_cases k1 : R.getD (i * wdt n m + (n + m)) i0 * R.getD (j * wdt n m + e) i0 < R.getD (j * wdt n m + (n + m)) i0 * R.getD (i * wdt n m + e) i0
  · have hd : decide (tg n m R B e i j) = true := by rw [decide_eq_true_eq, ht]; exact .inl k1
    rw [hd]
    refine body_s ([Ans.o (Orc.val 15 (AV.msl 1 (i * wdt n m) (wdt n m) (wdt n m) (1 : Nat)) (hG n m R B s)), Ans.o (Orc.val 18 (AV.msl 1 (j * wdt n m) (wdt n m) (wdt n m) (1 : Nat)) (hG n m R B s)), Ans.o (Orc.val 24 (I (↑(n + m) : Int)) H.nil), Ans.o (Orc.val 25 (AV.ptr 1 (i * wdt n m + (n + m))) H.nil), Ans.o (Orc.val 26 (I (R.getD (i * wdt n m + (n + m)) i0)) H.nil), Ans.o (Orc.val 29 (AV.ptr 1 (j * wdt n m + e)) H.nil), Ans.o (Orc.val 30 (I (R.getD (j * wdt n m + e) i0)) H.nil), Ans.o (Orc.val 31 (I (R.getD (i * wdt n m + (n + m)) i0 * R.getD (j * wdt n m + e) i0)) H.nil), Ans.o (Orc.val 37 (I (↑(n + m) : Int)) H.nil), Ans.o (Orc.val 38 (AV.ptr 1 (j * wdt n m + (n + m))) H.nil), Ans.o (Orc.val 39 (I (R.getD (j * wdt n m + (n + m)) i0)) H.nil), Ans.o (Orc.val 42 (AV.ptr 1 (i * wdt n m + e)) H.nil), Ans.o (Orc.val 43 (I (R.getD (i * wdt n m + e) i0)) H.nil), Ans.o (Orc.val 44 (I (R.getD (j * wdt n m + (n + m)) i0 * R.getD (i * wdt n m + e) i0)) H.nil), Ans.o (Orc.b true)]) (aCall (Sof [g89 n m hn]) (AV.fn (Fn.func 89) [] []) [AV.ptr 2 0, I (↑i : Int)] (hG n m R B s) = some (AV.msl 1 (i * wdt n m) (wdt n m) (wdt n m) (1 : Nat), H.mk [[I 0, I 0], ints R, [AV.msl 1 0 ((m + (1 : Nat)) * wdt n m) ((m + (1 : Nat)) * wdt n m) (1 : Nat), I (↑(wdt n m) : Int), AV.msl 3 0 m (9223372036854775808 : Nat) (1 : Nat), I s], ints B] [] []) ∧ aCall (Sof [g89 n m hn]) (AV.fn (Fn.func 89) [] []) [AV.ptr 2 0, I (↑j : Int)] (hG n m R B s) = some (AV.msl 1 (j * wdt n m) (wdt n m) (wdt n m) (1 : Nat), H.mk [[I 0, I 0], ints R, [AV.msl 1 0 ((m + (1 : Nat)) * wdt n m) ((m + (1 : Nat)) * wdt n m) (1 : Nat), I (↑(wdt n m) : Int), AV.msl 3 0 m (9223372036854775808 : Nat) (1 : Nat), I s], ints B] [] []) ∧ aBin Tryd.prog BinOp.sub (3 : Nat) (I (↑(wdt n m) : Int)) (I 1) = some (I (↑(n + m) : Int)) ∧ aIndexAddr Tryd.prog 22 (AV.msl 1 (i * wdt n m) (wdt n m) (wdt n m) (1 : Nat)) (I (↑(n + m) : Int)) = some (AV.ptr 1 (i * wdt n m + (n + m))) ∧ aLoad Tryd.prog 3 (List.drop (i * wdt n m + (n + m)) (ints R)) = some (I (R.getD (i * wdt n m + (n + m)) i0)) ∧ aIndexAddr Tryd.prog 22 (AV.msl 1 (j * wdt n m) (wdt n m) (wdt n m) (1 : Nat)) (I (↑e : Int)) = some (AV.ptr 1 (j * wdt n m + e)) ∧ aLoad Tryd.prog 3 (List.drop (j * wdt n m + e) (ints R)) = some (I (R.getD (j * wdt n m + e) i0)) ∧ aBin Tryd.prog BinOp.mul (3 : Nat) (I (R.getD (i * wdt n m + (n + m)) i0)) (I (R.getD (j * wdt n m + e) i0)) = some (I (R.getD (i * wdt n m + (n + m)) i0 * R.getD (j * wdt n m + e) i0)) ∧ aBin Tryd.prog BinOp.sub (3 : Nat) (I (↑(wdt n m) : Int)) (I 1) = some (I (↑(n + m) : Int)) ∧ aIndexAddr Tryd.prog 22 (AV.msl 1 (j * wdt n m) (wdt n m) (wdt n m) (1 : Nat)) (I (↑(n + m) : Int)) = some (AV.ptr 1 (j * wdt n m + (n + m))) ∧ aLoad Tryd.prog 3 (List.drop (j * wdt n m + (n + m)) (ints R)) = some (I (R.getD (j * wdt n m + (n + m)) i0)) ∧ aIndexAddr Tryd.prog 22 (AV.msl 1 (i * wdt n m) (wdt n m) (wdt n m) (1 : Nat)) (I (↑e : Int)) = some (AV.ptr 1 (i * wdt n m + e)) ∧ aLoad Tryd.prog 3 (List.drop (i * wdt n m + e) (ints R)) = some (I (R.getD (i * wdt n m + e) i0)) ∧ aBin Tryd.prog BinOp.mul (3 : Nat) (I (R.getD (j * wdt n m + (n + m)) i0)) (I (R.getD (i * wdt n m + e) i0)) = some (I (R.getD (j * wdt n m + (n + m)) i0 * R.getD (i * wdt n m + e) i0)) ∧ R.getD (i * wdt n m + (n + m)) i0 * R.getD (j * wdt n m + e) i0 < R.getD (j * wdt n m + (n + m)) i0 * R.getD (i * wdt n m + e) i0 ∧ (AV.bool true, H.mk [[I 0, I 0], ints R, [AV.msl 1 0 ((m + (1 : Nat)) * wdt n m) ((m + (1 : Nat)) * wdt n m) (1 : Nat), I (↑(wdt n m) : Int), AV.msl 3 0 m (9223372036854775808 : Nat) (1 : Nat), I s], ints B] [] []) = (AV.bool true, H.mk [[I 0, I 0], ints R, [AV.msl 1 0 ((m + (1 : Nat)) * wdt n m) ((m + (1 : Nat)) * wdt n m) (1 : Nat), I (↑(wdt n m) : Int), AV.msl 3 0 m (9223372036854775808 : Nat) (1 : Nat), I s], ints B] [] [])) (by kernel_rfl) ?_
    refine ⟨acall_hit (c := g89 n m hn) _ _ rfl (by assumption), ?_⟩
    refine ⟨acall_hit (c := g89 n m hn) _ _ rfl (by assumption), ?_⟩
    refine ⟨told_sub (by with_reducible assumption), ?_⟩
    refine ⟨ixm_map (by kernel_rfl) (by assumption), ?_⟩
    refine ⟨ldm_ints (by kernel_rfl) (by kernel_rfl) (by assumption), ?_⟩
    refine ⟨ixm_map (by kernel_rfl) (by assumption), ?_⟩
    refine ⟨ldm_ints (by kernel_rfl) (by kernel_rfl) (by assumption), ?_⟩
    refine ⟨told_mul (by with_reducible assumption), ?_⟩
    refine ⟨told_sub (by with_reducible assumption), ?_⟩
    refine ⟨ixm_map (by kernel_rfl) (by assumption), ?_⟩
    refine ⟨ldm_ints (by kernel_rfl) (by kernel_rfl) (by assumption), ?_⟩
    refine ⟨ixm_map (by kernel_rfl) (by assumption), ?_⟩
    refine ⟨ldm_ints (by kernel_rfl) (by kernel_rfl) (by assumption), ?_⟩
    refine ⟨told_mul (by with_reducible assumption), ?_⟩
    refine ⟨by first | with_reducible assumption | omega | assumption, ?_⟩
    rfl
  · have k1 : R.getD (j * wdt n m + (n + m)) i0 * R.getD (i * wdt n m + e) i0 ≤ R.getD (i * wdt n m + (n + m)) i0 * R.getD (j * wdt n m + e) i0 := by omega
    by_cases k2 : R.getD (i * wdt n m + (n + m)) i0 * R.getD (j * wdt n m + e) i0 = R.getD (j * wdt n m + (n + m)) i0 * R.getD (i * wdt n m + e) i0
    · by_cases k3 : B.getD i i0 < B.getD j i0
      · have hd : decide (tg n m R B e i j) = true := by rw [decide_eq_true_eq, ht]; exact .inr ⟨k2, k3⟩
        rw [hd]
        refine body_s ([Ans.o (Orc.val 15 (AV.msl 1 (i * wdt n m) (wdt n m) (wdt n m) (1 : Nat)) (hG n m R B s)), Ans.o (Orc.val 18 (AV.msl 1 (j * wdt n m) (wdt n m) (wdt n m) (1 : Nat)) (hG n m R B s)), Ans.o (Orc.val 24 (I (↑(n + m) : Int)) H.nil), Ans.o (Orc.val 25 (AV.ptr 1 (i * wdt n m + (n + m))) H.nil), Ans.o (Orc.val 26 (I (R.getD (i * wdt n m + (n + m)) i0)) H.nil), Ans.o (Orc.val 29 (AV.ptr 1 (j * wdt n m + e)) H.nil), Ans.o (Orc.val 30 (I (R.getD (j * wdt n m + e) i0)) H.nil), Ans.o (Orc.val 31 (I (R.getD (i * wdt n m + (n + m)) i0 * R.getD (j * wdt n m + e) i0)) H.nil), Ans.o (Orc.val 37 (I (↑(n + m) : Int)) H.nil), Ans.o (Orc.val 38 (AV.ptr 1 (j * wdt n m + (n + m))) H.nil), Ans.o (Orc.val 39 (I (R.getD (j * wdt n m + (n + m)) i0)) H.nil), Ans.o (Orc.val 42 (AV.ptr 1 (i * wdt n m + e)) H.nil), Ans.o (Orc.val 43 (I (R.getD (i * wdt n m + e) i0)) H.nil), Ans.o (Orc.val 44 (I (R.getD (j * wdt n m + (n + m)) i0 * R.getD (i * wdt n m + e) i0)) H.nil), Ans.o (Orc.b false), Ans.o (Orc.b true), Ans.o (Orc.val 58 (AV.ptr 3 i) H.nil), Ans.o (Orc.val 59 (I (B.getD i i0)) H.nil), Ans.o (Orc.val 65 (AV.ptr 3 j) H.nil), Ans.o (Orc.val 66 (I (B.getD j i0)) H.nil), Ans.o (Orc.b true)]) (aCall (Sof [g89 n m hn]) (AV.fn (Fn.func 89) [] []) [AV.ptr 2 0, I (↑i : Int)] (hG n m R B s) = some (AV.msl 1 (i * wdt n m) (wdt n m) (wdt n m) (1 : Nat), H.mk [[I 0, I 0], ints R, [AV.msl 1 0 ((m + (1 : Nat)) * wdt n m) ((m + (1 : Nat)) * wdt n m) (1 : Nat), I (↑(wdt n m) : Int), AV.msl 3 0 m (9223372036854775808 : Nat) (1 : Nat), I s], ints B] [] []) ∧ aCall (Sof [g89 n m hn]) (AV.fn (Fn.func 89) [] []) [AV.ptr 2 0, I (↑j : Int)] (hG n m R B s) = some (AV.msl 1 (j * wdt n m) (wdt n m) (wdt n m) (1 : Nat), H.mk [[I 0, I 0], ints R, [AV.msl 1 0 ((m + (1 : Nat)) * wdt n m) ((m + (1 : Nat)) * wdt n m) (1 : Nat), I (↑(wdt n m) : Int), AV.msl 3 0 m (9223372036854775808 : Nat) (1 : Nat), I s], ints B] [] []) ∧ aBin Tryd.prog BinOp.sub (3 : Nat) (I (↑(wdt n m) : Int)) (I 1) = some (I (↑(n + m) : Int)) ∧ aIndexAddr Tryd.prog 22 (AV.msl 1 (i * wdt n m) (wdt n m) (wdt n m) (1 : Nat)) (I (↑(n + m) : Int)) = some (AV.ptr 1 (i * wdt n m + (n + m))) ∧ aLoad Tryd.prog 3 (List.drop (i * wdt n m + (n + m)) (ints R)) = some (I (R.getD (i * wdt n m + (n + m)) i0)) ∧ aIndexAddr Tryd.prog 22 (AV.msl 1 (j * wdt n m) (wdt n m) (wdt n m) (1 : Nat)) (I (↑e : Int)) = some (AV.ptr 1 (j * wdt n m + e)) ∧ aLoad Tryd.prog 3 (List.drop (j * wdt n m + e) (ints R)) = some (I (R.getD (j * wdt n m + e) i0)) ∧ aBin Tryd.prog BinOp.mul (3 : Nat) (I (R.getD (i * wdt n m + (n + m)) i0)) (I (R.getD (j * wdt n m + e) i0)) = some (I (R.getD (i * wdt n m + (n + m)) i0 * R.getD (j * wdt n m + e) i0)) ∧ aBin Tryd.prog BinOp.sub (3 : Nat) (I (↑(wdt n m) : Int)) (I 1) = some (I (↑(n + m) : Int)) ∧ aIndexAddr Tryd.prog 22 (AV.msl 1 (j * wdt n m) (wdt n m) (wdt n m) (1 : Nat)) (I (↑(n + m) : Int)) = some (AV.ptr 1 (j * wdt n m + (n + m))) ∧ aLoad Tryd.prog 3 (List.drop (j * wdt n m + (n + m)) (ints R)) = some (I (R.getD (j * wdt n m + (n + m)) i0)) ∧ aIndexAddr Tryd.prog 22 (AV.msl 1 (i * wdt n m) (wdt n m) (wdt n m) (1 : Nat)) (I (↑e : Int)) = some (AV.ptr 1 (i * wdt n m + e)) ∧ aLoad Tryd.prog 3 (List.drop (i * wdt n m + e) (ints R)) = some (I (R.getD (i * wdt n m + e) i0)) ∧ aBin Tryd.prog BinOp.mul (3 : Nat) (I (R.getD (j * wdt n m + (n + m)) i0)) (I (R.getD (i * wdt n m + e) i0)) = some (I (R.getD (j * wdt n m + (n + m)) i0 * R.getD (i * wdt n m + e) i0)) ∧ R.getD (j * wdt n m + (n + m)) i0 * R.getD (i * wdt n m + e) i0 ≤ R.getD (i * wdt n m + (n + m)) i0 * R.getD (j * wdt n m + e) i0 ∧ R.getD (i * wdt n m + (n + m)) i0 * R.getD (j * wdt n m + e) i0 = R.getD (j * wdt n m + (n + m)) i0 * R.getD (i * wdt n m + e) i0 ∧ aIndexAddr Tryd.prog 22 (AV.msl 3 0 m (9223372036854775808 : Nat) (1 : Nat)) (I (↑i : Int)) = some (AV.ptr 3 i) ∧ aLoad Tryd.prog 3 (List.drop i (ints B)) = some (I (B.getD i i0)) ∧ aIndexAddr Tryd.prog 22 (AV.msl 3 0 m (9223372036854775808 : Nat) (1 : Nat)) (I (↑j : Int)) = some (AV.ptr 3 j) ∧ aLoad Tryd.prog 3 (List.drop j (ints B)) = some (I (B.getD j i0)) ∧ B.getD i i0 < B.getD j i0 ∧ (AV.bool true, H.mk [[I 0, I 0], ints R, [AV.msl 1 0 ((m + (1 : Nat)) * wdt n m) ((m + (1 : Nat)) * wdt n m) (1 : Nat), I (↑(wdt n m) : Int), AV.msl 3 0 m (9223372036854775808 : Nat) (1 : Nat), I s], ints B] [] []) = (AV.bool true, H.mk [[I 0, I 0], ints R, [AV.msl 1 0 ((m + (1 : Nat)) * wdt n m) ((m + (1 : Nat)) * wdt n m) (1 : Nat), I (↑(wdt n m) : Int), AV.msl 3 0 m (9223372036854775808 : Nat) (1 : Nat), I s], ints B] [] [])) (by kernel_rfl) ?_
        refine ⟨acall_hit (c := g89 n m hn) _ _ rfl (by assumption), ?_⟩
        refine ⟨acall_hit (c := g89 n m hn) _ _ rfl (by assumption), ?_⟩
        refine ⟨told_sub (by with_reducible assumption), ?_⟩
        refine ⟨by first | exact ixm_map (by kernel_rfl) (by assumption) | exact ixm0 (by kernel_rfl) (by assumption), ?_⟩
        refine ⟨ldm_ints (by kernel_rfl) (by kernel_rfl) (by assumption), ?_⟩
        refine ⟨by first | exact ixm_map (by kernel_rfl) (by assumption) | exact ixm0 (by kernel_rfl) (by assumption), ?_⟩
        refine ⟨ldm_ints (by kernel_rfl) (by kernel_rfl) (by assumption), ?_⟩
        refine ⟨told_mul (by with_reducible assumption), ?_⟩
        refine ⟨told_sub (by with_reducible assumption), ?_⟩
        refine ⟨by first | exact ixm_map (by kernel_rfl) (by assumption) | exact ixm0 (by kernel_rfl) (by assumption), ?_⟩
        refine ⟨ldm_ints (by kernel_rfl) (by kernel_rfl) (by assumption), ?_⟩
        refine ⟨by first | exact ixm_map (by kernel_rfl) (by assumption) | exact ixm0 (by kernel_rfl) (by assumption), ?_⟩
        refine ⟨ldm_ints (by kernel_rfl) (by kernel_rfl) (by assumption), ?_⟩
        refine ⟨told_mul (by with_reducible assumption), ?_⟩
        refine ⟨by first | with_reducible assumption | omega | assumption, ?_⟩
        refine ⟨by first | with_reducible assumption | omega | assumption, ?_⟩
        refine ⟨by first | exact ixm_map (by kernel_rfl) (by assumption) | exact ixm0 (by kernel_rfl) (by assumption), ?_⟩
        refine ⟨ldm_ints (by kernel_rfl) (by kernel_rfl) (by assumption), ?_⟩
        refine ⟨by first | exact ixm_map (by kernel_rfl) (by assumption) | exact ixm0 (by kernel_rfl) (by assumption), ?_⟩
        refine ⟨ldm_ints (by kernel_rfl) (by kernel_rfl) (by assumption), ?_⟩
        refine ⟨by first | with_reducible assumption | omega | assumption, ?_⟩
        rfl
      · have k3 : B.getD j i0 ≤ B.getD i i0 := by omega
        have hd : decide (tg n m R B e i j) = false := by rw [decide_eq_false_iff_not, ht]; omega
        rw [hd]
        refine body_s ([Ans.o (Orc.val 15 (AV.msl 1 (i * wdt n m) (wdt n m) (wdt n m) (1 : Nat)) (hG n m R B s)), Ans.o (Orc.val 18 (AV.msl 1 (j * wdt n m) (wdt n m) (wdt n m) (1 : Nat)) (hG n m R B s)), Ans.o (Orc.val 24 (I (↑(n + m) : Int)) H.nil), Ans.o (Orc.val 25 (AV.ptr 1 (i * wdt n m + (n + m))) H.nil), Ans.o (Orc.val 26 (I (R.getD (i * wdt n m + (n + m)) i0)) H.nil), Ans.o (Orc.val 29 (AV.ptr 1 (j * wdt n m + e)) H.nil), Ans.o (Orc.val 30 (I (R.getD (j * wdt n m + e) i0)) H.nil), Ans.o (Orc.val 31 (I (R.getD (i * wdt n m + (n + m)) i0 * R.getD (j * wdt n m + e) i0)) H.nil), Ans.o (Orc.val 37 (I (↑(n + m) : Int)) H.nil), Ans.o (Orc.val 38 (AV.ptr 1 (j * wdt n m + (n + m))) H.nil), Ans.o (Orc.val 39 (I (R.getD (j * wdt n m + (n + m)) i0)) H.nil), Ans.o (Orc.val 42 (AV.ptr 1 (i * wdt n m + e)) H.nil), Ans.o (Orc.val 43 (I (R.getD (i * wdt n m + e) i0)) H.nil), Ans.o (Orc.val 44 (I (R.getD (j * wdt n m + (n + m)) i0 * R.getD (i * wdt n m + e) i0)) H.nil), Ans.o (Orc.b false), Ans.o (Orc.b true), Ans.o (Orc.val 58 (AV.ptr 3 i) H.nil), Ans.o (Orc.val 59 (I (B.getD i i0)) H.nil), Ans.o (Orc.val 65 (AV.ptr 3 j) H.nil), Ans.o (Orc.val 66 (I (B.getD j i0)) H.nil), Ans.o (Orc.b false)]) (aCall (Sof [g89 n m hn]) (AV.fn (Fn.func 89) [] []) [AV.ptr 2 0, I (↑i : Int)] (hG n m R B s) = some (AV.msl 1 (i * wdt n m) (wdt n m) (wdt n m) (1 : Nat), H.mk [[I 0, I 0], ints R, [AV.msl 1 0 ((m + (1 : Nat)) * wdt n m) ((m + (1 : Nat)) * wdt n m) (1 : Nat), I (↑(wdt n m) : Int), AV.msl 3 0 m (9223372036854775808 : Nat) (1 : Nat), I s], ints B] [] []) ∧ aCall (Sof [g89 n m hn]) (AV.fn (Fn.func 89) [] []) [AV.ptr 2 0, I (↑j : Int)] (hG n m R B s) = some (AV.msl 1 (j * wdt n m) (wdt n m) (wdt n m) (1 : Nat), H.mk [[I 0, I 0], ints R, [AV.msl 1 0 ((m + (1 : Nat)) * wdt n m) ((m + (1 : Nat)) * wdt n m) (1 : Nat), I (↑(wdt n m) : Int), AV.msl 3 0 m (9223372036854775808 : Nat) (1 : Nat), I s], ints B] [] []) ∧ aBin Tryd.prog BinOp.sub (3 : Nat) (I (↑(wdt n m) : Int)) (I 1) = some (I (↑(n + m) : Int)) ∧ aIndexAddr Tryd.prog 22 (AV.msl 1 (i * wdt n m) (wdt n m) (wdt n m) (1 : Nat)) (I (↑(n + m) : Int)) = some (AV.ptr 1 (i * wdt n m + (n + m))) ∧ aLoad Tryd.prog 3 (List.drop (i * wdt n m + (n + m)) (ints R)) = some (I (R.getD (i * wdt n m + (n + m)) i0)) ∧ aIndexAddr Tryd.prog 22 (AV.msl 1 (j * wdt n m) (wdt n m) (wdt n m) (1 : Nat)) (I (↑e : Int)) = some (AV.ptr 1 (j * wdt n m + e)) ∧ aLoad Tryd.prog 3 (List.drop (j * wdt n m + e) (ints R)) = some (I (R.getD (j * wdt n m + e) i0)) ∧ aBin Tryd.prog BinOp.mul (3 : Nat) (I (R.getD (i * wdt n m + (n + m)) i0)) (I (R.getD (j * wdt n m + e) i0)) = some (I (R.getD (i * wdt n m + (n + m)) i0 * R.getD (j * wdt n m + e) i0)) ∧ aBin Tryd.prog BinOp.sub (3 : Nat) (I (↑(wdt n m) : Int)) (I 1) = some (I (↑(n + m) : Int)) ∧ aIndexAddr Tryd.prog 22 (AV.msl 1 (j * wdt n m) (wdt n m) (wdt n m) (1 : Nat)) (I (↑(n + m) : Int)) = some (AV.ptr 1 (j * wdt n m + (n + m))) ∧ aLoad Tryd.prog 3 (List.drop (j * wdt n m + (n + m)) (ints R)) = some (I (R.getD (j * wdt n m + (n + m)) i0)) ∧ aIndexAddr Tryd.prog 22 (AV.msl 1 (i * wdt n m) (wdt n m) (wdt n m) (1 : Nat)) (I (↑e : Int)) = some (AV.ptr 1 (i * wdt n m + e)) ∧ aLoad Tryd.prog 3 (List.drop (i * wdt n m + e) (ints R)) = some (I (R.getD (i * wdt n m + e) i0)) ∧ aBin Tryd.prog BinOp.mul (3 : Nat) (I (R.getD (j * wdt n m + (n + m)) i0)) (I (R.getD (i * wdt n m + e) i0)) = some (I (R.getD (j * wdt n m + (n + m)) i0 * R.getD (i * wdt n m + e) i0)) ∧ R.getD (j * wdt n m + (n + m)) i0 * R.getD (i * wdt n m + e) i0 ≤ R.getD (i * wdt n m + (n + m)) i0 * R.getD (j * wdt n m + e) i0 ∧ R.getD (i * wdt n m + (n + m)) i0 * R.getD (j * wdt n m + e) i0 = R.getD (j * wdt n m + (n + m)) i0 * R.getD (i * wdt n m + e) i0 ∧ aIndexAddr Tryd.prog 22 (AV.msl 3 0 m (9223372036854775808 : Nat) (1 : Nat)) (I (↑i : Int)) = some (AV.ptr 3 i) ∧ aLoad Tryd.prog 3 (List.drop i (ints B)) = some (I (B.getD i i0)) ∧ aIndexAddr Tryd.prog 22 (AV.msl 3 0 m (9223372036854775808 : Nat) (1 : Nat)) (I (↑j : Int)) = some (AV.ptr 3 j) ∧ aLoad Tryd.prog 3 (List.drop j (ints B)) = some (I (B.getD j i0)) ∧ B.getD j i0 ≤ B.getD i i0 ∧ (AV.bool false, H.mk [[I 0, I 0], ints R, [AV.msl 1 0 ((m + (1 : Nat)) * wdt n m) ((m + (1 : Nat)) * wdt n m) (1 : Nat), I (↑(wdt n m) : Int), AV.msl 3 0 m (9223372036854775808 : Nat) (1 : Nat), I s], ints B] [] []) = (AV.bool false, H.mk [[I 0, I 0], ints R, [AV.msl 1 0 ((m + (1 : Nat)) * wdt n m) ((m + (1 : Nat)) * wdt n m) (1 : Nat), I (↑(wdt n m) : Int), AV.msl 3 0 m (9223372036854775808 : Nat) (1 : Nat), I s], ints B] [] [])) (by kernel_rfl) ?_
        refine ⟨acall_hit (c := g89 n m hn) _ _ rfl (by assumption), ?_⟩
        refine ⟨acall_hit (c := g89 n m hn) _ _ rfl (by assumption), ?_⟩
        refine ⟨told_sub (by with_reducible assumption), ?_⟩
        refine ⟨by first | exact ixm_map (by kernel_rfl) (by assumption) | exact ixm0 (by kernel_rfl) (by assumption), ?_⟩
        refine ⟨ldm_ints (by kernel_rfl) (by kernel_rfl) (by assumption), ?_⟩
        refine ⟨by first | exact ixm_map (by kernel_rfl) (by assumption) | exact ixm0 (by kernel_rfl) (by assumption), ?_⟩
        refine ⟨ldm_ints (by kernel_rfl) (by kernel_rfl) (by assumption), ?_⟩
        refine ⟨told_mul (by with_reducible assumption), ?_⟩
        refine ⟨told_sub (by with_reducible assumption), ?_⟩
        refine ⟨by first | exact ixm_map (by kernel_rfl) (by assumption) | exact ixm0 (by kernel_rfl) (by assumption), ?_⟩
        refine ⟨ldm_ints (by kernel_rfl) (by kernel_rfl) (by assumption), ?_⟩
        refine ⟨by first | exact ixm_map (by kernel_rfl) (by assumption) | exact ixm0 (by kernel_rfl) (by assumption), ?_⟩
        refine ⟨ldm_ints (by kernel_rfl) (by kernel_rfl) (by assumption), ?_⟩
        refine ⟨told_mul (by with_reducible assumption), ?_⟩
        refine ⟨by first | with_reducible assumption | omega | assumption, ?_⟩
        refine ⟨by first | with_reducible assumption | omega | assumption, ?_⟩
        refine ⟨by first | exact ixm_map (by kernel_rfl) (by assumption) | exact ixm0 (by kernel_rfl) (by assumption), ?_⟩
        refine ⟨ldm_ints (by kernel_rfl) (by kernel_rfl) (by assumption), ?_⟩
        refine ⟨by first | exact ixm_map (by kernel_rfl) (by assumption) | exact ixm0 (by kernel_rfl) (by assumption), ?_⟩
        refine ⟨ldm_ints (by kernel_rfl) (by kernel_rfl) (by assumption), ?_⟩
        refine ⟨by first | with_reducible assumption | omega | assumption, ?_⟩
        rfl
    · have k2 : R.getD (i * wdt n m + (n + m)) i0 * R.getD (j * wdt n m + e) i0 ≠ R.getD (j * wdt n m + (n + m)) i0 * R.getD (i * wdt n m + e) i0 := k2
      have hd : decide (tg n m R B e i j) = false := by rw [decide_eq_false_iff_not, ht]; omega
      rw [hd]
      refine body_s ([Ans.o (Orc.val 15 (AV.msl 1 (i * wdt n m) (wdt n m) (wdt n m) (1 : Nat)) (hG n m R B s)), Ans.o (Orc.val 18 (AV.msl 1 (j * wdt n m) (wdt n m) (wdt n m) (1 : Nat)) (hG n m R B s)), Ans.o (Orc.val 24 (I (↑(n + m) : Int)) H.nil), Ans.o (Orc.val 25 (AV.ptr 1 (i * wdt n m + (n + m))) H.nil), Ans.o (Orc.val 26 (I (R.getD (i * wdt n m + (n + m)) i0)) H.nil), Ans.o (Orc.val 29 (AV.ptr 1 (j * wdt n m + e)) H.nil), Ans.o (Orc.val 30 (I (R.getD (j * wdt n m + e) i0)) H.nil), Ans.o (Orc.val 31 (I (R.getD (i * wdt n m + (n + m)) i0 * R.getD (j * wdt n m + e) i0)) H.nil), Ans.o (Orc.val 37 (I (↑(n + m) : Int)) H.nil), Ans.o (Orc.val 38 (AV.ptr 1 (j * wdt n m + (n + m))) H.nil), Ans.o (Orc.val 39 (I (R.getD (j * wdt n m + (n + m)) i0)) H.nil), Ans.o (Orc.val 42 (AV.ptr 1 (i * wdt n m + e)) H.nil), Ans.o (Orc.val 43 (I (R.getD (i * wdt n m + e) i0)) H.nil), Ans.o (Orc.val 44 (I (R.getD (j * wdt n m + (n + m)) i0 * R.getD (i * wdt n m + e) i0)) H.nil), Ans.o (Orc.b false), Ans.o (Orc.b false)]) (aCall (Sof [g89 n m hn]) (AV.fn (Fn.func 89) [] []) [AV.ptr 2 0, I (↑i : Int)] (hG n m R B s) = some (AV.msl 1 (i * wdt n m) (wdt n m) (wdt n m) (1 : Nat), H.mk [[I 0, I 0], ints R, [AV.msl 1 0 ((m + (1 : Nat)) * wdt n m) ((m + (1 : Nat)) * wdt n m) (1 : Nat), I (↑(wdt n m) : Int), AV.msl 3 0 m (9223372036854775808 : Nat) (1 : Nat), I s], ints B] [] []) ∧ aCall (Sof [g89 n m hn]) (AV.fn (Fn.func 89) [] []) [AV.ptr 2 0, I (↑j : Int)] (hG n m R B s) = some (AV.msl 1 (j * wdt n m) (wdt n m) (wdt n m) (1 : Nat), H.mk [[I 0, I 0], ints R, [AV.msl 1 0 ((m + (1 : Nat)) * wdt n m) ((m + (1 : Nat)) * wdt n m) (1 : Nat), I (↑(wdt n m) : Int), AV.msl 3 0 m (9223372036854775808 : Nat) (1 : Nat), I s], ints B] [] []) ∧ aBin Tryd.prog BinOp.sub (3 : Nat) (I (↑(wdt n m) : Int)) (I 1) = some (I (↑(n + m) : Int)) ∧ aIndexAddr Tryd.prog 22 (AV.msl 1 (i * wdt n m) (wdt n m) (wdt n m) (1 : Nat)) (I (↑(n + m) : Int)) = some (AV.ptr 1 (i * wdt n m + (n + m))) ∧ aLoad Tryd.prog 3 (List.drop (i * wdt n m + (n + m)) (ints R)) = some (I (R.getD (i * wdt n m + (n + m)) i0)) ∧ aIndexAddr Tryd.prog 22 (AV.msl 1 (j * wdt n m) (wdt n m) (wdt n m) (1 : Nat)) (I (↑e : Int)) = some (AV.ptr 1 (j * wdt n m + e)) ∧ aLoad Tryd.prog 3 (List.drop (j * wdt n m + e) (ints R)) = some (I (R.getD (j * wdt n m + e) i0)) ∧ aBin Tryd.prog BinOp.mul (3 : Nat) (I (R.getD (i * wdt n m + (n + m)) i0)) (I (R.getD (j * wdt n m + e) i0)) = some (I (R.getD (i * wdt n m + (n + m)) i0 * R.getD (j * wdt n m + e) i0)) ∧ aBin Tryd.prog BinOp.sub (3 : Nat) (I (↑(wdt n m) : Int)) (I 1) = some (I (↑(n + m) : Int)) ∧ aIndexAddr Tryd.prog 22 (AV.msl 1 (j * wdt n m) (wdt n m) (wdt n m) (1 : Nat)) (I (↑(n + m) : Int)) = some (AV.ptr 1 (j * wdt n m + (n + m))) ∧ aLoad Tryd.prog 3 (List.drop (j * wdt n m + (n + m)) (ints R)) = some (I (R.getD (j * wdt n m + (n + m)) i0)) ∧ aIndexAddr Tryd.prog 22 (AV.msl 1 (i * wdt n m) (wdt n m) (wdt n m) (1 : Nat)) (I (↑e : Int)) = some (AV.ptr 1 (i * wdt n m + e)) ∧ aLoad Tryd.prog 3 (List.drop (i * wdt n m + e) (ints R)) = some (I (R.getD (i * wdt n m + e) i0)) ∧ aBin Tryd.prog BinOp.mul (3 : Nat) (I (R.getD (j * wdt n m + (n + m)) i0)) (I (R.getD (i * wdt n m + e) i0)) = some (I (R.getD (j * wdt n m + (n + m)) i0 * R.getD (i * wdt n m + e) i0)) ∧ R.getD (j * wdt n m + (n + m)) i0 * R.getD (i * wdt n m + e) i0 ≤ R.getD (i * wdt n m + (n + m)) i0 * R.getD (j * wdt n m + e) i0 ∧ R.getD (i * wdt n m + (n + m)) i0 * R.getD (j * wdt n m + e) i0 ≠ R.getD (j * wdt n m + (n + m)) i0 * R.getD (i * wdt n m + e) i0 ∧ (AV.bool false, H.mk [[I 0, I 0], ints R, [AV.msl 1 0 ((m + (1 : Nat)) * wdt n m) ((m + (1 : Nat)) * wdt n m) (1 : Nat), I (↑(wdt n m) : Int), AV.msl 3 0 m (9223372036854775808 : Nat) (1 : Nat), I s], ints B] [] []) = (AV.bool false, H.mk [[I 0, I 0], ints R, [AV.msl 1 0 ((m + (1 : Nat)) * wdt n m) ((m + (1 : Nat)) * wdt n m) (1 : Nat), I (↑(wdt n m) : Int), AV.msl 3 0 m (9223372036854775808 : Nat) (1 : Nat), I s], ints B] [] [])) (by kernel_rfl) ?_
      refine ⟨acall_hit (c := g89 n m hn) _ _ rfl (by assumption), ?_⟩
      refine ⟨acall_hit (c := g89 n m hn) _ _ rfl (by assumption), ?_⟩
      refine ⟨told_sub (by with_reducible assumption), ?_⟩
      refine ⟨ixm_map (by kernel_rfl) (by assumption), ?_⟩
      refine ⟨ldm_ints (by kernel_rfl) (by kernel_rfl) (by assumption), ?_⟩
      refine ⟨ixm_map (by kernel_rfl) (by assumption), ?_⟩
      refine ⟨ldm_ints (by kernel_rfl) (by kernel_rfl) (by assumption), ?_⟩
      refine ⟨told_mul (by with_reducible assumption), ?_⟩
      refine ⟨told_sub (by with_reducible assumption), ?_⟩
      refine ⟨ixm_map (by kernel_rfl) (by assumption), ?_⟩
      refine ⟨ldm_ints (by kernel_rfl) (by kernel_rfl) (by assumption), ?_⟩
      refine ⟨ixm_map (by kernel_rfl) (by assumption), ?_⟩
      refine ⟨ldm_ints (by kernel_rfl) (by kernel_rfl) (by assumption), ?_⟩
      refine ⟨told_mul (by with_reducible assumption), ?_⟩
      refine ⟨by first | with_reducible assumption | omega | assumption, ?_⟩
      refine ⟨by first | with_reducible assumption | omega | assumption, ?_⟩
      rfl
noncomputable def c107 (n m : Nat) (R B : List Int) (s : Int) (hn : nm n m) (h : Eqs n m R B) (e : Nat) (he : e < n + m) : Ctr Tryd.prog where
  f := 107
  X := Nat × Nat
  args x := [.ptr 2 0, I (x.1 : Nat), I (x.2 : Nat), I (e : Nat)]
  pre x H := H = hG n m R B s ∧ x.1 < m ∧ x.2 < m
  res x H := (.bool (decide (tg n m R B e x.1 x.2)), H)
  det := by
    rintro ⟨i, j⟩ ⟨i', j'⟩ H q _ _
    simp at q
    obtain ⟨q1, q2⟩ := q
    have q1 : i = i' := by omega
    have q2 : j = j' := by omega
    rw [q1, q2]
  ok := by
    rintro ⟨i, j⟩ H ⟨rfl, hi, hj⟩
    exact ⟨ok107.call, (r107 n m R B s hn h i j e hi hj he).run ok107 (.rd _ (c89_reads ..) .nil) rfl⟩
abbrev M107 : FuncId → Bool := (· == 107)
theorem ok88 : FokM Tryd.prog M107 88 Tryd.f88 := ⟨mixed, by kernel_rfl, by kernel_rfl, by kernel_rfl, by kernel_rfl⟩
theorem simp88 : allSimpleM M107 (loopAt Tryd.f88 0) = true := by kernel_rfl
theorem ct88 (n m : Nat) (R B : List Int) (s : Int) (hn : nm n m) (h : Eqs n m R B) (e : Nat) (he : e < n + m) : Ctrs Tryd.prog M107 [g89 n m hn, c107 n m R B s hn h e he] := .rd _ (c89_reads ..) (.eff _ rfl .nil)
def lvO (o : Option Nat) : Int := match o with
  | some l => (l : Int)
  | none => -1
abbrev o88 (n m : Nat) (R B : List Int) (s : Int) (e : Nat) : List Out := [.mk Unit (.exit 0) [5] (fun _ => True) (fun _ => [I (lvO (lv n m R B e m))]) (fun _ => hG n m R B s) (fun _ => [])]
theorem lp88 (n m : Nat) (R B : List Int) (s : Int) (hn : nm n m) (h : Eqs n m R B) (e : Nat) (he : e < n + m) :
    LoopS (E4 [g89 n m hn, c107 n m R B s hn h e he]) (loopAt Tryd.f88 0) 36 [0, 1, 5, 11, 12] [.ptr 2 0, I (e : Nat), I (-1), I (m : Nat), I 0] (hG n m R B s) (o88 n m R B s e) := by
  have hR : Rests (E4 [g89 n m hn, c107 n m R B s hn h e he]) M107 := rests mixed (ct88 n m R B s hn h e he)
  refine loop_s hR simp88 none (by intro _ h; cases h) (fun j vs H => H = hG n m R B s ∧ vs = [.ptr 2 0, I (e : Nat), I (lvO (lv n m R B e j)), I (m : Nat), I (j : Nat)] ∧ j ≤ m) m ⟨rfl, rfl, Nat.zero_le _⟩ (by intro _ h; cases h) ?_
  rintro j vs H hj ⟨rfl, rfl, hle⟩
  by_cases hz : (j : Int) < (m : Int)
  · have hz' : j < m := by omega
    have hi1 := hsG n m j R B s (by omega)
    have ev0 := w_suc (i := j) (by obtain ⟨_, _, _⟩ := hn; omega)
    have l1 := wd_ix h (i := j) (c := e) (by omega) (by omega)
    have x2 : e < wdt n m := by simp only [wdt]; omega
    have hsp := lv_spec (n := n) (m := m) (R := R) (B := B) (e := e) j
    cases hl : lv n m R B e j with
    | none =>
      have hl0 : lvO none = -1 := rfl
      rw [hl0]
      by_cases k1 : (0 : Int) < R.getD (j * wdt n m + e) i0
      · have hs : lvO (lv n m R B e (j + 1)) = (j : Int) := by simp only [lv, hl]; rw [if_pos (by exact k1)]; rfl
        refine ⟨[Ans.o (Orc.b true), Ans.o (Orc.val 17 (AV.msl 1 (j * wdt n m) (wdt n m) (wdt n m) (1 : Nat)) (hG n m R B s)), Ans.o (Orc.val 19 (AV.ptr 1 (j * wdt n m + e)) H.nil), Ans.o (Orc.val 20 (I (R.getD (j * wdt n m + e) i0)) H.nil), Ans.o (Orc.b true), Ans.o Orc.dflt, Ans.o (Orc.val 34 (I (↑(j + (1 : Nat)) : Int)) H.nil)], fun u => of_eq ((↑j : Int) < (↑m : Int) ∧ aCall (Sof [g89 n m hn, c107 n m R B s hn h e he]) (AV.fn (Fn.func 89) [] []) [AV.ptr 2 0, I (↑j : Int)] (hG n m R B s) = some (AV.msl 1 (j * wdt n m) (wdt n m) (wdt n m) (1 : Nat), H.mk [[I 0, I 0], ints R, [AV.msl 1 0 ((m + (1 : Nat)) * wdt n m) ((m + (1 : Nat)) * wdt n m) (1 : Nat), I (↑(wdt n m) : Int), AV.msl 3 0 m (9223372036854775808 : Nat) (1 : Nat), I s], ints B] [] []) ∧ aIndexAddr Tryd.prog 22 (AV.msl 1 (j * wdt n m) (wdt n m) (wdt n m) (1 : Nat)) (I (↑e : Int)) = some (AV.ptr 1 (j * wdt n m + e)) ∧ aLoad Tryd.prog 3 (List.drop (j * wdt n m + e) (ints R)) = some (I (R.getD (j * wdt n m + e) i0)) ∧ (0 : Int) < R.getD (j * wdt n m + e) i0 ∧ aBin Tryd.prog BinOp.add (3 : Nat) (I (↑j : Int)) (I 1) = some (I (↑(j + (1 : Nat)) : Int)) ∧ (36 : Nat) = (36 : Nat) ∧ j < m ∧ Keep (H.mk [[I 0, I 0], ints R, [AV.msl 1 0 ((m + (1 : Nat)) * wdt n m) ((m + (1 : Nat)) * wdt n m) (1 : Nat), I (↑(wdt n m) : Int), AV.msl 3 0 m (9223372036854775808 : Nat) (1 : Nat), I s], ints B] [] [] = H.mk [[I 0, I 0], ints R, [AV.msl 1 0 ((m + (1 : Nat)) * wdt n m) ((m + (1 : Nat)) * wdt n m) (1 : Nat), I (↑(wdt n m) : Int), AV.msl 3 0 m (9223372036854775808 : Nat) (1 : Nat), I s], ints B] [] [] ∧ [AV.ptr 2 0, I (↑e : Int), I (↑j : Int), I (↑m : Int), I (↑(j + (1 : Nat)) : Int)] = [AV.ptr 2 0, I (↑e : Int), I (lvO (lv n m R B e (j + (1 : Nat)))), I (↑m : Int), I (↑(j + (1 : Nat)) : Int)] ∧ j + (1 : Nat) ≤ m)) (by kernel_rfl) ?_⟩
        refine ⟨by first | with_reducible assumption | omega | assumption, ?_⟩
        refine ⟨acall_hit (c := g89 n m hn) (j : Nat) _ rfl hi1, ?_⟩
        refine ⟨ixm_map (by kernel_rfl) x2, ?_⟩
        refine ⟨ldm_ints (by kernel_rfl) (by kernel_rfl) l1, ?_⟩
        refine ⟨by first | with_reducible assumption | omega | assumption, ?_⟩
        refine ⟨told_add (by with_reducible assumption), ?_⟩
        refine ⟨by first | with_reducible assumption | omega | assumption, ?_⟩
        refine ⟨by first | with_reducible assumption | omega | assumption, ?_⟩
        exact ⟨rfl, by rw [hs], by omega⟩
      · have k1 : R.getD (j * wdt n m + e) i0 ≤ 0 := by omega
        have hs : lvO (lv n m R B e (j + 1)) = -1 := by simp only [lv, hl]; rw [if_neg (by simp only [cel, gt]; omega)]; rfl
        refine ⟨[Ans.o (Orc.b true), Ans.o (Orc.val 17 (AV.msl 1 (j * wdt n m) (wdt n m) (wdt n m) (1 : Nat)) (hG n m R B s)), Ans.o (Orc.val 19 (AV.ptr 1 (j * wdt n m + e)) H.nil), Ans.o (Orc.val 20 (I (R.getD (j * wdt n m + e) i0)) H.nil), Ans.o (Orc.b false), Ans.o (Orc.val 34 (I (↑(j + (1 : Nat)) : Int)) H.nil)], fun u => of_eq ((↑j : Int) < (↑m : Int) ∧ aCall (Sof [g89 n m hn, c107 n m R B s hn h e he]) (AV.fn (Fn.func 89) [] []) [AV.ptr 2 0, I (↑j : Int)] (hG n m R B s) = some (AV.msl 1 (j * wdt n m) (wdt n m) (wdt n m) (1 : Nat), H.mk [[I 0, I 0], ints R, [AV.msl 1 0 ((m + (1 : Nat)) * wdt n m) ((m + (1 : Nat)) * wdt n m) (1 : Nat), I (↑(wdt n m) : Int), AV.msl 3 0 m (9223372036854775808 : Nat) (1 : Nat), I s], ints B] [] []) ∧ aIndexAddr Tryd.prog 22 (AV.msl 1 (j * wdt n m) (wdt n m) (wdt n m) (1 : Nat)) (I (↑e : Int)) = some (AV.ptr 1 (j * wdt n m + e)) ∧ aLoad Tryd.prog 3 (List.drop (j * wdt n m + e) (ints R)) = some (I (R.getD (j * wdt n m + e) i0)) ∧ R.getD (j * wdt n m + e) i0 ≤ (0 : Int) ∧ aBin Tryd.prog BinOp.add (3 : Nat) (I (↑j : Int)) (I 1) = some (I (↑(j + (1 : Nat)) : Int)) ∧ (36 : Nat) = (36 : Nat) ∧ j < m ∧ Keep (H.mk [[I 0, I 0], ints R, [AV.msl 1 0 ((m + (1 : Nat)) * wdt n m) ((m + (1 : Nat)) * wdt n m) (1 : Nat), I (↑(wdt n m) : Int), AV.msl 3 0 m (9223372036854775808 : Nat) (1 : Nat), I s], ints B] [] [] = H.mk [[I 0, I 0], ints R, [AV.msl 1 0 ((m + (1 : Nat)) * wdt n m) ((m + (1 : Nat)) * wdt n m) (1 : Nat), I (↑(wdt n m) : Int), AV.msl 3 0 m (9223372036854775808 : Nat) (1 : Nat), I s], ints B] [] [] ∧ [AV.ptr 2 0, I (↑e : Int), I (-1 : Int), I (↑m : Int), I (↑(j + (1 : Nat)) : Int)] = [AV.ptr 2 0, I (↑e : Int), I (lvO (lv n m R B e (j + (1 : Nat)))), I (↑m : Int), I (↑(j + (1 : Nat)) : Int)] ∧ j + (1 : Nat) ≤ m)) (by kernel_rfl) ?_⟩
        refine ⟨by first | with_reducible assumption | omega | assumption, ?_⟩
        refine ⟨acall_hit (c := g89 n m hn) (j : Nat) _ rfl hi1, ?_⟩
        refine ⟨ixm_map (by kernel_rfl) x2, ?_⟩
        refine ⟨ldm_ints (by kernel_rfl) (by kernel_rfl) l1, ?_⟩
        refine ⟨by first | with_reducible assumption | omega | assumption, ?_⟩
        refine ⟨told_add (by with_reducible assumption), ?_⟩
        refine ⟨by first | with_reducible assumption | omega | assumption, ?_⟩
        refine ⟨by first | with_reducible assumption | omega | assumption, ?_⟩
        exact ⟨rfl, by rw [hs], by omega⟩
    | some l =>
      obtain ⟨hlt, _, _⟩ := hsp.2 l hl
      have hl0 : lvO (some l) = (l : Int) := rfl
      rw [hl0]
      have k0 : (0 : Int) ≤ (l : Int) := by omega
      by_cases k1 : (0 : Int) < R.getD (j * wdt n m + e) i0
      · have hp107 : hG n m R B s = hG n m R B s ∧ j < m ∧ l < m := ⟨rfl, hz', by omega⟩
        by_cases k2 : tg n m R B e j l
        · have hd : decide (tg n m R B e j l) = true := decide_eq_true k2
          have hs : lvO (lv n m R B e (j + 1)) = (j : Int) := by simp only [lv, hl]; rw [if_pos ⟨by exact k1, k2⟩]; rfl
          refine ⟨[Ans.o (Orc.b true), Ans.o (Orc.val 17 (AV.msl 1 (j * wdt n m) (wdt n m) (wdt n m) (1 : Nat)) (hG n m R B s)), Ans.o (Orc.val 19 (AV.ptr 1 (j * wdt n m + e)) H.nil), Ans.o (Orc.val 20 (I (R.getD (j * wdt n m + e) i0)) H.nil), Ans.o (Orc.b true), Ans.o Orc.dflt, Ans.o (Orc.val 30 (AV.bool true) (hG n m R B s)), Ans.o (Orc.val 34 (I (↑(j + (1 : Nat)) : Int)) H.nil)], fun u => of_eq ((↑j : Int) < (↑m : Int) ∧ aCall (Sof [g89 n m hn, c107 n m R B s hn h e he]) (AV.fn (Fn.func 89) [] []) [AV.ptr 2 0, I (↑j : Int)] (hG n m R B s) = some (AV.msl 1 (j * wdt n m) (wdt n m) (wdt n m) (1 : Nat), H.mk [[I 0, I 0], ints R, [AV.msl 1 0 ((m + (1 : Nat)) * wdt n m) ((m + (1 : Nat)) * wdt n m) (1 : Nat), I (↑(wdt n m) : Int), AV.msl 3 0 m (9223372036854775808 : Nat) (1 : Nat), I s], ints B] [] []) ∧ aIndexAddr Tryd.prog 22 (AV.msl 1 (j * wdt n m) (wdt n m) (wdt n m) (1 : Nat)) (I (↑e : Int)) = some (AV.ptr 1 (j * wdt n m + e)) ∧ aLoad Tryd.prog 3 (List.drop (j * wdt n m + e) (ints R)) = some (I (R.getD (j * wdt n m + e) i0)) ∧ (0 : Int) < R.getD (j * wdt n m + e) i0 ∧ aCall (Sof [g89 n m hn, c107 n m R B s hn h e he]) (AV.fn (Fn.func 107) [] []) [AV.ptr 2 0, I (↑j : Int), I (↑l : Int), I (↑e : Int)] (hG n m R B s) = some (AV.bool true, H.mk [[I 0, I 0], ints R, [AV.msl 1 0 ((m + (1 : Nat)) * wdt n m) ((m + (1 : Nat)) * wdt n m) (1 : Nat), I (↑(wdt n m) : Int), AV.msl 3 0 m (9223372036854775808 : Nat) (1 : Nat), I s], ints B] [] []) ∧ aBin Tryd.prog BinOp.add (3 : Nat) (I (↑j : Int)) (I 1) = some (I (↑(j + (1 : Nat)) : Int)) ∧ (36 : Nat) = (36 : Nat) ∧ j < m ∧ Keep (H.mk [[I 0, I 0], ints R, [AV.msl 1 0 ((m + (1 : Nat)) * wdt n m) ((m + (1 : Nat)) * wdt n m) (1 : Nat), I (↑(wdt n m) : Int), AV.msl 3 0 m (9223372036854775808 : Nat) (1 : Nat), I s], ints B] [] [] = H.mk [[I 0, I 0], ints R, [AV.msl 1 0 ((m + (1 : Nat)) * wdt n m) ((m + (1 : Nat)) * wdt n m) (1 : Nat), I (↑(wdt n m) : Int), AV.msl 3 0 m (9223372036854775808 : Nat) (1 : Nat), I s], ints B] [] [] ∧ [AV.ptr 2 0, I (↑e : Int), I (↑j : Int), I (↑m : Int), I (↑(j + (1 : Nat)) : Int)] = [AV.ptr 2 0, I (↑e : Int), I (lvO (lv n m R B e (j + (1 : Nat)))), I (↑m : Int), I (↑(j + (1 : Nat)) : Int)] ∧ j + (1 : Nat) ≤ m)) (by kernel_rfl) ?_⟩
          refine ⟨by first | with_reducible assumption | omega | assumption, ?_⟩
          refine ⟨acall_hit (c := g89 n m hn) (j : Nat) _ rfl hi1, ?_⟩
          refine ⟨ixm_map (by kernel_rfl) x2, ?_⟩
          refine ⟨ldm_ints (by kernel_rfl) (by kernel_rfl) l1, ?_⟩
          refine ⟨by first | with_reducible assumption | omega | assumption, ?_⟩
          refine ⟨acall_b (acall_hit (c := c107 n m R B s hn h e he) ((j : Nat), (l : Nat)) _ rfl hp107) hd, ?_⟩
          refine ⟨told_add (by with_reducible assumption), ?_⟩
          refine ⟨by first | with_reducible assumption | omega | assumption, ?_⟩
          refine ⟨by first | with_reducible assumption | omega | assumption, ?_⟩
          exact ⟨rfl, by rw [hs], by omega⟩
        · have hd : decide (tg n m R B e j l) = false := decide_eq_false k2
          have hs : lvO (lv n m R B e (j + 1)) = (l : Int) := by simp only [lv, hl]; rw [if_neg (fun q => k2 q.2)]; rfl
          refine ⟨[Ans.o (Orc.b true), Ans.o (Orc.val 17 (AV.msl 1 (j * wdt n m) (wdt n m) (wdt n m) (1 : Nat)) (hG n m R B s)), Ans.o (Orc.val 19 (AV.ptr 1 (j * wdt n m + e)) H.nil), Ans.o (Orc.val 20 (I (R.getD (j * wdt n m + e) i0)) H.nil), Ans.o (Orc.b true), Ans.o Orc.dflt, Ans.o (Orc.val 30 (AV.bool false) (hG n m R B s)), Ans.o (Orc.val 34 (I (↑(j + (1 : Nat)) : Int)) H.nil)], fun u => of_eq ((↑j : Int) < (↑m : Int) ∧ aCall (Sof [g89 n m hn, c107 n m R B s hn h e he]) (AV.fn (Fn.func 89) [] []) [AV.ptr 2 0, I (↑j : Int)] (hG n m R B s) = some (AV.msl 1 (j * wdt n m) (wdt n m) (wdt n m) (1 : Nat), H.mk [[I 0, I 0], ints R, [AV.msl 1 0 ((m + (1 : Nat)) * wdt n m) ((m + (1 : Nat)) * wdt n m) (1 : Nat), I (↑(wdt n m) : Int), AV.msl 3 0 m (9223372036854775808 : Nat) (1 : Nat), I s], ints B] [] []) ∧ aIndexAddr Tryd.prog 22 (AV.msl 1 (j * wdt n m) (wdt n m) (wdt n m) (1 : Nat)) (I (↑e : Int)) = some (AV.ptr 1 (j * wdt n m + e)) ∧ aLoad Tryd.prog 3 (List.drop (j * wdt n m + e) (ints R)) = some (I (R.getD (j * wdt n m + e) i0)) ∧ (0 : Int) < R.getD (j * wdt n m + e) i0 ∧ aCall (Sof [g89 n m hn, c107 n m R B s hn h e he]) (AV.fn (Fn.func 107) [] []) [AV.ptr 2 0, I (↑j : Int), I (↑l : Int), I (↑e : Int)] (hG n m R B s) = some (AV.bool false, H.mk [[I 0, I 0], ints R, [AV.msl 1 0 ((m + (1 : Nat)) * wdt n m) ((m + (1 : Nat)) * wdt n m) (1 : Nat), I (↑(wdt n m) : Int), AV.msl 3 0 m (9223372036854775808 : Nat) (1 : Nat), I s], ints B] [] []) ∧ aBin Tryd.prog BinOp.add (3 : Nat) (I (↑j : Int)) (I 1) = some (I (↑(j + (1 : Nat)) : Int)) ∧ (36 : Nat) = (36 : Nat) ∧ j < m ∧ Keep (H.mk [[I 0, I 0], ints R, [AV.msl 1 0 ((m + (1 : Nat)) * wdt n m) ((m + (1 : Nat)) * wdt n m) (1 : Nat), I (↑(wdt n m) : Int), AV.msl 3 0 m (9223372036854775808 : Nat) (1 : Nat), I s], ints B] [] [] = H.mk [[I 0, I 0], ints R, [AV.msl 1 0 ((m + (1 : Nat)) * wdt n m) ((m + (1 : Nat)) * wdt n m) (1 : Nat), I (↑(wdt n m) : Int), AV.msl 3 0 m (9223372036854775808 : Nat) (1 : Nat), I s], ints B] [] [] ∧ [AV.ptr 2 0, I (↑e : Int), I (↑l : Int), I (↑m : Int), I (↑(j + (1 : Nat)) : Int)] = [AV.ptr 2 0, I (↑e : Int), I (lvO (lv n m R B e (j + (1 : Nat)))), I (↑m : Int), I (↑(j + (1 : Nat)) : Int)] ∧ j + (1 : Nat) ≤ m)) (by kernel_rfl) ?_⟩
          refine ⟨by first | with_reducible assumption | omega | assumption, ?_⟩
          refine ⟨acall_hit (c := g89 n m hn) (j : Nat) _ rfl hi1, ?_⟩
          refine ⟨ixm_map (by kernel_rfl) x2, ?_⟩
          refine ⟨ldm_ints (by kernel_rfl) (by kernel_rfl) l1, ?_⟩
          refine ⟨by first | with_reducible assumption | omega | assumption, ?_⟩
          refine ⟨acall_b (acall_hit (c := c107 n m R B s hn h e he) ((j : Nat), (l : Nat)) _ rfl hp107) hd, ?_⟩
          refine ⟨told_add (by with_reducible assumption), ?_⟩
          refine ⟨by first | with_reducible assumption | omega | assumption, ?_⟩
          refine ⟨by first | with_reducible assumption | omega | assumption, ?_⟩
          exact ⟨rfl, by rw [hs], by omega⟩
      · have k1 : R.getD (j * wdt n m + e) i0 ≤ 0 := by omega
        have hs : lvO (lv n m R B e (j + 1)) = (l : Int) := by simp only [lv, hl]; rw [if_neg (fun q => absurd q.1 (Int.not_lt.2 k1))]; rfl
        refine ⟨[Ans.o (Orc.b true), Ans.o (Orc.val 17 (AV.msl 1 (j * wdt n m) (wdt n m) (wdt n m) (1 : Nat)) (hG n m R B s)), Ans.o (Orc.val 19 (AV.ptr 1 (j * wdt n m + e)) H.nil), Ans.o (Orc.val 20 (I (R.getD (j * wdt n m + e) i0)) H.nil), Ans.o (Orc.b false), Ans.o (Orc.val 34 (I (↑(j + (1 : Nat)) : Int)) H.nil)], fun u => of_eq ((↑j : Int) < (↑m : Int) ∧ aCall (Sof [g89 n m hn, c107 n m R B s hn h e he]) (AV.fn (Fn.func 89) [] []) [AV.ptr 2 0, I (↑j : Int)] (hG n m R B s) = some (AV.msl 1 (j * wdt n m) (wdt n m) (wdt n m) (1 : Nat), H.mk [[I 0, I 0], ints R, [AV.msl 1 0 ((m + (1 : Nat)) * wdt n m) ((m + (1 : Nat)) * wdt n m) (1 : Nat), I (↑(wdt n m) : Int), AV.msl 3 0 m (9223372036854775808 : Nat) (1 : Nat), I s], ints B] [] []) ∧ aIndexAddr Tryd.prog 22 (AV.msl 1 (j * wdt n m) (wdt n m) (wdt n m) (1 : Nat)) (I (↑e : Int)) = some (AV.ptr 1 (j * wdt n m + e)) ∧ aLoad Tryd.prog 3 (List.drop (j * wdt n m + e) (ints R)) = some (I (R.getD (j * wdt n m + e) i0)) ∧ R.getD (j * wdt n m + e) i0 ≤ (0 : Int) ∧ aBin Tryd.prog BinOp.add (3 : Nat) (I (↑j : Int)) (I 1) = some (I (↑(j + (1 : Nat)) : Int)) ∧ (36 : Nat) = (36 : Nat) ∧ j < m ∧ Keep (H.mk [[I 0, I 0], ints R, [AV.msl 1 0 ((m + (1 : Nat)) * wdt n m) ((m + (1 : Nat)) * wdt n m) (1 : Nat), I (↑(wdt n m) : Int), AV.msl 3 0 m (9223372036854775808 : Nat) (1 : Nat), I s], ints B] [] [] = H.mk [[I 0, I 0], ints R, [AV.msl 1 0 ((m + (1 : Nat)) * wdt n m) ((m + (1 : Nat)) * wdt n m) (1 : Nat), I (↑(wdt n m) : Int), AV.msl 3 0 m (9223372036854775808 : Nat) (1 : Nat), I s], ints B] [] [] ∧ [AV.ptr 2 0, I (↑e : Int), I (↑l : Int), I (↑m : Int), I (↑(j + (1 : Nat)) : Int)] = [AV.ptr 2 0, I (↑e : Int), I (lvO (lv n m R B e (j + (1 : Nat)))), I (↑m : Int), I (↑(j + (1 : Nat)) : Int)] ∧ j + (1 : Nat) ≤ m)) (by kernel_rfl) ?_⟩
        refine ⟨by first | with_reducible assumption | omega | assumption, ?_⟩
        refine ⟨acall_hit (c := g89 n m hn) (j : Nat) _ rfl hi1, ?_⟩
        refine ⟨ixm_map (by kernel_rfl) x2, ?_⟩
        refine ⟨ldm_ints (by kernel_rfl) (by kernel_rfl) l1, ?_⟩
        refine ⟨by first | with_reducible assumption | omega | assumption, ?_⟩
        refine ⟨told_add (by with_reducible assumption), ?_⟩
        refine ⟨by first | with_reducible assumption | omega | assumption, ?_⟩
        refine ⟨by first | with_reducible assumption | omega | assumption, ?_⟩
        exact ⟨rfl, by rw [hs], by omega⟩
  · have hz : (m : Int) ≤ j := by omega
    have e' : j = m := by omega
    subst e'
    refine ⟨[Ans.o (Orc.b false)], fun u => of_eq ((↑j : Int) ≤ (↑j : Int) ∧ (36 : Nat) = (36 : Nat) ∧ hits [Out.mk Unit (AX.exit 0) [5] (fun x => True) (fun x => [I (lvO (lv n j R B e j))]) (fun x => hG n j R B s) fun x => []] (AX.exit 0) [AV.ptr 2 0, I (↑e : Int), u (2 : Nat), u (3 : Nat), u (4 : Nat), I (lvO (lv n j R B e j)), u (6 : Nat), u (7 : Nat), u (8 : Nat), u (9 : Nat), u (10 : Nat), I (↑j : Int), I (↑j : Int), AV.bool false, u (14 : Nat), u (15 : Nat), u (16 : Nat), u (17 : Nat), u (18 : Nat), u (19 : Nat), u (20 : Nat), u (21 : Nat), u (22 : Nat), u (23 : Nat), u (24 : Nat), u (25 : Nat), u (26 : Nat), u (27 : Nat), u (28 : Nat), u (29 : Nat), u (30 : Nat), u (31 : Nat), u (32 : Nat), u (33 : Nat), u (34 : Nat), u (35 : Nat)] (H.mk [[I 0, I 0], ints R, [AV.msl 1 0 ((j + (1 : Nat)) * wdt n j) ((j + (1 : Nat)) * wdt n j) (1 : Nat), I (↑(wdt n j) : Int), AV.msl 3 0 j (9223372036854775808 : Nat) (1 : Nat), I s], ints B] [] [])) (by kernel_rfl) ?_⟩
    refine ⟨by first | with_reducible assumption | omega | assumption, ?_⟩
    refine ⟨by first | with_reducible assumption | omega | assumption, ?_⟩
    exact .inl ⟨(), trivial, rfl, rfl, rfl⟩
theorem r88 (n m : Nat) (R B : List Int) (s : Int) (hn : nm n m) (h : Eqs n m R B) (e : Nat) (he : e < n + m) : Body (E4 [g89 n m hn, c107 n m R B s hn h e he]) M107 Tryd.f88 [.ptr 2 0, I (e : Nat)] (hG n m R B s) (I (lvO (lv n m R B e m)), hG n m R B s) := by
  have lp := lp88 n m R B s hn h e he
  refine body_s ([Ans.loop [0, 1, 5, 11, 12] [Out.mk Unit (AX.exit 0) [5] (fun x => True) (fun x => [I (lvO (lv n m R B e m))]) (fun x => hG n m R B s) fun y => []]]) (LoopS (Env.mk Tryd.prog (Sof [g89 n m hn, c107 n m R B s hn h e he]) (Pof (P := Tryd.prog) []) (Base.mk (4 : Nat) (0 : Nat) (0 : Nat)) (300 : Nat)) (loopAt Tryd.f88 0) 36 [0, 1, 5, 11, 12] [AV.ptr 2 0, I (↑e : Int), I (-1 : Int), I (↑m : Int), I 0] (hG n m R B s) [Out.mk Unit (AX.exit 0) [5] (fun x => True) (fun x => [I (lvO (lv n m R B e m))]) (fun x => hG n m R B s) fun y => []] ∧ (∀ (y : Unit), True → ∀ (u : Nat → AV), (I (lvO (lv n m R B e m)), H.mk [[I 0, I 0], ints R, [AV.msl 1 0 ((m + (1 : Nat)) * wdt n m) ((m + (1 : Nat)) * wdt n m) (1 : Nat), I (↑(wdt n m) : Int), AV.msl 3 0 m (9223372036854775808 : Nat) (1 : Nat), I s], ints B] [] []) = (I (lvO (lv n m R B e m)), H.mk [[I 0, I 0], ints R, [AV.msl 1 0 ((m + (1 : Nat)) * wdt n m) ((m + (1 : Nat)) * wdt n m) (1 : Nat), I (↑(wdt n m) : Int), AV.msl 3 0 m (9223372036854775808 : Nat) (1 : Nat), I s], ints B] [] [])) ∧ True) (by kernel_rfl) ?_
  refine ⟨lp, ?_⟩
  refine And.intro ?_ ?_
  · skip
    intro y
    intro w1
    intro u
    rfl
  · skip
    trivial
end Go.Proofs.Sur

