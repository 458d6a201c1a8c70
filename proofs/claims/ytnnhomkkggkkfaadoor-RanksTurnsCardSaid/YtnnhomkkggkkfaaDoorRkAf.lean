/- Layer 2: cycles, by the reference. -/
import Derived.Test.YtnnhomkkggkkfaaDoorRkAe
import Derived.KernelRfl
set_option linter.unusedSimpArgs false
set_option linter.unusedVariables false
set_option linter.unnecessarySimpa false
set_option maxHeartbeats 4000000
set_option maxRecDepth 100000
namespace Go.Proofs.Rnk
open Go Go.VM
open Go.Proofs.Sur (andn andn_bit andn_le i_wrap i_and i_or i_andn i_shl i_shr bit_01)

theorem rc3_len (t : List Int) (a b : Nat) (acc : List Tri) : ∀ c, (rc3 t a b acc c).length ≤ acc.length + c
  | 0 => Nat.le_refl _
  | c + 1 => by
    have := rc3_len t a b acc c
    simp only [rc3]; split
    · simp only [List.length_append, List.length_cons, List.length_nil]; omega
    · omega
theorem rc2_len (t : List Int) (a : Nat) (acc : List Tri) : ∀ b, (rc2 t a acc b).length ≤ acc.length + t.length * b
  | 0 => by simp [rc2]
  | b + 1 => by
    have := rc2_len t a acc b
    have h2 := rc3_len t a b (rc2 t a acc b) t.length
    simp only [rc2, Nat.mul_add, Nat.mul_one]; omega
theorem rc1_len {t : List Int} (h : Tn t) : ∀ a, (rc1 t a).length ≤ 64 * a
  | 0 => Nat.le_refl _
  | a + 1 => by
    have := rc1_len h a
    have h2 := rc2_len t a (rc1 t a) t.length
    have h8 := h.s.2
    have h3 : t.length * t.length ≤ 8 * 8 := Nat.mul_le_mul h8 h8
    simp only [rc1]; omega
abbrev tH (l : List Tri) : H := ⟨[], tkz l, []⟩
abbrev o44c (t : List Int) (r : Room) (a b : Nat) (l : List Tri) : List Out := [.mk Unit (.exit 4) [0, 3, 4, 8, 9, 13, 14] (fun _ => True) (fun _ => [ls t r, tl (rc3 t a b l t.length), I a, I t.length, I a, I t.length, I b]) (fun _ => tH (rc3 t a b l t.length)) (fun _ => [])]
theorem simp44c : allSimpleM none1 (loopAt Tryd.f44 2) = true := by kernel_rfl
theorem lp44c (t : List Int) (r : Room) (h : Tn t) (hr : rok t r) (hrb : r.bnd 0 = true) (a b : Nat) (hai : a < t.length) (hbi : b < t.length) (l : List Tri) (hl : l.length ≤ 1000) :
    LoopS (En6 []) (loopAt Tryd.f44 2) 71 [0, 3, 4, 5, 8, 9, 13, 14, 18, 19] [ls t r, tl l, I a, I b, I t.length, I a, I t.length, I b, I t.length, I 0] (tH l) (o44c t r a b l) := by
  have hR : Rests (En6 []) none1 := rests mixed .nil
  have h8 := h.s.2
  refine loop_s hR simp44c none (by intro _ h; cases h) (fun c vs h => h = tH (rc3 t a b l c) ∧ vs = [ls t r, tl (rc3 t a b l c), I a, I b, I t.length, I a, I t.length, I b, I t.length, I c]) t.length ⟨rfl, rfl⟩ (by intro _ h; cases h) ?_
  rintro c vs h' hj ⟨rfl, rfl⟩
  by_cases hz : (c : Int) < t.length
  · have hci : c < t.length := by omega
    have hri := rok_idx hr hci
    have ev0 := wj1 (j := c) (by omega)
    have hll := rc3_len t a b l c
    by_cases d1 : (a : Int) < b
    · by_cases d2 : (a : Int) < c
      · cases d3 : bt t a b
        · obtain ⟨ev1, ev2⟩ := i_bit0 (h.s8 a) (show b ≤ 64 by omega) d3
          have hk : rc3 t a b l (c + 1) = rc3 t a b l c := by simp only [rc3]; rw [if_neg (fun q => by have := q.2.1; rw [d3] at this; cases this)]
          refine ⟨[Ans.o (Orc.b true), Ans.o (Orc.b true), Ans.o (Orc.b true), Ans.o (Orc.val 33 (AV.cptr (ints (List.drop a t))) H.nil), Ans.o (Orc.val 34 (I (t.getD a i0)) H.nil), Ans.o (Orc.val 36 (I (↑((ia t a).toNat >>> b) : Int)) H.nil), Ans.o (Orc.val 37 (I 0) H.nil), Ans.o Orc.dflt, Ans.o (Orc.val 67 (I (↑(c + (1 : Nat)) : Int)) H.nil)], fun u => of_eq ((↑c : Int) < (↑t.length : Int) ∧ (↑a : Int) < (↑b : Int) ∧ (↑a : Int) < (↑c : Int) ∧ aIndexAddr Tryd.prog (22 : Nat) (AV.sl (ints t) t.length r) (I (↑a : Int)) = some (AV.cptr (ints (List.drop a t))) ∧ aLoad Tryd.prog (3 : Nat) (ints (List.drop a t)) = some (I (t.getD a i0)) ∧ aBin Tryd.prog BinOp.shr (3 : Nat) (I (t.getD a i0)) (I (↑b : Int)) = some (I (↑((ia t a).toNat >>> b) : Int)) ∧ aBin Tryd.prog BinOp.and (3 : Nat) (I (↑((ia t a).toNat >>> b) : Int)) (I 1) = some (I 0) ∧ aBin Tryd.prog BinOp.add (3 : Nat) (I (↑c : Int)) (I 1) = some (I (↑(c + (1 : Nat)) : Int)) ∧ (71 : Nat) = (71 : Nat) ∧ c < t.length ∧ Keep (H.mk [] (tkz (rc3 t a b l c)) [] = H.mk [] (tkz (rc3 t a b l (c + (1 : Nat)))) [] ∧ [AV.sl (ints t) t.length r, AV.sl (trisA (rc3 t a b l c)) (rc3 t a b l c).length (rmz (3 : Nat) (rc3 t a b l c)), I (↑a : Int), I (↑b : Int), I (↑t.length : Int), I (↑a : Int), I (↑t.length : Int), I (↑b : Int), I (↑t.length : Int), I (↑(c + (1 : Nat)) : Int)] = [AV.sl (ints t) t.length r, AV.sl (trisA (rc3 t a b l (c + (1 : Nat)))) (rc3 t a b l (c + (1 : Nat))).length (rmz (3 : Nat) (rc3 t a b l (c + (1 : Nat)))), I (↑a : Int), I (↑b : Int), I (↑t.length : Int), I (↑a : Int), I (↑t.length : Int), I (↑b : Int), I (↑t.length : Int), I (↑(c + (1 : Nat)) : Int)])) (by kernel_rfl) ?_⟩
          refine ⟨by first | with_reducible assumption | omega | assumption, ?_⟩
          refine ⟨by first | with_reducible assumption | omega | assumption, ?_⟩
          refine ⟨by first | with_reducible assumption | omega | assumption, ?_⟩
          refine ⟨by first | exact ix_ints (by kernel_rfl) hai hri | exact ix_ints (by kernel_rfl) hbi hri | exact ix_ints (by kernel_rfl) hci hri, ?_⟩
          refine ⟨by first | exact ld_ints (by kernel_rfl) (by kernel_rfl) hai | exact ld_ints (by kernel_rfl) (by kernel_rfl) hbi | exact ld_ints (by kernel_rfl) (by kernel_rfl) hci, ?_⟩
          refine ⟨by first | exact told_shr (by first | exact Int.natCast_nonneg _ | omega) (by with_reducible assumption) | exact told_shr (by omega) rfl, ?_⟩
          refine ⟨told_and (by with_reducible assumption), ?_⟩
          refine ⟨told_add (by with_reducible assumption), ?_⟩
          refine ⟨by first | with_reducible assumption | omega | assumption, ?_⟩
          refine ⟨by first | with_reducible assumption | omega | assumption, ?_⟩
          (rw [hk]; exact ⟨rfl, rfl⟩)
        · obtain ⟨ev1, ev2⟩ := i_bit1 (h.s8 a) (show b ≤ 64 by omega) d3
          cases d4 : bt t b c
          · obtain ⟨ev3, ev4⟩ := i_bit0 (h.s8 b) (show c ≤ 64 by omega) d4
            have hk : rc3 t a b l (c + 1) = rc3 t a b l c := by simp only [rc3]; rw [if_neg (fun q => by have := q.2.2.1; rw [d4] at this; cases this)]
            refine ⟨[Ans.o (Orc.b true), Ans.o (Orc.b true), Ans.o (Orc.b true), Ans.o (Orc.val 33 (AV.cptr (ints (List.drop a t))) H.nil), Ans.o (Orc.val 34 (I (t.getD a i0)) H.nil), Ans.o (Orc.val 36 (I (↑((ia t a).toNat >>> b) : Int)) H.nil), Ans.o (Orc.val 37 (I 1) H.nil), Ans.o Orc.dflt, Ans.o (Orc.val 43 (AV.cptr (ints (List.drop b t))) H.nil), Ans.o (Orc.val 44 (I (t.getD b i0)) H.nil), Ans.o (Orc.val 46 (I (↑((ia t b).toNat >>> c) : Int)) H.nil), Ans.o (Orc.val 47 (I 0) H.nil), Ans.o Orc.dflt, Ans.o (Orc.val 67 (I (↑(c + (1 : Nat)) : Int)) H.nil)], fun u => of_eq ((↑c : Int) < (↑t.length : Int) ∧ (↑a : Int) < (↑b : Int) ∧ (↑a : Int) < (↑c : Int) ∧ aIndexAddr Tryd.prog (22 : Nat) (AV.sl (ints t) t.length r) (I (↑a : Int)) = some (AV.cptr (ints (List.drop a t))) ∧ aLoad Tryd.prog (3 : Nat) (ints (List.drop a t)) = some (I (t.getD a i0)) ∧ aBin Tryd.prog BinOp.shr (3 : Nat) (I (t.getD a i0)) (I (↑b : Int)) = some (I (↑((ia t a).toNat >>> b) : Int)) ∧ aBin Tryd.prog BinOp.and (3 : Nat) (I (↑((ia t a).toNat >>> b) : Int)) (I 1) = some (I 1) ∧ aIndexAddr Tryd.prog (22 : Nat) (AV.sl (ints t) t.length r) (I (↑b : Int)) = some (AV.cptr (ints (List.drop b t))) ∧ aLoad Tryd.prog (3 : Nat) (ints (List.drop b t)) = some (I (t.getD b i0)) ∧ aBin Tryd.prog BinOp.shr (3 : Nat) (I (t.getD b i0)) (I (↑c : Int)) = some (I (↑((ia t b).toNat >>> c) : Int)) ∧ aBin Tryd.prog BinOp.and (3 : Nat) (I (↑((ia t b).toNat >>> c) : Int)) (I 1) = some (I 0) ∧ aBin Tryd.prog BinOp.add (3 : Nat) (I (↑c : Int)) (I 1) = some (I (↑(c + (1 : Nat)) : Int)) ∧ (71 : Nat) = (71 : Nat) ∧ c < t.length ∧ Keep (H.mk [] (tkz (rc3 t a b l c)) [] = H.mk [] (tkz (rc3 t a b l (c + (1 : Nat)))) [] ∧ [AV.sl (ints t) t.length r, AV.sl (trisA (rc3 t a b l c)) (rc3 t a b l c).length (rmz (3 : Nat) (rc3 t a b l c)), I (↑a : Int), I (↑b : Int), I (↑t.length : Int), I (↑a : Int), I (↑t.length : Int), I (↑b : Int), I (↑t.length : Int), I (↑(c + (1 : Nat)) : Int)] = [AV.sl (ints t) t.length r, AV.sl (trisA (rc3 t a b l (c + (1 : Nat)))) (rc3 t a b l (c + (1 : Nat))).length (rmz (3 : Nat) (rc3 t a b l (c + (1 : Nat)))), I (↑a : Int), I (↑b : Int), I (↑t.length : Int), I (↑a : Int), I (↑t.length : Int), I (↑b : Int), I (↑t.length : Int), I (↑(c + (1 : Nat)) : Int)])) (by kernel_rfl) ?_⟩
            refine ⟨by first | with_reducible assumption | omega | assumption, ?_⟩
            refine ⟨by first | with_reducible assumption | omega | assumption, ?_⟩
            refine ⟨by first | with_reducible assumption | omega | assumption, ?_⟩
            refine ⟨by first | exact ix_ints (by kernel_rfl) hai hri | exact ix_ints (by kernel_rfl) hbi hri | exact ix_ints (by kernel_rfl) hci hri, ?_⟩
            refine ⟨by first | exact ld_ints (by kernel_rfl) (by kernel_rfl) hai | exact ld_ints (by kernel_rfl) (by kernel_rfl) hbi | exact ld_ints (by kernel_rfl) (by kernel_rfl) hci, ?_⟩
            refine ⟨by first | exact told_shr (by first | exact Int.natCast_nonneg _ | omega) (by with_reducible assumption) | exact told_shr (by omega) rfl, ?_⟩
            refine ⟨told_and (by with_reducible assumption), ?_⟩
            refine ⟨by first | exact ix_ints (by kernel_rfl) hai hri | exact ix_ints (by kernel_rfl) hbi hri | exact ix_ints (by kernel_rfl) hci hri, ?_⟩
            refine ⟨by first | exact ld_ints (by kernel_rfl) (by kernel_rfl) hai | exact ld_ints (by kernel_rfl) (by kernel_rfl) hbi | exact ld_ints (by kernel_rfl) (by kernel_rfl) hci, ?_⟩
            refine ⟨by first | exact told_shr (by first | exact Int.natCast_nonneg _ | omega) (by with_reducible assumption) | exact told_shr (by omega) rfl, ?_⟩
            refine ⟨told_and (by with_reducible assumption), ?_⟩
            refine ⟨told_add (by with_reducible assumption), ?_⟩
            refine ⟨by first | with_reducible assumption | omega | assumption, ?_⟩
            refine ⟨by first | with_reducible assumption | omega | assumption, ?_⟩
            (rw [hk]; exact ⟨rfl, rfl⟩)
          · obtain ⟨ev3, ev4⟩ := i_bit1 (h.s8 b) (show c ≤ 64 by omega) d4
            cases d5 : bt t c a
            · obtain ⟨ev5, ev6⟩ := i_bit0 (h.s8 c) (show a ≤ 64 by omega) d5
              have hk : rc3 t a b l (c + 1) = rc3 t a b l c := by simp only [rc3]; rw [if_neg (fun q => by have := q.2.2.2; rw [d5] at this; cases this)]
              refine ⟨[Ans.o (Orc.b true), Ans.o (Orc.b true), Ans.o (Orc.b true), Ans.o (Orc.val 33 (AV.cptr (ints (List.drop a t))) H.nil), Ans.o (Orc.val 34 (I (t.getD a i0)) H.nil), Ans.o (Orc.val 36 (I (↑((ia t a).toNat >>> b) : Int)) H.nil), Ans.o (Orc.val 37 (I 1) H.nil), Ans.o Orc.dflt, Ans.o (Orc.val 43 (AV.cptr (ints (List.drop b t))) H.nil), Ans.o (Orc.val 44 (I (t.getD b i0)) H.nil), Ans.o (Orc.val 46 (I (↑((ia t b).toNat >>> c) : Int)) H.nil), Ans.o (Orc.val 47 (I 1) H.nil), Ans.o Orc.dflt, Ans.o (Orc.val 53 (AV.cptr (ints (List.drop c t))) H.nil), Ans.o (Orc.val 54 (I (t.getD c i0)) H.nil), Ans.o (Orc.val 56 (I (↑((ia t c).toNat >>> a) : Int)) H.nil), Ans.o (Orc.val 57 (I 0) H.nil), Ans.o Orc.dflt, Ans.o (Orc.val 67 (I (↑(c + (1 : Nat)) : Int)) H.nil)], fun u => of_eq ((↑c : Int) < (↑t.length : Int) ∧ (↑a : Int) < (↑b : Int) ∧ (↑a : Int) < (↑c : Int) ∧ aIndexAddr Tryd.prog (22 : Nat) (AV.sl (ints t) t.length r) (I (↑a : Int)) = some (AV.cptr (ints (List.drop a t))) ∧ aLoad Tryd.prog (3 : Nat) (ints (List.drop a t)) = some (I (t.getD a i0)) ∧ aBin Tryd.prog BinOp.shr (3 : Nat) (I (t.getD a i0)) (I (↑b : Int)) = some (I (↑((ia t a).toNat >>> b) : Int)) ∧ aBin Tryd.prog BinOp.and (3 : Nat) (I (↑((ia t a).toNat >>> b) : Int)) (I 1) = some (I 1) ∧ aIndexAddr Tryd.prog (22 : Nat) (AV.sl (ints t) t.length r) (I (↑b : Int)) = some (AV.cptr (ints (List.drop b t))) ∧ aLoad Tryd.prog (3 : Nat) (ints (List.drop b t)) = some (I (t.getD b i0)) ∧ aBin Tryd.prog BinOp.shr (3 : Nat) (I (t.getD b i0)) (I (↑c : Int)) = some (I (↑((ia t b).toNat >>> c) : Int)) ∧ aBin Tryd.prog BinOp.and (3 : Nat) (I (↑((ia t b).toNat >>> c) : Int)) (I 1) = some (I 1) ∧ aIndexAddr Tryd.prog (22 : Nat) (AV.sl (ints t) t.length r) (I (↑c : Int)) = some (AV.cptr (ints (List.drop c t))) ∧ aLoad Tryd.prog (3 : Nat) (ints (List.drop c t)) = some (I (t.getD c i0)) ∧ aBin Tryd.prog BinOp.shr (3 : Nat) (I (t.getD c i0)) (I (↑a : Int)) = some (I (↑((ia t c).toNat >>> a) : Int)) ∧ aBin Tryd.prog BinOp.and (3 : Nat) (I (↑((ia t c).toNat >>> a) : Int)) (I 1) = some (I 0) ∧ aBin Tryd.prog BinOp.add (3 : Nat) (I (↑c : Int)) (I 1) = some (I (↑(c + (1 : Nat)) : Int)) ∧ (71 : Nat) = (71 : Nat) ∧ c < t.length ∧ Keep (H.mk [] (tkz (rc3 t a b l c)) [] = H.mk [] (tkz (rc3 t a b l (c + (1 : Nat)))) [] ∧ [AV.sl (ints t) t.length r, AV.sl (trisA (rc3 t a b l c)) (rc3 t a b l c).length (rmz (3 : Nat) (rc3 t a b l c)), I (↑a : Int), I (↑b : Int), I (↑t.length : Int), I (↑a : Int), I (↑t.length : Int), I (↑b : Int), I (↑t.length : Int), I (↑(c + (1 : Nat)) : Int)] = [AV.sl (ints t) t.length r, AV.sl (trisA (rc3 t a b l (c + (1 : Nat)))) (rc3 t a b l (c + (1 : Nat))).length (rmz (3 : Nat) (rc3 t a b l (c + (1 : Nat)))), I (↑a : Int), I (↑b : Int), I (↑t.length : Int), I (↑a : Int), I (↑t.length : Int), I (↑b : Int), I (↑t.length : Int), I (↑(c + (1 : Nat)) : Int)])) (by kernel_rfl) ?_⟩
              refine ⟨by first | with_reducible assumption | omega | assumption, ?_⟩
              refine ⟨by first | with_reducible assumption | omega | assumption, ?_⟩
              refine ⟨by first | with_reducible assumption | omega | assumption, ?_⟩
              refine ⟨by first | exact ix_ints (by kernel_rfl) hai hri | exact ix_ints (by kernel_rfl) hbi hri | exact ix_ints (by kernel_rfl) hci hri, ?_⟩
              refine ⟨by first | exact ld_ints (by kernel_rfl) (by kernel_rfl) hai | exact ld_ints (by kernel_rfl) (by kernel_rfl) hbi | exact ld_ints (by kernel_rfl) (by kernel_rfl) hci, ?_⟩
              refine ⟨by first | exact told_shr (by first | exact Int.natCast_nonneg _ | omega) (by with_reducible assumption) | exact told_shr (by omega) rfl, ?_⟩
              refine ⟨told_and (by with_reducible assumption), ?_⟩
              refine ⟨by first | exact ix_ints (by kernel_rfl) hai hri | exact ix_ints (by kernel_rfl) hbi hri | exact ix_ints (by kernel_rfl) hci hri, ?_⟩
              refine ⟨by first | exact ld_ints (by kernel_rfl) (by kernel_rfl) hai | exact ld_ints (by kernel_rfl) (by kernel_rfl) hbi | exact ld_ints (by kernel_rfl) (by kernel_rfl) hci, ?_⟩
              refine ⟨by first | exact told_shr (by first | exact Int.natCast_nonneg _ | omega) (by with_reducible assumption) | exact told_shr (by omega) rfl, ?_⟩
              refine ⟨told_and (by with_reducible assumption), ?_⟩
              refine ⟨by first | exact ix_ints (by kernel_rfl) hai hri | exact ix_ints (by kernel_rfl) hbi hri | exact ix_ints (by kernel_rfl) hci hri, ?_⟩
              refine ⟨by first | exact ld_ints (by kernel_rfl) (by kernel_rfl) hai | exact ld_ints (by kernel_rfl) (by kernel_rfl) hbi | exact ld_ints (by kernel_rfl) (by kernel_rfl) hci, ?_⟩
              refine ⟨by first | exact told_shr (by first | exact Int.natCast_nonneg _ | omega) (by with_reducible assumption) | exact told_shr (by omega) rfl, ?_⟩
              refine ⟨told_and (by with_reducible assumption), ?_⟩
              refine ⟨told_add (by with_reducible assumption), ?_⟩
              refine ⟨by first | with_reducible assumption | omega | assumption, ?_⟩
              refine ⟨by first | with_reducible assumption | omega | assumption, ?_⟩
              (rw [hk]; exact ⟨rfl, rfl⟩)
            · obtain ⟨ev5, ev6⟩ := i_bit1 (h.s8 c) (show a ≤ 64 by omega) d5
              have hk : rc3 t a b l (c + 1) = rc3 t a b l c ++ [tri a b c] := by simp only [rc3]; rw [if_pos ⟨⟨by omega, by omega⟩, d3, d4, d5⟩]
              have hap := app_tris (P := Tryd.prog) (t := 38) (by kernel_rfl) (l := rc3 t a b l c) (x := tri a b c) (bs := []) (by omega)
              rw [← hk] at hap
              refine ⟨[Ans.o (Orc.b true), Ans.o (Orc.b true), Ans.o (Orc.b true), Ans.o (Orc.val 33 (AV.cptr (ints (List.drop a t))) H.nil), Ans.o (Orc.val 34 (I (t.getD a i0)) H.nil), Ans.o (Orc.val 36 (I (↑((ia t a).toNat >>> b) : Int)) H.nil), Ans.o (Orc.val 37 (I 1) H.nil), Ans.o Orc.dflt, Ans.o (Orc.val 43 (AV.cptr (ints (List.drop b t))) H.nil), Ans.o (Orc.val 44 (I (t.getD b i0)) H.nil), Ans.o (Orc.val 46 (I (↑((ia t b).toNat >>> c) : Int)) H.nil), Ans.o (Orc.val 47 (I 1) H.nil), Ans.o Orc.dflt, Ans.o (Orc.val 53 (AV.cptr (ints (List.drop c t))) H.nil), Ans.o (Orc.val 54 (I (t.getD c i0)) H.nil), Ans.o (Orc.val 56 (I (↑((ia t c).toNat >>> a) : Int)) H.nil), Ans.o (Orc.val 57 (I 1) H.nil), Ans.o Orc.dflt, Ans.o (Orc.val 66 (AV.sl (trisA (rc3 t a b l (c + (1 : Nat)))) (rc3 t a b l (c + (1 : Nat))).length (rmz (3 : Nat) (rc3 t a b l (c + (1 : Nat))))) (H.mk [] (tkz (rc3 t a b l (c + (1 : Nat)))) [])), Ans.o (Orc.val 67 (I (↑(c + (1 : Nat)) : Int)) H.nil)], fun u => of_eq ((↑c : Int) < (↑t.length : Int) ∧ (↑a : Int) < (↑b : Int) ∧ (↑a : Int) < (↑c : Int) ∧ aIndexAddr Tryd.prog (22 : Nat) (AV.sl (ints t) t.length r) (I (↑a : Int)) = some (AV.cptr (ints (List.drop a t))) ∧ aLoad Tryd.prog (3 : Nat) (ints (List.drop a t)) = some (I (t.getD a i0)) ∧ aBin Tryd.prog BinOp.shr (3 : Nat) (I (t.getD a i0)) (I (↑b : Int)) = some (I (↑((ia t a).toNat >>> b) : Int)) ∧ aBin Tryd.prog BinOp.and (3 : Nat) (I (↑((ia t a).toNat >>> b) : Int)) (I 1) = some (I 1) ∧ aIndexAddr Tryd.prog (22 : Nat) (AV.sl (ints t) t.length r) (I (↑b : Int)) = some (AV.cptr (ints (List.drop b t))) ∧ aLoad Tryd.prog (3 : Nat) (ints (List.drop b t)) = some (I (t.getD b i0)) ∧ aBin Tryd.prog BinOp.shr (3 : Nat) (I (t.getD b i0)) (I (↑c : Int)) = some (I (↑((ia t b).toNat >>> c) : Int)) ∧ aBin Tryd.prog BinOp.and (3 : Nat) (I (↑((ia t b).toNat >>> c) : Int)) (I 1) = some (I 1) ∧ aIndexAddr Tryd.prog (22 : Nat) (AV.sl (ints t) t.length r) (I (↑c : Int)) = some (AV.cptr (ints (List.drop c t))) ∧ aLoad Tryd.prog (3 : Nat) (ints (List.drop c t)) = some (I (t.getD c i0)) ∧ aBin Tryd.prog BinOp.shr (3 : Nat) (I (t.getD c i0)) (I (↑a : Int)) = some (I (↑((ia t c).toNat >>> a) : Int)) ∧ aBin Tryd.prog BinOp.and (3 : Nat) (I (↑((ia t c).toNat >>> a) : Int)) (I 1) = some (I 1) ∧ aAppend Tryd.prog (38 : Nat) (38 : Nat) (AV.sl (trisA (rc3 t a b l c)) (rc3 t a b l c).length (rmz (3 : Nat) (rc3 t a b l c))) (AV.sl [I (↑a : Int), I (↑b : Int), I (↑c : Int)] (1 : Nat) Room.full) (H.mk [] (tkz (rc3 t a b l c)) []) = some (AV.sl (trisA (rc3 t a b l (c + (1 : Nat)))) (rc3 t a b l (c + (1 : Nat))).length (rmz (3 : Nat) (rc3 t a b l (c + (1 : Nat)))), H.mk [] (tkz (rc3 t a b l (c + (1 : Nat)))) []) ∧ aBin Tryd.prog BinOp.add (3 : Nat) (I (↑c : Int)) (I 1) = some (I (↑(c + (1 : Nat)) : Int)) ∧ (71 : Nat) = (71 : Nat) ∧ c < t.length ∧ Keep (H.mk [] (tkz (rc3 t a b l (c + (1 : Nat)))) [] = H.mk [] (tkz (rc3 t a b l (c + (1 : Nat)))) [] ∧ [AV.sl (ints t) t.length r, AV.sl (trisA (rc3 t a b l (c + (1 : Nat)))) (rc3 t a b l (c + (1 : Nat))).length (rmz (3 : Nat) (rc3 t a b l (c + (1 : Nat)))), I (↑a : Int), I (↑b : Int), I (↑t.length : Int), I (↑a : Int), I (↑t.length : Int), I (↑b : Int), I (↑t.length : Int), I (↑(c + (1 : Nat)) : Int)] = [AV.sl (ints t) t.length r, AV.sl (trisA (rc3 t a b l (c + (1 : Nat)))) (rc3 t a b l (c + (1 : Nat))).length (rmz (3 : Nat) (rc3 t a b l (c + (1 : Nat)))), I (↑a : Int), I (↑b : Int), I (↑t.length : Int), I (↑a : Int), I (↑t.length : Int), I (↑b : Int), I (↑t.length : Int), I (↑(c + (1 : Nat)) : Int)])) (by kernel_rfl) ?_⟩
              refine ⟨by first | with_reducible assumption | omega | assumption, ?_⟩
              refine ⟨by first | with_reducible assumption | omega | assumption, ?_⟩
              refine ⟨by first | with_reducible assumption | omega | assumption, ?_⟩
              refine ⟨by first | exact ix_ints (by kernel_rfl) hai hri | exact ix_ints (by kernel_rfl) hbi hri | exact ix_ints (by kernel_rfl) hci hri, ?_⟩
              refine ⟨by first | exact ld_ints (by kernel_rfl) (by kernel_rfl) hai | exact ld_ints (by kernel_rfl) (by kernel_rfl) hbi | exact ld_ints (by kernel_rfl) (by kernel_rfl) hci, ?_⟩
              refine ⟨by first | exact told_shr (by first | exact Int.natCast_nonneg _ | omega) (by with_reducible assumption) | exact told_shr (by omega) rfl, ?_⟩
              refine ⟨told_and (by with_reducible assumption), ?_⟩
              refine ⟨by first | exact ix_ints (by kernel_rfl) hai hri | exact ix_ints (by kernel_rfl) hbi hri | exact ix_ints (by kernel_rfl) hci hri, ?_⟩
              refine ⟨by first | exact ld_ints (by kernel_rfl) (by kernel_rfl) hai | exact ld_ints (by kernel_rfl) (by kernel_rfl) hbi | exact ld_ints (by kernel_rfl) (by kernel_rfl) hci, ?_⟩
              refine ⟨by first | exact told_shr (by first | exact Int.natCast_nonneg _ | omega) (by with_reducible assumption) | exact told_shr (by omega) rfl, ?_⟩
              refine ⟨told_and (by with_reducible assumption), ?_⟩
              refine ⟨by first | exact ix_ints (by kernel_rfl) hai hri | exact ix_ints (by kernel_rfl) hbi hri | exact ix_ints (by kernel_rfl) hci hri, ?_⟩
              refine ⟨by first | exact ld_ints (by kernel_rfl) (by kernel_rfl) hai | exact ld_ints (by kernel_rfl) (by kernel_rfl) hbi | exact ld_ints (by kernel_rfl) (by kernel_rfl) hci, ?_⟩
              refine ⟨by first | exact told_shr (by first | exact Int.natCast_nonneg _ | omega) (by with_reducible assumption) | exact told_shr (by omega) rfl, ?_⟩
              refine ⟨told_and (by with_reducible assumption), ?_⟩
              refine ⟨hap, ?_⟩
              refine ⟨told_add (by with_reducible assumption), ?_⟩
              refine ⟨by first | with_reducible assumption | omega | assumption, ?_⟩
              refine ⟨by first | with_reducible assumption | omega | assumption, ?_⟩
              exact ⟨rfl, rfl⟩
      · have d2 : (c : Int) ≤ a := by omega
        have hk : rc3 t a b l (c + 1) = rc3 t a b l c := by simp only [rc3]; rw [if_neg (fun q => by have := q.1.2; omega)]
        refine ⟨[Ans.o (Orc.b true), Ans.o (Orc.b true), Ans.o (Orc.b false), Ans.o (Orc.val 67 (I (↑(c + (1 : Nat)) : Int)) H.nil)], fun u => of_eq ((↑c : Int) < (↑t.length : Int) ∧ (↑a : Int) < (↑b : Int) ∧ (↑c : Int) ≤ (↑a : Int) ∧ aBin Tryd.prog BinOp.add (3 : Nat) (I (↑c : Int)) (I 1) = some (I (↑(c + (1 : Nat)) : Int)) ∧ (71 : Nat) = (71 : Nat) ∧ c < t.length ∧ Keep (H.mk [] (tkz (rc3 t a b l c)) [] = H.mk [] (tkz (rc3 t a b l (c + (1 : Nat)))) [] ∧ [AV.sl (ints t) t.length r, AV.sl (trisA (rc3 t a b l c)) (rc3 t a b l c).length (rmz (3 : Nat) (rc3 t a b l c)), I (↑a : Int), I (↑b : Int), I (↑t.length : Int), I (↑a : Int), I (↑t.length : Int), I (↑b : Int), I (↑t.length : Int), I (↑(c + (1 : Nat)) : Int)] = [AV.sl (ints t) t.length r, AV.sl (trisA (rc3 t a b l (c + (1 : Nat)))) (rc3 t a b l (c + (1 : Nat))).length (rmz (3 : Nat) (rc3 t a b l (c + (1 : Nat)))), I (↑a : Int), I (↑b : Int), I (↑t.length : Int), I (↑a : Int), I (↑t.length : Int), I (↑b : Int), I (↑t.length : Int), I (↑(c + (1 : Nat)) : Int)])) (by kernel_rfl) ?_⟩
        refine ⟨by first | with_reducible assumption | omega | assumption, ?_⟩
        refine ⟨by first | with_reducible assumption | omega | assumption, ?_⟩
        refine ⟨by first | with_reducible assumption | omega | assumption, ?_⟩
        refine ⟨told_add (by with_reducible assumption), ?_⟩
        refine ⟨by first | with_reducible assumption | omega | assumption, ?_⟩
        refine ⟨by first | with_reducible assumption | omega | assumption, ?_⟩
        (rw [hk]; exact ⟨rfl, rfl⟩)
    · have d1 : (b : Int) ≤ a := by omega
      have hk : rc3 t a b l (c + 1) = rc3 t a b l c := by simp only [rc3]; rw [if_neg (fun q => by have := q.1.1; omega)]
      refine ⟨[Ans.o (Orc.b true), Ans.o (Orc.b false), Ans.o (Orc.val 67 (I (↑(c + (1 : Nat)) : Int)) H.nil)], fun u => of_eq ((↑c : Int) < (↑t.length : Int) ∧ (↑b : Int) ≤ (↑a : Int) ∧ aBin Tryd.prog BinOp.add (3 : Nat) (I (↑c : Int)) (I 1) = some (I (↑(c + (1 : Nat)) : Int)) ∧ (71 : Nat) = (71 : Nat) ∧ c < t.length ∧ Keep (H.mk [] (tkz (rc3 t a b l c)) [] = H.mk [] (tkz (rc3 t a b l (c + (1 : Nat)))) [] ∧ [AV.sl (ints t) t.length r, AV.sl (trisA (rc3 t a b l c)) (rc3 t a b l c).length (rmz (3 : Nat) (rc3 t a b l c)), I (↑a : Int), I (↑b : Int), I (↑t.length : Int), I (↑a : Int), I (↑t.length : Int), I (↑b : Int), I (↑t.length : Int), I (↑(c + (1 : Nat)) : Int)] = [AV.sl (ints t) t.length r, AV.sl (trisA (rc3 t a b l (c + (1 : Nat)))) (rc3 t a b l (c + (1 : Nat))).length (rmz (3 : Nat) (rc3 t a b l (c + (1 : Nat)))), I (↑a : Int), I (↑b : Int), I (↑t.length : Int), I (↑a : Int), I (↑t.length : Int), I (↑b : Int), I (↑t.length : Int), I (↑(c + (1 : Nat)) : Int)])) (by kernel_rfl) ?_⟩
      refine ⟨by first | with_reducible assumption | omega | assumption, ?_⟩
      refine ⟨by first | with_reducible assumption | omega | assumption, ?_⟩
      refine ⟨told_add (by with_reducible assumption), ?_⟩
      refine ⟨by first | with_reducible assumption | omega | assumption, ?_⟩
      refine ⟨by first | with_reducible assumption | omega | assumption, ?_⟩
      (rw [hk]; exact ⟨rfl, rfl⟩)
  · have hz : (t.length : Int) ≤ c := by omega
    have e : c = t.length := by omega
    subst e
    refine ⟨[Ans.o (Orc.b false)], fun u => of_eq ((↑t.length : Int) ≤ (↑t.length : Int) ∧ (71 : Nat) = (71 : Nat) ∧ hits [Out.mk Unit (AX.exit (4 : Nat)) [(0 : Nat), (3 : Nat), (4 : Nat), (8 : Nat), (9 : Nat), (13 : Nat), (14 : Nat)] (fun x => True) (fun x => [ls t r, tl (rc3 t a b l t.length), I (↑a : Int), I (↑t.length : Int), I (↑a : Int), I (↑t.length : Int), I (↑b : Int)]) (fun x => tH (rc3 t a b l t.length)) fun x => []] (AX.exit (4 : Nat)) [AV.sl (ints t) t.length r, u (1 : Nat), u (2 : Nat), AV.sl (trisA (rc3 t a b l t.length)) (rc3 t a b l t.length).length (rmz (3 : Nat) (rc3 t a b l t.length)), I (↑a : Int), I (↑b : Int), u (6 : Nat), u (7 : Nat), I (↑t.length : Int), I (↑a : Int), u (10 : Nat), u (11 : Nat), u (12 : Nat), I (↑t.length : Int), I (↑b : Int), u (15 : Nat), u (16 : Nat), u (17 : Nat), I (↑t.length : Int), I (↑t.length : Int), AV.bool false, u (21 : Nat), u (22 : Nat), u (23 : Nat), u (24 : Nat), u (25 : Nat), u (26 : Nat), u (27 : Nat), u (28 : Nat), u (29 : Nat), u (30 : Nat), u (31 : Nat), u (32 : Nat), u (33 : Nat), u (34 : Nat), u (35 : Nat), u (36 : Nat), u (37 : Nat), u (38 : Nat), u (39 : Nat), u (40 : Nat), u (41 : Nat), u (42 : Nat), u (43 : Nat), u (44 : Nat), u (45 : Nat), u (46 : Nat), u (47 : Nat), u (48 : Nat), u (49 : Nat), u (50 : Nat), u (51 : Nat), u (52 : Nat), u (53 : Nat), u (54 : Nat), u (55 : Nat), u (56 : Nat), u (57 : Nat), u (58 : Nat), u (59 : Nat), u (60 : Nat), u (61 : Nat), u (62 : Nat), u (63 : Nat), u (64 : Nat), u (65 : Nat), u (66 : Nat), u (67 : Nat), u (68 : Nat), u (69 : Nat), u (70 : Nat)] (H.mk [] (tkz (rc3 t a b l t.length)) [])) (by kernel_rfl) ?_⟩
    refine ⟨by first | with_reducible assumption | omega | assumption, ?_⟩
    refine ⟨by first | with_reducible assumption | omega | assumption, ?_⟩
    exact .inl ⟨(), trivial, rfl, rfl, rfl⟩
abbrev o44b (t : List Int) (r : Room) (a : Nat) (l : List Tri) : List Out := [.mk Unit (.exit 2) [0, 3, 8, 9] (fun _ => True) (fun _ => [ls t r, tl (rc2 t a l t.length), I t.length, I a]) (fun _ => tH (rc2 t a l t.length)) (fun _ => [])]
theorem simp44b : allSimpleM none1 (loopAt Tryd.f44 1) = true := by kernel_rfl
theorem lp44b (t : List Int) (r : Room) (h : Tn t) (hr : rok t r) (hrb : r.bnd 0 = true) (a : Nat) (hai : a < t.length) (l : List Tri) (hl : l.length ≤ 512) :
    LoopS (En6 []) (loopAt Tryd.f44 1) 71 [0, 3, 4, 8, 9, 13, 14] [ls t r, tl l, I a, I t.length, I a, I t.length, I 0] (tH l) (o44b t r a l) := by
  have hR : Rests (En6 []) none1 := rests mixed .nil
  have h8 := h.s.2
  refine loop_s hR simp44b none (by intro _ h; cases h) (fun b vs h => h = tH (rc2 t a l b) ∧ vs = [ls t r, tl (rc2 t a l b), I a, I t.length, I a, I t.length, I b]) t.length ⟨rfl, rfl⟩ (by intro _ h; cases h) ?_
  rintro b vs h' hj ⟨rfl, rfl⟩
  by_cases hz : (b : Int) < t.length
  · have hbi : b < t.length := by omega
    have ev0 := wj1 (j := b) (by omega)
    have hll : (rc2 t a l b).length ≤ 1000 := by
      have := rc2_len t a l b
      have h3 : t.length * b ≤ 8 * 8 := Nat.mul_le_mul h8 (by omega)
      omega
    have lp := lp44c t r h hr hrb a b hai hbi (rc2 t a l b) hll
    refine ⟨[Ans.o (Orc.b true), Ans.loop [(0 : Nat), (3 : Nat), (4 : Nat), (5 : Nat), (8 : Nat), (9 : Nat), (13 : Nat), (14 : Nat), (18 : Nat), (19 : Nat)] [Out.mk Unit (AX.exit (4 : Nat)) [(0 : Nat), (3 : Nat), (4 : Nat), (8 : Nat), (9 : Nat), (13 : Nat), (14 : Nat)] (fun x => True) (fun x => [ls t r, tl (rc3 t a b (rc2 t a l b) t.length), I (↑a : Int), I (↑t.length : Int), I (↑a : Int), I (↑t.length : Int), I (↑b : Int)]) (fun x => tH (rc3 t a b (rc2 t a l b) t.length)) fun y => [Ans.o (Orc.val 68 (I (↑(b + (1 : Nat)) : Int)) H.nil)]]], fun u => of_eq ((↑b : Int) < (↑t.length : Int) ∧ LoopS (Env.mk Tryd.prog (Sof (P := Tryd.prog) []) (Pof (P := Tryd.prog) []) H.nil.base (300 : Nat)) (loopAt Tryd.f44 (2 : Nat)) (71 : Nat) [(0 : Nat), (3 : Nat), (4 : Nat), (5 : Nat), (8 : Nat), (9 : Nat), (13 : Nat), (14 : Nat), (18 : Nat), (19 : Nat)] [AV.sl (ints t) t.length r, AV.sl (trisA (rc2 t a l b)) (rc2 t a l b).length (rmz (3 : Nat) (rc2 t a l b)), I (↑a : Int), I (↑b : Int), I (↑t.length : Int), I (↑a : Int), I (↑t.length : Int), I (↑b : Int), I (↑t.length : Int), I 0] (H.mk [] (tkz (rc2 t a l b)) []) [Out.mk Unit (AX.exit (4 : Nat)) [(0 : Nat), (3 : Nat), (4 : Nat), (8 : Nat), (9 : Nat), (13 : Nat), (14 : Nat)] (fun x => True) (fun x => [ls t r, tl (rc3 t a b (rc2 t a l b) t.length), I (↑a : Int), I (↑t.length : Int), I (↑a : Int), I (↑t.length : Int), I (↑b : Int)]) (fun x => tH (rc3 t a b (rc2 t a l b) t.length)) fun y => [Ans.o (Orc.val 68 (I (↑(b + (1 : Nat)) : Int)) H.nil)]] ∧ (∀ (y : Unit), True → ∀ (u : Nat → AV), aBin Tryd.prog BinOp.add (3 : Nat) (I (↑b : Int)) (I 1) = some (I (↑(b + (1 : Nat)) : Int)) ∧ (71 : Nat) = (71 : Nat) ∧ b < t.length ∧ Keep (H.mk [] (tkz (rc3 t a b (rc2 t a l b) t.length)) [] = H.mk [] (tkz (rc2 t a l (b + (1 : Nat)))) [] ∧ [AV.sl (ints t) t.length r, AV.sl (trisA (rc3 t a b (rc2 t a l b) t.length)) (rc3 t a b (rc2 t a l b) t.length).length (rmz (3 : Nat) (rc3 t a b (rc2 t a l b) t.length)), I (↑a : Int), I (↑t.length : Int), I (↑a : Int), I (↑t.length : Int), I (↑(b + (1 : Nat)) : Int)] = [AV.sl (ints t) t.length r, AV.sl (trisA (rc2 t a l (b + (1 : Nat)))) (rc2 t a l (b + (1 : Nat))).length (rmz (3 : Nat) (rc2 t a l (b + (1 : Nat)))), I (↑a : Int), I (↑t.length : Int), I (↑a : Int), I (↑t.length : Int), I (↑(b + (1 : Nat)) : Int)])) ∧ True) (by kernel_rfl) ?_⟩
    refine ⟨by first | with_reducible assumption | omega | assumption, ?_⟩
    refine ⟨lp, ?_⟩
    refine And.intro ?_ ?_
    · skip
      intro y
      intro w1
      intro u
      refine ⟨told_add (by with_reducible assumption), ?_⟩
      refine ⟨by first | with_reducible assumption | omega | assumption, ?_⟩
      refine ⟨by first | with_reducible assumption | omega | assumption, ?_⟩
      exact ⟨rfl, rfl⟩
    · skip
      trivial
  · have hz : (t.length : Int) ≤ b := by omega
    have e : b = t.length := by omega
    subst e
    refine ⟨[Ans.o (Orc.b false)], fun u => of_eq ((↑t.length : Int) ≤ (↑t.length : Int) ∧ (71 : Nat) = (71 : Nat) ∧ hits [Out.mk Unit (AX.exit (2 : Nat)) [(0 : Nat), (3 : Nat), (8 : Nat), (9 : Nat)] (fun x => True) (fun x => [ls t r, tl (rc2 t a l t.length), I (↑t.length : Int), I (↑a : Int)]) (fun x => tH (rc2 t a l t.length)) fun x => []] (AX.exit (2 : Nat)) [AV.sl (ints t) t.length r, u (1 : Nat), u (2 : Nat), AV.sl (trisA (rc2 t a l t.length)) (rc2 t a l t.length).length (rmz (3 : Nat) (rc2 t a l t.length)), I (↑a : Int), u (5 : Nat), u (6 : Nat), u (7 : Nat), I (↑t.length : Int), I (↑a : Int), u (10 : Nat), u (11 : Nat), u (12 : Nat), I (↑t.length : Int), I (↑t.length : Int), AV.bool false, u (16 : Nat), u (17 : Nat), u (18 : Nat), u (19 : Nat), u (20 : Nat), u (21 : Nat), u (22 : Nat), u (23 : Nat), u (24 : Nat), u (25 : Nat), u (26 : Nat), u (27 : Nat), u (28 : Nat), u (29 : Nat), u (30 : Nat), u (31 : Nat), u (32 : Nat), u (33 : Nat), u (34 : Nat), u (35 : Nat), u (36 : Nat), u (37 : Nat), u (38 : Nat), u (39 : Nat), u (40 : Nat), u (41 : Nat), u (42 : Nat), u (43 : Nat), u (44 : Nat), u (45 : Nat), u (46 : Nat), u (47 : Nat), u (48 : Nat), u (49 : Nat), u (50 : Nat), u (51 : Nat), u (52 : Nat), u (53 : Nat), u (54 : Nat), u (55 : Nat), u (56 : Nat), u (57 : Nat), u (58 : Nat), u (59 : Nat), u (60 : Nat), u (61 : Nat), u (62 : Nat), u (63 : Nat), u (64 : Nat), u (65 : Nat), u (66 : Nat), u (67 : Nat), u (68 : Nat), u (69 : Nat), u (70 : Nat)] (H.mk [] (tkz (rc2 t a l t.length)) [])) (by kernel_rfl) ?_⟩
    refine ⟨by first | with_reducible assumption | omega | assumption, ?_⟩
    refine ⟨by first | with_reducible assumption | omega | assumption, ?_⟩
    exact .inl ⟨(), trivial, rfl, rfl, rfl⟩
abbrev o44a (t : List Int) : List Out := [.mk Unit (.exit 0) [3] (fun _ => True) (fun _ => [tl (rc1 t t.length)]) (fun _ => tH (rc1 t t.length)) (fun _ => [])]
theorem simp44a : allSimpleM none1 (loopAt Tryd.f44 0) = true := by kernel_rfl
theorem lp44a (t : List Int) (r : Room) (h : Tn t) (hr : rok t r) (hrb : r.bnd 0 = true) :
    LoopS (En6 []) (loopAt Tryd.f44 0) 71 [0, 3, 8, 9] [ls t r, .sl [] 0 .nil, I t.length, I 0] .nil (o44a t) := by
  have hR : Rests (En6 []) none1 := rests mixed .nil
  have h8 := h.s.2
  refine loop_s hR simp44a none (by intro _ h; cases h) (fun a vs h => h = tH (rc1 t a) ∧ vs = [ls t r, tl (rc1 t a), I t.length, I a]) t.length ⟨rfl, rfl⟩ (by intro _ h; cases h) ?_
  rintro a vs h' hj ⟨rfl, rfl⟩
  by_cases hz : (a : Int) < t.length
  · have hai : a < t.length := by omega
    have ev0 := wj1 (j := a) (by omega)
    have hll : (rc1 t a).length ≤ 512 := by have := rc1_len h a; omega
    have lp := lp44b t r h hr hrb a hai (rc1 t a) hll
    refine ⟨[Ans.o (Orc.b true), Ans.loop [(0 : Nat), (3 : Nat), (4 : Nat), (8 : Nat), (9 : Nat), (13 : Nat), (14 : Nat)] [Out.mk Unit (AX.exit (2 : Nat)) [(0 : Nat), (3 : Nat), (8 : Nat), (9 : Nat)] (fun x => True) (fun x => [ls t r, tl (rc2 t a (rc1 t a) t.length), I (↑t.length : Int), I (↑a : Int)]) (fun x => tH (rc2 t a (rc1 t a) t.length)) fun y => [Ans.o (Orc.val 69 (I (↑(a + (1 : Nat)) : Int)) H.nil)]]], fun u => of_eq ((↑a : Int) < (↑t.length : Int) ∧ LoopS (Env.mk Tryd.prog (Sof (P := Tryd.prog) []) (Pof (P := Tryd.prog) []) H.nil.base (300 : Nat)) (loopAt Tryd.f44 (1 : Nat)) (71 : Nat) [(0 : Nat), (3 : Nat), (4 : Nat), (8 : Nat), (9 : Nat), (13 : Nat), (14 : Nat)] [AV.sl (ints t) t.length r, AV.sl (trisA (rc1 t a)) (rc1 t a).length (rmz (3 : Nat) (rc1 t a)), I (↑a : Int), I (↑t.length : Int), I (↑a : Int), I (↑t.length : Int), I 0] (H.mk [] (tkz (rc1 t a)) []) [Out.mk Unit (AX.exit (2 : Nat)) [(0 : Nat), (3 : Nat), (8 : Nat), (9 : Nat)] (fun x => True) (fun x => [ls t r, tl (rc2 t a (rc1 t a) t.length), I (↑t.length : Int), I (↑a : Int)]) (fun x => tH (rc2 t a (rc1 t a) t.length)) fun y => [Ans.o (Orc.val 69 (I (↑(a + (1 : Nat)) : Int)) H.nil)]] ∧ (∀ (y : Unit), True → ∀ (u : Nat → AV), aBin Tryd.prog BinOp.add (3 : Nat) (I (↑a : Int)) (I 1) = some (I (↑(a + (1 : Nat)) : Int)) ∧ (71 : Nat) = (71 : Nat) ∧ a < t.length ∧ Keep (H.mk [] (tkz (rc2 t a (rc1 t a) t.length)) [] = H.mk [] (tkz (rc1 t (a + (1 : Nat)))) [] ∧ [AV.sl (ints t) t.length r, AV.sl (trisA (rc2 t a (rc1 t a) t.length)) (rc2 t a (rc1 t a) t.length).length (rmz (3 : Nat) (rc2 t a (rc1 t a) t.length)), I (↑t.length : Int), I (↑(a + (1 : Nat)) : Int)] = [AV.sl (ints t) t.length r, AV.sl (trisA (rc1 t (a + (1 : Nat)))) (rc1 t (a + (1 : Nat))).length (rmz (3 : Nat) (rc1 t (a + (1 : Nat)))), I (↑t.length : Int), I (↑(a + (1 : Nat)) : Int)])) ∧ True) (by kernel_rfl) ?_⟩
    refine ⟨by first | with_reducible assumption | omega | assumption, ?_⟩
    refine ⟨lp, ?_⟩
    refine And.intro ?_ ?_
    · skip
      intro y
      intro w1
      intro u
      refine ⟨told_add (by with_reducible assumption), ?_⟩
      refine ⟨by first | with_reducible assumption | omega | assumption, ?_⟩
      refine ⟨by first | with_reducible assumption | omega | assumption, ?_⟩
      exact ⟨rfl, rfl⟩
    · skip
      trivial
  · have hz : (t.length : Int) ≤ a := by omega
    have e : a = t.length := by omega
    subst e
    refine ⟨[Ans.o (Orc.b false)], fun u => of_eq ((↑t.length : Int) ≤ (↑t.length : Int) ∧ (71 : Nat) = (71 : Nat) ∧ hits [Out.mk Unit (AX.exit (0 : Nat)) [(3 : Nat)] (fun x => True) (fun x => [tl (rc1 t t.length)]) (fun x => tH (rc1 t t.length)) fun x => []] (AX.exit (0 : Nat)) [AV.sl (ints t) t.length r, u (1 : Nat), u (2 : Nat), AV.sl (trisA (rc1 t t.length)) (rc1 t t.length).length (rmz (3 : Nat) (rc1 t t.length)), u (4 : Nat), u (5 : Nat), u (6 : Nat), u (7 : Nat), I (↑t.length : Int), I (↑t.length : Int), AV.bool false, u (11 : Nat), u (12 : Nat), u (13 : Nat), u (14 : Nat), u (15 : Nat), u (16 : Nat), u (17 : Nat), u (18 : Nat), u (19 : Nat), u (20 : Nat), u (21 : Nat), u (22 : Nat), u (23 : Nat), u (24 : Nat), u (25 : Nat), u (26 : Nat), u (27 : Nat), u (28 : Nat), u (29 : Nat), u (30 : Nat), u (31 : Nat), u (32 : Nat), u (33 : Nat), u (34 : Nat), u (35 : Nat), u (36 : Nat), u (37 : Nat), u (38 : Nat), u (39 : Nat), u (40 : Nat), u (41 : Nat), u (42 : Nat), u (43 : Nat), u (44 : Nat), u (45 : Nat), u (46 : Nat), u (47 : Nat), u (48 : Nat), u (49 : Nat), u (50 : Nat), u (51 : Nat), u (52 : Nat), u (53 : Nat), u (54 : Nat), u (55 : Nat), u (56 : Nat), u (57 : Nat), u (58 : Nat), u (59 : Nat), u (60 : Nat), u (61 : Nat), u (62 : Nat), u (63 : Nat), u (64 : Nat), u (65 : Nat), u (66 : Nat), u (67 : Nat), u (68 : Nat), u (69 : Nat), u (70 : Nat)] (H.mk [] (tkz (rc1 t t.length)) [])) (by kernel_rfl) ?_⟩
    refine ⟨by first | with_reducible assumption | omega | assumption, ?_⟩
    refine ⟨by first | with_reducible assumption | omega | assumption, ?_⟩
    exact .inl ⟨(), trivial, rfl, rfl, rfl⟩
theorem ok44 : FokM Tryd.prog none1 44 Tryd.f44 := ⟨mixed, by kernel_rfl, by kernel_rfl, by kernel_rfl, by kernel_rfl⟩
theorem r44 (t : List Int) (r : Room) (h : Tn t) (hr : rok t r) (hrb : r.bnd 0 = true) : Body (En6 []) none1 Tryd.f44 [ls t r] .nil (tl (cyc t), ⟨[], tkz (cyc t), []⟩) := by
  have lp := lp44a t r h hr hrb
  have e := rc1_cc h t.length
  simp only [o44a, e] at lp
  refine body_s ([Ans.loop [(0 : Nat), (3 : Nat), (8 : Nat), (9 : Nat)] [Out.mk Unit (AX.exit (0 : Nat)) [(3 : Nat)] (fun x => True) (fun x => [tl (cyc t)]) (fun x => tH (cyc t)) fun y => []]]) (LoopS (Env.mk Tryd.prog (Sof (P := Tryd.prog) []) (Pof (P := Tryd.prog) []) H.nil.base (300 : Nat)) (loopAt Tryd.f44 (0 : Nat)) (71 : Nat) [(0 : Nat), (3 : Nat), (8 : Nat), (9 : Nat)] [AV.sl (ints t) t.length r, AV.sl [] (0 : Nat) Room.nil, I (↑t.length : Int), I 0] (H.mk [] [] []) [Out.mk Unit (AX.exit (0 : Nat)) [(3 : Nat)] (fun x => True) (fun x => [tl (cyc t)]) (fun x => tH (cyc t)) fun y => []] ∧ (∀ (y : Unit), True → ∀ (u : Nat → AV), leave (Base.mk H.nil.blk.length H.nil.toks.length H.nil.maps.length) (AV.sl (trisA (cyc t)) (cyc t).length (rmz (3 : Nat) (cyc t))) (H.mk [] (tkz (cyc t)) []) = (AV.sl (trisA (cyc t)) (cyc t).length (rmz (3 : Nat) (cyc t)), H.mk [] (tkz (cyc t)) [])) ∧ True) (by kernel_rfl) ?_
  refine ⟨lp, ?_⟩
  refine And.intro ?_ ?_
  · skip
    intro y
    intro w1
    intro u
    exact leave_tris _ _
  · skip
    trivial
/-- all cycles, by the reference -/
noncomputable def c44 : PCtr Tryd.prog := slctr ok44 (X := List Int × Room) (fun x => [ls x.1 x.2]) (fun x => Tn x.1 ∧ rok x.1 x.2) (fun x => .sl (trisA (cyc x.1)) (cyc x.1).length (rmz 3 (cyc x.1)).wk)
  (by rintro ⟨l, r⟩ ⟨m, s⟩ e _ _; simp at e; simp only [e.1]) (fun x => by simp [AV.bnds, AV.bnd, AV.wk, rm_wk_bnd]) (fun x => by simp [AV.bnd, rm_wk_bnd]) (fun x hx => ⟨_, _, _, tl (cyc x.1), tkz (cyc x.1), .nil, r44 x.1 x.2.wk hx.1 (by simpa using hx.2) (rm_wk_bnd _), triR.cells_plain _, by simp only [AV.wkd, trisA, triR.cells_wk]⟩)
end Go.Proofs.Rnk

