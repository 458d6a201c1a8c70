/- Layer 2: the most players without a cycle, by the reference. -/
import Derived.Test.YtnnhomkkggkkfaaDoorRkAf
import Derived.Test.YtnnhomkkggkkfaaDoorRkS
import Derived.Test.YtnnhomkkggkkfaaDoorRkI
import Derived.KernelRfl
set_option linter.unusedSimpArgs false
set_option linter.unusedVariables false
set_option linter.unnecessarySimpa false
set_option maxHeartbeats 4000000
set_option maxRecDepth 100000
namespace Go.Proofs.Rnk
open Go Go.VM
open Go.Proofs.Sur (andn andn_bit andn_le i_wrap i_and i_or i_andn i_shl i_shr bit_01)

/-- none of the first cycles is within a set -/
def fr (l : List Tri) (S : Nat) : Nat → Bool
  | 0 => true
  | j + 1 => fr l S j && !ins (l.getD j tri0) (S : Int)
theorem fr_iff {l : List Tri} {S : Nat} : ∀ j, fr l S j = true ↔ ∀ k, k < j → ins (l.getD k tri0) (S : Int) = false
  | 0 => by simp [fr]
  | j + 1 => by
    rw [fr, Bool.and_eq_true, fr_iff j, Bool.not_eq_true']
    constructor
    · rintro ⟨h1, h2⟩; exact all_succ h1 h2
    · intro h; exact ⟨fun k hk => h k (by omega), h j (by omega)⟩
theorem leastN {p : Nat → Prop} : ∀ n, p n → ∃ m, m ≤ n ∧ p m ∧ ∀ j, j < m → ¬ p j := by
  intro n
  induction n using Nat.strongRecOn with
  | _ n ih =>
    intro hn
    by_cases q : ∃ j, j < n ∧ p j
    · obtain ⟨j, hj, hp⟩ := q
      obtain ⟨m, h1, h2, h3⟩ := ih j hj hp
      exact ⟨m, by omega, h2, h3⟩
    · exact ⟨n, Nat.le_refl n, hn, fun j hj hp => q ⟨j, hj, hp⟩⟩
theorem fr_end (l : List Tri) (S : Nat) : fr l S l.length = !anyV l (S : Int) := by
  by_cases q : ∀ k, k < l.length → ins (l.getD k tri0) (S : Int) = false
  · rw [(fr_iff _).2 q, anyV, ixV_none q]; rfl
  · have hf : fr l S l.length = false := by
      cases c : fr l S l.length
      · rfl
      · exact absurd ((fr_iff _).1 c) q
    have : ∃ k, k < l.length ∧ ins (l.getD k tri0) (S : Int) = true := by
      apply Classical.byContradiction
      intro hn
      apply q
      intro k hk
      cases c : ins (l.getD k tri0) (S : Int)
      · rfl
      · exact absurd ⟨k, hk, c⟩ hn
    obtain ⟨k, hk⟩ := this
    obtain ⟨m, _, ⟨h1, h2⟩, h3⟩ := leastN (p := fun k => k < l.length ∧ ins (l.getD k tri0) (S : Int) = true) k hk
    rw [hf, anyV, ixV_some h1 h2 (fun i hi => by
      cases c : ins (l.getD i tri0) (S : Int)
      · rfl
      · exact absurd ⟨by omega, c⟩ (h3 i hi))]
    simp
abbrev o50b (t : List Int) (r : Room) (S : Nat) (M : Int) : List Out := [.mk Unit (.exit 2) [0, 3, 4, 5, 10, 11] (fun _ => True) (fun _ => [ls t r, I M, I S, .bool (fr (cyc t) S (cyc t).length), I (2 ^ t.length : Nat), I S]) (fun _ => .nil) (fun _ => [])]
theorem simp50b : allSimpleM none1 (loopAt Tryd.f50 1) = true := by kernel_rfl
theorem lp50b (t : List Int) (r : Room) (h : Tn t) (hr : rok t r) (hrb : r.bnd 0 = true) (S : Nat) (hS : S < 256) (M : Int) :
    LoopS (En6 [c44.to, c62.to]) (loopAt Tryd.f50 1) 54 [0, 3, 4, 5, 10, 11, 15, 16, 17] [ls t r, I M, I S, .bool (fr (cyc t) S 0), I (2 ^ t.length : Nat), I S, ct t, I (cyc t).length, I 0] .nil (o50b t r S M) := by
  have hR : Rests (En6 [c44.to, c62.to]) none1 := rests mixed (.pure _ (.pure _ .nil))
  have h8 := h.s.2
  have hcl8 := cyc_le t h8
  have hro := cyc_rok t
  have hal := cyc_al8 h
  refine loop_s hR simp50b (some 0) (by intro nb h; cases h; exact ⟨Nat.le_refl _, Nat.le_refl _⟩) (fun j vs h => h = .nil ∧ vs = [ls t r, I M, I S, .bool (fr (cyc t) S j), I (2 ^ t.length : Nat), I S, ct t, I (cyc t).length, I j]) (cyc t).length ⟨rfl, rfl⟩ (by intro nb h j vs h' hI; cases h; rw [hI.1]; exact Nat.le_refl _) ?_
  rintro j vs h' hj ⟨rfl, rfl⟩
  have hcl : ∀ z, (H.mk [z] [] []).clean 0 := fun z cs hcs => by cases hcs
  by_cases hz : (j : Int) < (cyc t).length
  · have hz' : j < (cyc t).length := by omega
    have hbn : ∀ b : Bool, AV.bnds 0 0 0 [ls t r, I M, I S, .bool b, I (2 ^ t.length : Nat), I S, ct t, I (cyc t).length, I ((j + 1 : Nat) : Int)] = true := fun b => by simp [AV.bnds, AV.bnd, rm_wk_bnd, hrb]
    have hri := rok_idx hro hz'
    have ev0 := wj1 (j := j) (by omega)
    have hx := hal j hz'
    have hs8 : s8 ((S : Nat) : Int) := by simp only [s8]; omega
    have hbe : ∀ i, bi ((S : Nat) : Int) i = S.testBit i := fun i => by simp only [bi, Int.toNat_natCast]
    obtain ⟨a, b, c, e⟩ : ∃ a b c : Nat, (cyc t).getD j tri0 = tri a b c := by
      obtain ⟨⟨x1, _⟩, ⟨x2, _⟩, ⟨x3, _⟩⟩ := hx
      exact ⟨((cyc t).getD j tri0).1.toNat, ((cyc t).getD j tri0).2.1.toNat, ((cyc t).getD j tri0).2.2.toNat, by
        simp only [tri]; rw [Int.toNat_of_nonneg x1, Int.toNat_of_nonneg x2, Int.toNat_of_nonneg x3]⟩
    have ha : ((cyc t).getD j tri0).1 = (a : Int) := by rw [e]
    have hb : ((cyc t).getD j tri0).2.1 = (b : Int) := by rw [e]
    have hc : ((cyc t).getD j tri0).2.2 = (c : Int) := by rw [e]
    have la : a < 8 := by have := hx.1; rw [ha] at this; simp only [d8] at this; omega
    have lb : b < 8 := by have := hx.2.1; rw [hb] at this; simp only [d8] at this; omega
    have lc : c < 8 := by have := hx.2.2; rw [hc] at this; simp only [d8] at this; omega
    have hii := @ins_iff a b c S la lb lc
    rw [← e] at hii
    cases hf : fr (cyc t) S j
    · have hk : fr (cyc t) S (j + 1) = false := by rw [fr, hf]; rfl
      refine ⟨[Ans.o (Orc.b true), Ans.o (Orc.val 19 (AV.cptr (trisA (List.drop j (cyc t)))) H.nil), Ans.o (Orc.val 20 (AV.agg [I ((cyc t).getD j tri0).fst, I ((cyc t).getD j tri0).snd.fst, I ((cyc t).getD j tri0).snd.snd]) H.nil), Ans.o (Orc.val 46 (I (↑(j + (1 : Nat)) : Int)) H.nil)], fun u => of_eq ((↑j : Int) < (↑(cyc t).length : Int) ∧ aIndexAddr Tryd.prog (38 : Nat) (AV.sl (trisA (cyc t)) (cyc t).length (cR t)) (I (↑j : Int)) = some (AV.cptr (trisA (List.drop j (cyc t)))) ∧ aLoad Tryd.prog (42 : Nat) (trisA (List.drop j (cyc t))) = some (AV.agg [I ((cyc t).getD j tri0).fst, I ((cyc t).getD j tri0).snd.fst, I ((cyc t).getD j tri0).snd.snd]) ∧ aBin Tryd.prog BinOp.add (3 : Nat) (I (↑j : Int)) (I 1) = some (I (↑(j + (1 : Nat)) : Int)) ∧ (54 : Nat) = (54 : Nat) ∧ j < (cyc t).length ∧ Keep (AV.bnds (0 : Nat) (0 : Nat) (0 : Nat) [AV.sl (ints t) t.length r, I M, I (↑S : Int), AV.bool false, I (↑((2 : Nat) ^ t.length) : Int), I (↑S : Int), AV.sl (trisA (cyc t)) (cyc t).length (cR t), I (↑(cyc t).length : Int), I (↑(j + (1 : Nat)) : Int)] = true ∧ (H.mk [[I ((cyc t).getD j tri0).fst, I ((cyc t).getD j tri0).snd.fst, I ((cyc t).getD j tri0).snd.snd]] [] []).clean (0 : Nat) ∧ H.mk [] [] [] = H.mk [] [] [] ∧ [AV.sl (ints t) t.length r, I M, I (↑S : Int), AV.bool false, I (↑((2 : Nat) ^ t.length) : Int), I (↑S : Int), AV.sl (trisA (cyc t)) (cyc t).length (cR t), I (↑(cyc t).length : Int), I (↑(j + (1 : Nat)) : Int)] = [AV.sl (ints t) t.length r, I M, I (↑S : Int), AV.bool (fr (cyc t) S (j + (1 : Nat))), I (↑((2 : Nat) ^ t.length) : Int), I (↑S : Int), AV.sl (trisA (cyc t)) (cyc t).length (cR t), I (↑(cyc t).length : Int), I (↑(j + (1 : Nat)) : Int)])) (by kernel_rfl) ?_⟩
      refine ⟨by first | with_reducible assumption | omega | assumption, ?_⟩
      refine ⟨ix_tris (by kernel_rfl) hz' hri, ?_⟩
      refine ⟨by first | exact ld_tris (by kernel_rfl) (by kernel_rfl) (by kernel_rfl) (by omega), ?_⟩
      refine ⟨told_add (by with_reducible assumption), ?_⟩
      refine ⟨by first | with_reducible assumption | omega | assumption, ?_⟩
      refine ⟨by first | with_reducible assumption | omega | assumption, ?_⟩
      (rw [hk]; exact ⟨hbn _, hcl _, rfl, rfl⟩)
    · cases d1 : S.testBit a
      · obtain ⟨ev1, ev2⟩ := i_bit0 hs8 (show a ≤ 64 by omega) (by rw [hbe]; exact d1)
        rw [← ha] at ev1
        have hk : fr (cyc t) S (j + 1) = true := by
          have : ins ((cyc t).getD j tri0) (S : Int) = false := by
            cases q : ins ((cyc t).getD j tri0) (S : Int)
            · rfl
            · have := (hii.1 q).1; rw [d1] at this; cases this
          rw [fr, hf, this]; rfl
        refine ⟨[Ans.o (Orc.b true), Ans.o (Orc.val 19 (AV.cptr (trisA (List.drop j (cyc t)))) H.nil), Ans.o (Orc.val 20 (AV.agg [I ((cyc t).getD j tri0).fst, I ((cyc t).getD j tri0).snd.fst, I ((cyc t).getD j tri0).snd.snd]) H.nil), Ans.o (Orc.val 26 (I (↑((↑S : Int).toNat >>> a) : Int)) H.nil), Ans.o (Orc.val 27 (I 0) H.nil), Ans.o Orc.dflt, Ans.o (Orc.val 46 (I (↑(j + (1 : Nat)) : Int)) H.nil)], fun u => of_eq ((↑j : Int) < (↑(cyc t).length : Int) ∧ aIndexAddr Tryd.prog (38 : Nat) (AV.sl (trisA (cyc t)) (cyc t).length (cR t)) (I (↑j : Int)) = some (AV.cptr (trisA (List.drop j (cyc t)))) ∧ aLoad Tryd.prog (42 : Nat) (trisA (List.drop j (cyc t))) = some (AV.agg [I ((cyc t).getD j tri0).fst, I ((cyc t).getD j tri0).snd.fst, I ((cyc t).getD j tri0).snd.snd]) ∧ aBin Tryd.prog BinOp.shr (3 : Nat) (I (↑S : Int)) (I ((cyc t).getD j tri0).fst) = some (I (↑((↑S : Int).toNat >>> a) : Int)) ∧ aBin Tryd.prog BinOp.and (3 : Nat) (I (↑((↑S : Int).toNat >>> a) : Int)) (I 1) = some (I 0) ∧ aBin Tryd.prog BinOp.add (3 : Nat) (I (↑j : Int)) (I 1) = some (I (↑(j + (1 : Nat)) : Int)) ∧ (54 : Nat) = (54 : Nat) ∧ j < (cyc t).length ∧ Keep (AV.bnds (0 : Nat) (0 : Nat) (0 : Nat) [AV.sl (ints t) t.length r, I M, I (↑S : Int), AV.bool true, I (↑((2 : Nat) ^ t.length) : Int), I (↑S : Int), AV.sl (trisA (cyc t)) (cyc t).length (cR t), I (↑(cyc t).length : Int), I (↑(j + (1 : Nat)) : Int)] = true ∧ (H.mk [[I ((cyc t).getD j tri0).fst, I ((cyc t).getD j tri0).snd.fst, I ((cyc t).getD j tri0).snd.snd]] [] []).clean (0 : Nat) ∧ H.mk [] [] [] = H.mk [] [] [] ∧ [AV.sl (ints t) t.length r, I M, I (↑S : Int), AV.bool true, I (↑((2 : Nat) ^ t.length) : Int), I (↑S : Int), AV.sl (trisA (cyc t)) (cyc t).length (cR t), I (↑(cyc t).length : Int), I (↑(j + (1 : Nat)) : Int)] = [AV.sl (ints t) t.length r, I M, I (↑S : Int), AV.bool (fr (cyc t) S (j + (1 : Nat))), I (↑((2 : Nat) ^ t.length) : Int), I (↑S : Int), AV.sl (trisA (cyc t)) (cyc t).length (cR t), I (↑(cyc t).length : Int), I (↑(j + (1 : Nat)) : Int)])) (by kernel_rfl) ?_⟩
        refine ⟨by first | with_reducible assumption | omega | assumption, ?_⟩
        refine ⟨ix_tris (by kernel_rfl) hz' hri, ?_⟩
        refine ⟨by first | exact ld_tris (by kernel_rfl) (by kernel_rfl) (by kernel_rfl) (by omega), ?_⟩
        refine ⟨by first | exact told_shr (by first | exact Int.natCast_nonneg _ | omega) (by with_reducible assumption) | exact told_shr (by omega) rfl, ?_⟩
        refine ⟨told_and (by with_reducible assumption), ?_⟩
        refine ⟨told_add (by with_reducible assumption), ?_⟩
        refine ⟨by first | with_reducible assumption | omega | assumption, ?_⟩
        refine ⟨by first | with_reducible assumption | omega | assumption, ?_⟩
        (rw [hk]; exact ⟨hbn _, hcl _, rfl, rfl⟩)
      · obtain ⟨ev1, ev2⟩ := i_bit1 hs8 (show a ≤ 64 by omega) (by rw [hbe]; exact d1)
        rw [← ha] at ev1
        cases d2 : S.testBit b
        · obtain ⟨ev3, ev4⟩ := i_bit0 hs8 (show b ≤ 64 by omega) (by rw [hbe]; exact d2)
          rw [← hb] at ev3
          have hk : fr (cyc t) S (j + 1) = true := by
            have : ins ((cyc t).getD j tri0) (S : Int) = false := by
              cases q : ins ((cyc t).getD j tri0) (S : Int)
              · rfl
              · have := (hii.1 q).2.1; rw [d2] at this; cases this
            rw [fr, hf, this]; rfl
          refine ⟨[Ans.o (Orc.b true), Ans.o (Orc.val 19 (AV.cptr (trisA (List.drop j (cyc t)))) H.nil), Ans.o (Orc.val 20 (AV.agg [I ((cyc t).getD j tri0).fst, I ((cyc t).getD j tri0).snd.fst, I ((cyc t).getD j tri0).snd.snd]) H.nil), Ans.o (Orc.val 26 (I (↑((↑S : Int).toNat >>> a) : Int)) H.nil), Ans.o (Orc.val 27 (I 1) H.nil), Ans.o Orc.dflt, Ans.o (Orc.val 33 (I (↑((↑S : Int).toNat >>> b) : Int)) H.nil), Ans.o (Orc.val 34 (I 0) H.nil), Ans.o Orc.dflt, Ans.o (Orc.val 46 (I (↑(j + (1 : Nat)) : Int)) H.nil)], fun u => of_eq ((↑j : Int) < (↑(cyc t).length : Int) ∧ aIndexAddr Tryd.prog (38 : Nat) (AV.sl (trisA (cyc t)) (cyc t).length (cR t)) (I (↑j : Int)) = some (AV.cptr (trisA (List.drop j (cyc t)))) ∧ aLoad Tryd.prog (42 : Nat) (trisA (List.drop j (cyc t))) = some (AV.agg [I ((cyc t).getD j tri0).fst, I ((cyc t).getD j tri0).snd.fst, I ((cyc t).getD j tri0).snd.snd]) ∧ aBin Tryd.prog BinOp.shr (3 : Nat) (I (↑S : Int)) (I ((cyc t).getD j tri0).fst) = some (I (↑((↑S : Int).toNat >>> a) : Int)) ∧ aBin Tryd.prog BinOp.and (3 : Nat) (I (↑((↑S : Int).toNat >>> a) : Int)) (I 1) = some (I 1) ∧ aBin Tryd.prog BinOp.shr (3 : Nat) (I (↑S : Int)) (I ((cyc t).getD j tri0).snd.fst) = some (I (↑((↑S : Int).toNat >>> b) : Int)) ∧ aBin Tryd.prog BinOp.and (3 : Nat) (I (↑((↑S : Int).toNat >>> b) : Int)) (I 1) = some (I 0) ∧ aBin Tryd.prog BinOp.add (3 : Nat) (I (↑j : Int)) (I 1) = some (I (↑(j + (1 : Nat)) : Int)) ∧ (54 : Nat) = (54 : Nat) ∧ j < (cyc t).length ∧ Keep (AV.bnds (0 : Nat) (0 : Nat) (0 : Nat) [AV.sl (ints t) t.length r, I M, I (↑S : Int), AV.bool true, I (↑((2 : Nat) ^ t.length) : Int), I (↑S : Int), AV.sl (trisA (cyc t)) (cyc t).length (cR t), I (↑(cyc t).length : Int), I (↑(j + (1 : Nat)) : Int)] = true ∧ (H.mk [[I ((cyc t).getD j tri0).fst, I ((cyc t).getD j tri0).snd.fst, I ((cyc t).getD j tri0).snd.snd]] [] []).clean (0 : Nat) ∧ H.mk [] [] [] = H.mk [] [] [] ∧ [AV.sl (ints t) t.length r, I M, I (↑S : Int), AV.bool true, I (↑((2 : Nat) ^ t.length) : Int), I (↑S : Int), AV.sl (trisA (cyc t)) (cyc t).length (cR t), I (↑(cyc t).length : Int), I (↑(j + (1 : Nat)) : Int)] = [AV.sl (ints t) t.length r, I M, I (↑S : Int), AV.bool (fr (cyc t) S (j + (1 : Nat))), I (↑((2 : Nat) ^ t.length) : Int), I (↑S : Int), AV.sl (trisA (cyc t)) (cyc t).length (cR t), I (↑(cyc t).length : Int), I (↑(j + (1 : Nat)) : Int)])) (by kernel_rfl) ?_⟩
          refine ⟨by first | with_reducible assumption | omega | assumption, ?_⟩
          refine ⟨ix_tris (by kernel_rfl) hz' hri, ?_⟩
          refine ⟨by first | exact ld_tris (by kernel_rfl) (by kernel_rfl) (by kernel_rfl) (by omega), ?_⟩
          refine ⟨by first | exact told_shr (by first | exact Int.natCast_nonneg _ | omega) (by with_reducible assumption) | exact told_shr (by omega) rfl, ?_⟩
          refine ⟨told_and (by with_reducible assumption), ?_⟩
          refine ⟨by first | exact told_shr (by first | exact Int.natCast_nonneg _ | omega) (by with_reducible assumption) | exact told_shr (by omega) rfl, ?_⟩
          refine ⟨told_and (by with_reducible assumption), ?_⟩
          refine ⟨told_add (by with_reducible assumption), ?_⟩
          refine ⟨by first | with_reducible assumption | omega | assumption, ?_⟩
          refine ⟨by first | with_reducible assumption | omega | assumption, ?_⟩
          (rw [hk]; exact ⟨hbn _, hcl _, rfl, rfl⟩)
        · obtain ⟨ev3, ev4⟩ := i_bit1 hs8 (show b ≤ 64 by omega) (by rw [hbe]; exact d2)
          rw [← hb] at ev3
          cases d3 : S.testBit c
          · obtain ⟨ev5, ev6⟩ := i_bit0 hs8 (show c ≤ 64 by omega) (by rw [hbe]; exact d3)
            rw [← hc] at ev5
            have hk : fr (cyc t) S (j + 1) = true := by
              have : ins ((cyc t).getD j tri0) (S : Int) = false := by
                cases q : ins ((cyc t).getD j tri0) (S : Int)
                · rfl
                · have := (hii.1 q).2.2; rw [d3] at this; cases this
              rw [fr, hf, this]; rfl
            refine ⟨[Ans.o (Orc.b true), Ans.o (Orc.val 19 (AV.cptr (trisA (List.drop j (cyc t)))) H.nil), Ans.o (Orc.val 20 (AV.agg [I ((cyc t).getD j tri0).fst, I ((cyc t).getD j tri0).snd.fst, I ((cyc t).getD j tri0).snd.snd]) H.nil), Ans.o (Orc.val 26 (I (↑((↑S : Int).toNat >>> a) : Int)) H.nil), Ans.o (Orc.val 27 (I 1) H.nil), Ans.o Orc.dflt, Ans.o (Orc.val 33 (I (↑((↑S : Int).toNat >>> b) : Int)) H.nil), Ans.o (Orc.val 34 (I 1) H.nil), Ans.o Orc.dflt, Ans.o (Orc.val 41 (I (↑((↑S : Int).toNat >>> c) : Int)) H.nil), Ans.o (Orc.val 42 (I 0) H.nil), Ans.o Orc.dflt, Ans.o (Orc.val 46 (I (↑(j + (1 : Nat)) : Int)) H.nil)], fun u => of_eq ((↑j : Int) < (↑(cyc t).length : Int) ∧ aIndexAddr Tryd.prog (38 : Nat) (AV.sl (trisA (cyc t)) (cyc t).length (cR t)) (I (↑j : Int)) = some (AV.cptr (trisA (List.drop j (cyc t)))) ∧ aLoad Tryd.prog (42 : Nat) (trisA (List.drop j (cyc t))) = some (AV.agg [I ((cyc t).getD j tri0).fst, I ((cyc t).getD j tri0).snd.fst, I ((cyc t).getD j tri0).snd.snd]) ∧ aBin Tryd.prog BinOp.shr (3 : Nat) (I (↑S : Int)) (I ((cyc t).getD j tri0).fst) = some (I (↑((↑S : Int).toNat >>> a) : Int)) ∧ aBin Tryd.prog BinOp.and (3 : Nat) (I (↑((↑S : Int).toNat >>> a) : Int)) (I 1) = some (I 1) ∧ aBin Tryd.prog BinOp.shr (3 : Nat) (I (↑S : Int)) (I ((cyc t).getD j tri0).snd.fst) = some (I (↑((↑S : Int).toNat >>> b) : Int)) ∧ aBin Tryd.prog BinOp.and (3 : Nat) (I (↑((↑S : Int).toNat >>> b) : Int)) (I 1) = some (I 1) ∧ aBin Tryd.prog BinOp.shr (3 : Nat) (I (↑S : Int)) (I ((cyc t).getD j tri0).snd.snd) = some (I (↑((↑S : Int).toNat >>> c) : Int)) ∧ aBin Tryd.prog BinOp.and (3 : Nat) (I (↑((↑S : Int).toNat >>> c) : Int)) (I 1) = some (I 0) ∧ aBin Tryd.prog BinOp.add (3 : Nat) (I (↑j : Int)) (I 1) = some (I (↑(j + (1 : Nat)) : Int)) ∧ (54 : Nat) = (54 : Nat) ∧ j < (cyc t).length ∧ Keep (AV.bnds (0 : Nat) (0 : Nat) (0 : Nat) [AV.sl (ints t) t.length r, I M, I (↑S : Int), AV.bool true, I (↑((2 : Nat) ^ t.length) : Int), I (↑S : Int), AV.sl (trisA (cyc t)) (cyc t).length (cR t), I (↑(cyc t).length : Int), I (↑(j + (1 : Nat)) : Int)] = true ∧ (H.mk [[I ((cyc t).getD j tri0).fst, I ((cyc t).getD j tri0).snd.fst, I ((cyc t).getD j tri0).snd.snd]] [] []).clean (0 : Nat) ∧ H.mk [] [] [] = H.mk [] [] [] ∧ [AV.sl (ints t) t.length r, I M, I (↑S : Int), AV.bool true, I (↑((2 : Nat) ^ t.length) : Int), I (↑S : Int), AV.sl (trisA (cyc t)) (cyc t).length (cR t), I (↑(cyc t).length : Int), I (↑(j + (1 : Nat)) : Int)] = [AV.sl (ints t) t.length r, I M, I (↑S : Int), AV.bool (fr (cyc t) S (j + (1 : Nat))), I (↑((2 : Nat) ^ t.length) : Int), I (↑S : Int), AV.sl (trisA (cyc t)) (cyc t).length (cR t), I (↑(cyc t).length : Int), I (↑(j + (1 : Nat)) : Int)])) (by kernel_rfl) ?_⟩
            refine ⟨by first | with_reducible assumption | omega | assumption, ?_⟩
            refine ⟨ix_tris (by kernel_rfl) hz' hri, ?_⟩
            refine ⟨by first | exact ld_tris (by kernel_rfl) (by kernel_rfl) (by kernel_rfl) (by omega), ?_⟩
            refine ⟨by first | exact told_shr (by first | exact Int.natCast_nonneg _ | omega) (by with_reducible assumption) | exact told_shr (by omega) rfl, ?_⟩
            refine ⟨told_and (by with_reducible assumption), ?_⟩
            refine ⟨by first | exact told_shr (by first | exact Int.natCast_nonneg _ | omega) (by with_reducible assumption) | exact told_shr (by omega) rfl, ?_⟩
            refine ⟨told_and (by with_reducible assumption), ?_⟩
            refine ⟨by first | exact told_shr (by first | exact Int.natCast_nonneg _ | omega) (by with_reducible assumption) | exact told_shr (by omega) rfl, ?_⟩
            refine ⟨told_and (by with_reducible assumption), ?_⟩
            refine ⟨told_add (by with_reducible assumption), ?_⟩
            refine ⟨by first | with_reducible assumption | omega | assumption, ?_⟩
            refine ⟨by first | with_reducible assumption | omega | assumption, ?_⟩
            (rw [hk]; exact ⟨hbn _, hcl _, rfl, rfl⟩)
          · obtain ⟨ev5, ev6⟩ := i_bit1 hs8 (show c ≤ 64 by omega) (by rw [hbe]; exact d3)
            rw [← hc] at ev5
            have hk : fr (cyc t) S (j + 1) = false := by
              rw [fr, hii.2 ⟨d1, d2, d3⟩]; simp
            refine ⟨[Ans.o (Orc.b true), Ans.o (Orc.val 19 (AV.cptr (trisA (List.drop j (cyc t)))) H.nil), Ans.o (Orc.val 20 (AV.agg [I ((cyc t).getD j tri0).fst, I ((cyc t).getD j tri0).snd.fst, I ((cyc t).getD j tri0).snd.snd]) H.nil), Ans.o (Orc.val 26 (I (↑((↑S : Int).toNat >>> a) : Int)) H.nil), Ans.o (Orc.val 27 (I 1) H.nil), Ans.o Orc.dflt, Ans.o (Orc.val 33 (I (↑((↑S : Int).toNat >>> b) : Int)) H.nil), Ans.o (Orc.val 34 (I 1) H.nil), Ans.o Orc.dflt, Ans.o (Orc.val 41 (I (↑((↑S : Int).toNat >>> c) : Int)) H.nil), Ans.o (Orc.val 42 (I 1) H.nil), Ans.o Orc.dflt, Ans.o (Orc.val 46 (I (↑(j + (1 : Nat)) : Int)) H.nil)], fun u => of_eq ((↑j : Int) < (↑(cyc t).length : Int) ∧ aIndexAddr Tryd.prog (38 : Nat) (AV.sl (trisA (cyc t)) (cyc t).length (cR t)) (I (↑j : Int)) = some (AV.cptr (trisA (List.drop j (cyc t)))) ∧ aLoad Tryd.prog (42 : Nat) (trisA (List.drop j (cyc t))) = some (AV.agg [I ((cyc t).getD j tri0).fst, I ((cyc t).getD j tri0).snd.fst, I ((cyc t).getD j tri0).snd.snd]) ∧ aBin Tryd.prog BinOp.shr (3 : Nat) (I (↑S : Int)) (I ((cyc t).getD j tri0).fst) = some (I (↑((↑S : Int).toNat >>> a) : Int)) ∧ aBin Tryd.prog BinOp.and (3 : Nat) (I (↑((↑S : Int).toNat >>> a) : Int)) (I 1) = some (I 1) ∧ aBin Tryd.prog BinOp.shr (3 : Nat) (I (↑S : Int)) (I ((cyc t).getD j tri0).snd.fst) = some (I (↑((↑S : Int).toNat >>> b) : Int)) ∧ aBin Tryd.prog BinOp.and (3 : Nat) (I (↑((↑S : Int).toNat >>> b) : Int)) (I 1) = some (I 1) ∧ aBin Tryd.prog BinOp.shr (3 : Nat) (I (↑S : Int)) (I ((cyc t).getD j tri0).snd.snd) = some (I (↑((↑S : Int).toNat >>> c) : Int)) ∧ aBin Tryd.prog BinOp.and (3 : Nat) (I (↑((↑S : Int).toNat >>> c) : Int)) (I 1) = some (I 1) ∧ aBin Tryd.prog BinOp.add (3 : Nat) (I (↑j : Int)) (I 1) = some (I (↑(j + (1 : Nat)) : Int)) ∧ (54 : Nat) = (54 : Nat) ∧ j < (cyc t).length ∧ Keep (AV.bnds (0 : Nat) (0 : Nat) (0 : Nat) [AV.sl (ints t) t.length r, I M, I (↑S : Int), AV.bool false, I (↑((2 : Nat) ^ t.length) : Int), I (↑S : Int), AV.sl (trisA (cyc t)) (cyc t).length (cR t), I (↑(cyc t).length : Int), I (↑(j + (1 : Nat)) : Int)] = true ∧ (H.mk [[I ((cyc t).getD j tri0).fst, I ((cyc t).getD j tri0).snd.fst, I ((cyc t).getD j tri0).snd.snd]] [] []).clean (0 : Nat) ∧ H.mk [] [] [] = H.mk [] [] [] ∧ [AV.sl (ints t) t.length r, I M, I (↑S : Int), AV.bool false, I (↑((2 : Nat) ^ t.length) : Int), I (↑S : Int), AV.sl (trisA (cyc t)) (cyc t).length (cR t), I (↑(cyc t).length : Int), I (↑(j + (1 : Nat)) : Int)] = [AV.sl (ints t) t.length r, I M, I (↑S : Int), AV.bool (fr (cyc t) S (j + (1 : Nat))), I (↑((2 : Nat) ^ t.length) : Int), I (↑S : Int), AV.sl (trisA (cyc t)) (cyc t).length (cR t), I (↑(cyc t).length : Int), I (↑(j + (1 : Nat)) : Int)])) (by kernel_rfl) ?_⟩
            refine ⟨by first | with_reducible assumption | omega | assumption, ?_⟩
            refine ⟨ix_tris (by kernel_rfl) hz' hri, ?_⟩
            refine ⟨by first | exact ld_tris (by kernel_rfl) (by kernel_rfl) (by kernel_rfl) (by omega), ?_⟩
            refine ⟨by first | exact told_shr (by first | exact Int.natCast_nonneg _ | omega) (by with_reducible assumption) | exact told_shr (by omega) rfl, ?_⟩
            refine ⟨told_and (by with_reducible assumption), ?_⟩
            refine ⟨by first | exact told_shr (by first | exact Int.natCast_nonneg _ | omega) (by with_reducible assumption) | exact told_shr (by omega) rfl, ?_⟩
            refine ⟨told_and (by with_reducible assumption), ?_⟩
            refine ⟨by first | exact told_shr (by first | exact Int.natCast_nonneg _ | omega) (by with_reducible assumption) | exact told_shr (by omega) rfl, ?_⟩
            refine ⟨told_and (by with_reducible assumption), ?_⟩
            refine ⟨told_add (by with_reducible assumption), ?_⟩
            refine ⟨by first | with_reducible assumption | omega | assumption, ?_⟩
            refine ⟨by first | with_reducible assumption | omega | assumption, ?_⟩
            (rw [hk]; exact ⟨hbn _, hcl _, rfl, rfl⟩)
  · have hz : ((cyc t).length : Int) ≤ j := by omega
    have e : j = (cyc t).length := by omega
    subst e
    refine ⟨[Ans.o (Orc.b false)], fun u => of_eq ((↑(cyc t).length : Int) ≤ (↑(cyc t).length : Int) ∧ (54 : Nat) = (54 : Nat) ∧ hits [Out.mk Unit (AX.exit (2 : Nat)) [(0 : Nat), (3 : Nat), (4 : Nat), (5 : Nat), (10 : Nat), (11 : Nat)] (fun x => True) (fun x => [ls t r, I M, I (↑S : Int), AV.bool (fr (cyc t) S (cyc t).length), I (↑((2 : Nat) ^ t.length) : Int), I (↑S : Int)]) (fun x => H.nil) fun x => []] (AX.exit (2 : Nat)) [AV.sl (ints t) t.length r, u (1 : Nat), u (2 : Nat), I M, I (↑S : Int), AV.bool (fr (cyc t) S (cyc t).length), u (6 : Nat), u (7 : Nat), u (8 : Nat), u (9 : Nat), I (↑((2 : Nat) ^ t.length) : Int), I (↑S : Int), u (12 : Nat), u (13 : Nat), u (14 : Nat), AV.sl (trisA (cyc t)) (cyc t).length (cR t), I (↑(cyc t).length : Int), I (↑(cyc t).length : Int), AV.bool false, u (19 : Nat), u (20 : Nat), u (21 : Nat), u (22 : Nat), u (23 : Nat), u (24 : Nat), u (25 : Nat), u (26 : Nat), u (27 : Nat), u (28 : Nat), u (29 : Nat), u (30 : Nat), u (31 : Nat), u (32 : Nat), u (33 : Nat), u (34 : Nat), u (35 : Nat), u (36 : Nat), u (37 : Nat), u (38 : Nat), u (39 : Nat), u (40 : Nat), u (41 : Nat), u (42 : Nat), u (43 : Nat), u (44 : Nat), u (45 : Nat), u (46 : Nat), u (47 : Nat), u (48 : Nat), u (49 : Nat), u (50 : Nat), u (51 : Nat), u (52 : Nat), u (53 : Nat)] (H.mk [] [] [])) (by kernel_rfl) ?_⟩
    refine ⟨by first | with_reducible assumption | omega | assumption, ?_⟩
    refine ⟨by first | with_reducible assumption | omega | assumption, ?_⟩
    exact .inl ⟨(), trivial, rfl, rfl, rfl⟩
abbrev o50 (t : List Int) : List Out := [.mk Unit (.exit 0) [3] (fun _ => True) (fun _ => [I (clr t : Nat)]) (fun _ => .nil) (fun _ => [])]
theorem simp50 : allSimpleM none1 (loopAt Tryd.f50 0) = true := by kernel_rfl
theorem lp50 (t : List Int) (r : Room) (h : Tn t) (hr : rok t r) (hrb : r.bnd 0 = true) :
    LoopS (En6 [c44.to, c62.to]) (loopAt Tryd.f50 0) 54 [0, 3, 10, 11] [ls t r, I 0, I (2 ^ t.length : Nat), I 0] .nil (o50 t) := by
  have hR : Rests (En6 [c44.to, c62.to]) none1 := rests mixed (.pure _ (.pure _ .nil))
  have h8 := h.s.2
  have p8 := pow8 h8
  refine loop_s hR simp50 none (by intro _ h; cases h) (fun S vs h => h = .nil ∧ vs = [ls t r, I (mstV t S : Nat), I (2 ^ t.length : Nat), I S]) (2 ^ t.length) ⟨rfl, rfl⟩ (by intro _ h; cases h) ?_
  rintro S vs h' hj ⟨rfl, rfl⟩
  by_cases hz : (S : Int) < ((2 ^ t.length : Nat) : Int)
  · have hS : S < 256 := by omega
    have ev0 := wj1 (j := S) (by omega)
    have p44 : Tn t ∧ rok t r := ⟨h, hr⟩
    have p62 : s8 ((S : Nat) : Int) := by simp only [s8]; omega
    have lp := lp50b t r h hr hrb S hS ((mstV t S : Nat) : Int)
    have he := fr_end (cyc t) S
    simp only [o50b, he] at lp
    cases hv : anyV (cyc t) (S : Int)
    · have ev1 : pick2 true ((mstV t S : Nat) : Int) ((pc ((S : Nat) : Int).toNat : Nat) : Int) = ((mstV t (S + 1) : Nat) : Int) := mst_pick hv
      rw [hv] at lp
      refine ⟨[Ans.o (Orc.b true), Ans.o (Orc.val 15 (AV.sl (trisA (cyc t)) (cyc t).length (rmz (3 : Nat) (cyc t)).wk) (H.mk [] [] [])), Ans.loop [(0 : Nat), (3 : Nat), (4 : Nat), (5 : Nat), (10 : Nat), (11 : Nat), (15 : Nat), (16 : Nat), (17 : Nat)] [Out.mk Unit (AX.exit (2 : Nat)) [(0 : Nat), (3 : Nat), (4 : Nat), (5 : Nat), (10 : Nat), (11 : Nat)] (fun x => True) (fun x => [ls t r, I (↑(mstV t S) : Int), I (↑S : Int), AV.bool !false, I (↑((2 : Nat) ^ t.length) : Int), I (↑S : Int)]) (fun x => H.nil) fun y => [Ans.o (Orc.val 50 (I (↑(pc (↑S : Int).toNat) : Int)) (H.mk [] [] [])), Ans.o (Orc.val 51 (I (↑(mstV t (S + (1 : Nat))) : Int)) (H.mk [] [] [])), Ans.o (Orc.val 52 (I (↑(S + (1 : Nat)) : Int)) H.nil)]]], fun u => of_eq ((↑S : Int) < (↑((2 : Nat) ^ t.length) : Int) ∧ aCall (Sof [c44.to, c62.to]) (AV.fn (Fn.func (44 : Nat)) [] []) [AV.sl (ints t) t.length r] (H.mk [] [] []) = some (AV.sl (trisA (cyc t)) (cyc t).length (rmz (3 : Nat) (cyc t)).wk, H.mk [] [] []) ∧ LoopS (Env.mk Tryd.prog (Sof [c44.to, c62.to]) (Pof (P := Tryd.prog) []) H.nil.base (300 : Nat)) (loopAt Tryd.f50 (1 : Nat)) (54 : Nat) [(0 : Nat), (3 : Nat), (4 : Nat), (5 : Nat), (10 : Nat), (11 : Nat), (15 : Nat), (16 : Nat), (17 : Nat)] [AV.sl (ints t) t.length r, I (↑(mstV t S) : Int), I (↑S : Int), AV.bool true, I (↑((2 : Nat) ^ t.length) : Int), I (↑S : Int), AV.sl (trisA (cyc t)) (cyc t).length (rmz (3 : Nat) (cyc t)).wk, I (↑(cyc t).length : Int), I 0] (H.mk [] [] []) [Out.mk Unit (AX.exit (2 : Nat)) [(0 : Nat), (3 : Nat), (4 : Nat), (5 : Nat), (10 : Nat), (11 : Nat)] (fun x => True) (fun x => [ls t r, I (↑(mstV t S) : Int), I (↑S : Int), AV.bool !false, I (↑((2 : Nat) ^ t.length) : Int), I (↑S : Int)]) (fun x => H.nil) fun y => [Ans.o (Orc.val 50 (I (↑(pc (↑S : Int).toNat) : Int)) (H.mk [] [] [])), Ans.o (Orc.val 51 (I (↑(mstV t (S + (1 : Nat))) : Int)) (H.mk [] [] [])), Ans.o (Orc.val 52 (I (↑(S + (1 : Nat)) : Int)) H.nil)]] ∧ (∀ (y : Unit), True → ∀ (u : Nat → AV), aCall (Sof [c44.to, c62.to]) (AV.fn (Fn.func (62 : Nat)) [] []) [I (↑S : Int)] (H.mk [] [] []) = some (I (↑(pc (↑S : Int).toNat) : Int), H.mk [] [] []) ∧ aMin true [I (↑(mstV t S) : Int), I (↑(pc (↑S : Int).toNat) : Int)] = some (I (↑(mstV t (S + (1 : Nat))) : Int)) ∧ aBin Tryd.prog BinOp.add (3 : Nat) (I (↑S : Int)) (I 1) = some (I (↑(S + (1 : Nat)) : Int)) ∧ (54 : Nat) = (54 : Nat) ∧ S < (2 : Nat) ^ t.length ∧ Keep (H.mk [] [] [] = H.mk [] [] [] ∧ [AV.sl (ints t) t.length r, I (↑(mstV t (S + (1 : Nat))) : Int), I (↑((2 : Nat) ^ t.length) : Int), I (↑(S + (1 : Nat)) : Int)] = [AV.sl (ints t) t.length r, I (↑(mstV t (S + (1 : Nat))) : Int), I (↑((2 : Nat) ^ t.length) : Int), I (↑(S + (1 : Nat)) : Int)])) ∧ True) (by kernel_rfl) ?_⟩
      refine ⟨by first | with_reducible assumption | omega | assumption, ?_⟩
      refine ⟨acall_hit (c := c44.to) (t, r) _ rfl p44, ?_⟩
      refine ⟨lp, ?_⟩
      refine And.intro ?_ ?_
      · skip
        intro y
        intro w1
        intro u
        refine ⟨acall_hit (c := c62.to) ((S : Nat) : Int) _ rfl p62, ?_⟩
        refine ⟨congrArg (fun z => some (I z)) ev1, ?_⟩
        refine ⟨told_add (by with_reducible assumption), ?_⟩
        refine ⟨by first | with_reducible assumption | omega | assumption, ?_⟩
        refine ⟨by first | with_reducible assumption | omega | assumption, ?_⟩
        first | exact ⟨rfl, rfl⟩ | exact ⟨rfl, by rw [ev1]⟩
      · skip
        trivial
    · have hk : mstV t (S + 1) = mstV t S := by simp only [mstV]; rw [if_pos hv]
      rw [hv] at lp
      refine ⟨[Ans.o (Orc.b true), Ans.o (Orc.val 15 (AV.sl (trisA (cyc t)) (cyc t).length (rmz (3 : Nat) (cyc t)).wk) (H.mk [] [] [])), Ans.loop [(0 : Nat), (3 : Nat), (4 : Nat), (5 : Nat), (10 : Nat), (11 : Nat), (15 : Nat), (16 : Nat), (17 : Nat)] [Out.mk Unit (AX.exit (2 : Nat)) [(0 : Nat), (3 : Nat), (4 : Nat), (5 : Nat), (10 : Nat), (11 : Nat)] (fun x => True) (fun x => [ls t r, I (↑(mstV t S) : Int), I (↑S : Int), AV.bool !true, I (↑((2 : Nat) ^ t.length) : Int), I (↑S : Int)]) (fun x => H.nil) fun y => [Ans.o (Orc.val 52 (I (↑(S + (1 : Nat)) : Int)) H.nil)]]], fun u => of_eq ((↑S : Int) < (↑((2 : Nat) ^ t.length) : Int) ∧ aCall (Sof [c44.to, c62.to]) (AV.fn (Fn.func (44 : Nat)) [] []) [AV.sl (ints t) t.length r] (H.mk [] [] []) = some (AV.sl (trisA (cyc t)) (cyc t).length (rmz (3 : Nat) (cyc t)).wk, H.mk [] [] []) ∧ LoopS (Env.mk Tryd.prog (Sof [c44.to, c62.to]) (Pof (P := Tryd.prog) []) H.nil.base (300 : Nat)) (loopAt Tryd.f50 (1 : Nat)) (54 : Nat) [(0 : Nat), (3 : Nat), (4 : Nat), (5 : Nat), (10 : Nat), (11 : Nat), (15 : Nat), (16 : Nat), (17 : Nat)] [AV.sl (ints t) t.length r, I (↑(mstV t S) : Int), I (↑S : Int), AV.bool true, I (↑((2 : Nat) ^ t.length) : Int), I (↑S : Int), AV.sl (trisA (cyc t)) (cyc t).length (rmz (3 : Nat) (cyc t)).wk, I (↑(cyc t).length : Int), I 0] (H.mk [] [] []) [Out.mk Unit (AX.exit (2 : Nat)) [(0 : Nat), (3 : Nat), (4 : Nat), (5 : Nat), (10 : Nat), (11 : Nat)] (fun x => True) (fun x => [ls t r, I (↑(mstV t S) : Int), I (↑S : Int), AV.bool !true, I (↑((2 : Nat) ^ t.length) : Int), I (↑S : Int)]) (fun x => H.nil) fun y => [Ans.o (Orc.val 52 (I (↑(S + (1 : Nat)) : Int)) H.nil)]] ∧ (∀ (y : Unit), True → ∀ (u : Nat → AV), aBin Tryd.prog BinOp.add (3 : Nat) (I (↑S : Int)) (I 1) = some (I (↑(S + (1 : Nat)) : Int)) ∧ (54 : Nat) = (54 : Nat) ∧ S < (2 : Nat) ^ t.length ∧ Keep (H.mk [] [] [] = H.mk [] [] [] ∧ [AV.sl (ints t) t.length r, I (↑(mstV t S) : Int), I (↑((2 : Nat) ^ t.length) : Int), I (↑(S + (1 : Nat)) : Int)] = [AV.sl (ints t) t.length r, I (↑(mstV t (S + (1 : Nat))) : Int), I (↑((2 : Nat) ^ t.length) : Int), I (↑(S + (1 : Nat)) : Int)])) ∧ True) (by kernel_rfl) ?_⟩
      refine ⟨by first | with_reducible assumption | omega | assumption, ?_⟩
      refine ⟨acall_hit (c := c44.to) (t, r) _ rfl p44, ?_⟩
      refine ⟨lp, ?_⟩
      refine And.intro ?_ ?_
      · skip
        intro y
        intro w1
        intro u
        refine ⟨told_add (by with_reducible assumption), ?_⟩
        refine ⟨by first | with_reducible assumption | omega | assumption, ?_⟩
        refine ⟨by first | with_reducible assumption | omega | assumption, ?_⟩
        (rw [hk]; exact ⟨rfl, rfl⟩)
      · skip
        trivial
  · have hz : ((2 ^ t.length : Nat) : Int) ≤ S := by omega
    have e : S = 2 ^ t.length := by omega
    subst e
    refine ⟨[Ans.o (Orc.b false)], fun u => of_eq ((↑((2 : Nat) ^ t.length) : Int) ≤ (↑((2 : Nat) ^ t.length) : Int) ∧ (54 : Nat) = (54 : Nat) ∧ hits [Out.mk Unit (AX.exit (0 : Nat)) [(3 : Nat)] (fun x => True) (fun x => [I (↑(clr t) : Int)]) (fun x => H.nil) fun x => []] (AX.exit (0 : Nat)) [AV.sl (ints t) t.length r, u (1 : Nat), u (2 : Nat), I (↑(mstV t ((2 : Nat) ^ t.length)) : Int), u (4 : Nat), u (5 : Nat), u (6 : Nat), u (7 : Nat), u (8 : Nat), u (9 : Nat), I (↑((2 : Nat) ^ t.length) : Int), I (↑((2 : Nat) ^ t.length) : Int), AV.bool false, u (13 : Nat), u (14 : Nat), u (15 : Nat), u (16 : Nat), u (17 : Nat), u (18 : Nat), u (19 : Nat), u (20 : Nat), u (21 : Nat), u (22 : Nat), u (23 : Nat), u (24 : Nat), u (25 : Nat), u (26 : Nat), u (27 : Nat), u (28 : Nat), u (29 : Nat), u (30 : Nat), u (31 : Nat), u (32 : Nat), u (33 : Nat), u (34 : Nat), u (35 : Nat), u (36 : Nat), u (37 : Nat), u (38 : Nat), u (39 : Nat), u (40 : Nat), u (41 : Nat), u (42 : Nat), u (43 : Nat), u (44 : Nat), u (45 : Nat), u (46 : Nat), u (47 : Nat), u (48 : Nat), u (49 : Nat), u (50 : Nat), u (51 : Nat), u (52 : Nat), u (53 : Nat)] (H.mk [] [] [])) (by kernel_rfl) ?_⟩
    refine ⟨by first | with_reducible assumption | omega | assumption, ?_⟩
    refine ⟨by first | with_reducible assumption | omega | assumption, ?_⟩
    exact .inl ⟨(), trivial, rfl, rfl, rfl⟩
theorem ok50 : FokM Tryd.prog none1 50 Tryd.f50 := ⟨mixed, by kernel_rfl, by kernel_rfl, by kernel_rfl, by kernel_rfl⟩
theorem r50 (t : List Int) (r : Room) (h : Tn t) (hr : rok t r) (hrb : r.bnd 0 = true) : Body (En6 [c44.to, c62.to]) none1 Tryd.f50 [ls t r] .nil (I (clr t : Nat), .nil) := by
  have h8 := h.s.2
  have ev1 := pw_shl (n := t.length) (by omega)
  have lp := lp50 t r h hr hrb
  refine body_s ([Ans.o (Orc.val 10 (I (↑((2 : Nat) ^ t.length) : Int)) H.nil), Ans.loop [(0 : Nat), (3 : Nat), (10 : Nat), (11 : Nat)] [Out.mk Unit (AX.exit (0 : Nat)) [(3 : Nat)] (fun x => True) (fun x => [I (↑(clr t) : Int)]) (fun x => H.nil) fun y => []]]) (aBin Tryd.prog BinOp.shl (3 : Nat) (I 1) (I (↑t.length : Int)) = some (I (↑((2 : Nat) ^ t.length) : Int)) ∧ LoopS (Env.mk Tryd.prog (Sof [c44.to, c62.to]) (Pof (P := Tryd.prog) []) H.nil.base (300 : Nat)) (loopAt Tryd.f50 (0 : Nat)) (54 : Nat) [(0 : Nat), (3 : Nat), (10 : Nat), (11 : Nat)] [AV.sl (ints t) t.length r, I 0, I (↑((2 : Nat) ^ t.length) : Int), I 0] (H.mk [] [] []) [Out.mk Unit (AX.exit (0 : Nat)) [(3 : Nat)] (fun x => True) (fun x => [I (↑(clr t) : Int)]) (fun x => H.nil) fun y => []] ∧ (∀ (y : Unit), True → ∀ (u : Nat → AV), (I (↑(clr t) : Int), H.mk [] [] []) = (I (↑(clr t) : Int), H.mk [] [] [])) ∧ True) (by kernel_rfl) ?_
  refine ⟨by first | exact told_shl (by first | exact Int.natCast_nonneg _ | omega) (by with_reducible assumption) | exact told_shl (by omega) rfl, ?_⟩
  refine ⟨lp, ?_⟩
  refine And.intro ?_ ?_
  · skip
    intro y
    intro w1
    intro u
    first | with_reducible rfl | (refine bleaf_t ?_; omega) | (refine bleaf_f ?_; omega) | (refine ileaf ?_; omega) | rfl | (exfalso; omega)
  · skip
    trivial
/-- the most players without a cycle, by the reference -/
noncomputable def c50 : PCtr Tryd.prog := sctr ok50 (X := List Int × Room) (fun x => [ls x.1 x.2]) (fun x => Tn x.1 ∧ rok x.1 x.2) (fun x => I (clr x.1 : Nat))
  (by rintro ⟨l, r⟩ ⟨m, s⟩ e _ _; simp at e; simp only [e.1]) (fun x => by simp [AV.bnds, AV.bnd, AV.wk, rm_wk_bnd]) (fun x => by simp [AV.bnd]) (fun x hx => ⟨_, _, _, .pure _ (.pure _ .nil), r50 x.1 x.2.wk hx.1 (by simpa using hx.2) (rm_wk_bnd _)⟩)
end Go.Proofs.Rnk

