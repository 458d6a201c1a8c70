/- Layer 4: the law of mistakes. -/
import Derived.Test.YtdnidpojcocklaaDoorLnBj
import Derived.Test.YtdnidpojcocklaaDoorLnT
import Derived.Test.YtdnidpojcocklaaDoorLnD
import Derived.KernelRfl
set_option linter.unusedSimpArgs false
set_option linter.unusedVariables false
set_option linter.unnecessarySimpa false
set_option maxHeartbeats 4000000
set_option maxRecDepth 100000
namespace Go.Proofs.Lrn
open Go Go.VM
theorem ok10 : FokM Tryd.prog none1 10 Tryd.f10 := ⟨mixed, by kernel_rfl, by kernel_rfl, by kernel_rfl, by kernel_rfl⟩
theorem r10b (p : Int) (l : List Int) (q : RK) (hl : pl l q) (hn : ¬ cls p l) : Body (En4 [c17.to, c24b.to, c21.to]) none1 Tryd.f10 [I p, ls l (rr q)] .nil (.bool true, .nil) := by
  have z0 : (lim (cut l).length ∧ rok (cut l) (rr q.cl)) ∧ ¬ cls p (cut l) := ⟨⟨cut_lim l, cl_rok hl.2⟩, fun h => hn (cut_cls.1 h)⟩
  refine body_s ([Ans.o (Orc.val 19 (AV.sl (ints (cut l)) (cut l).length (rr q.cl)) (H.mk [] [] [])), Ans.o (Orc.val 20 (AV.tup [I 0, I 2]) (H.mk [] [] [])), Ans.o Orc.dflt, Ans.o Orc.dflt, Ans.o (Orc.val 34 (AV.bool true) (H.mk [] [] []))]) (aCall (Sof [c17.to, c24b.to, c21.to]) (AV.fn (Fn.func (17 : Nat)) [] []) [AV.sl (ints l) l.length (rr q)] (H.mk [] [] []) = some (AV.sl (ints (cut l)) (cut l).length (rr q.cl), H.mk [] [] []) ∧ aCall (Sof [c17.to, c24b.to, c21.to]) (AV.fn (Fn.func (24 : Nat)) [] []) [I p, AV.sl (ints (cut l)) (cut l).length (rr q.cl)] (H.mk [] [] []) = some (AV.tup [I 0, I 2], H.mk [] [] []) ∧ aCall (Sof [c17.to, c24b.to, c21.to]) (AV.fn (Fn.func (21 : Nat)) [] []) [] (H.mk [] [] []) = some (AV.bool true, H.mk [] [] []) ∧ (AV.bool true, H.mk [] [] []) = (AV.bool true, H.mk [] [] [])) (by kernel_rfl) ?_
  refine ⟨acall_hit (c := c17.to) (l, q) _ rfl hl, ?_⟩
  refine ⟨acall_hit (c := c24b.to) (p, cut l, rr q.cl) _ rfl z0, ?_⟩
  refine ⟨acall_hit (c := c21.to) () _ rfl trivial, ?_⟩
  first | with_reducible rfl | (refine bleaf_t ?_; omega) | (refine bleaf_f ?_; omega) | (refine ileaf ?_; omega) | rfl | (exfalso; omega)
noncomputable abbrev cs10 : List (Ctr Tryd.prog) := [c17.to, c24g.to, c19.to, c36g.to, c25.to, c26g.to, c21.to]
theorem ct10 : Ctrs Tryd.prog none1 cs10 := .pure _ (.pure _ (.pure _ (.pure _ (.pure _ (.pure _ (.pure _ .nil))))))
theorem r10g (p : Int) (l : List Int) (q : RK) (hl : pl l q) (hc : cls p l) : Body (En4 cs10) none1 Tryd.f10 [I p, ls l (rr q)] .nil (.bool true, .nil) := by
  have e := cut_same hc.2.2.1
  have zz : cls p (cut l) ∧ rok (cut l) (rr q.cl) := ⟨cut_cls.2 hc, cl_rok hl.2⟩
  have z1 : lim l.length ∧ rok l (rr q) := ⟨hl.1, rr_rok' hl.2⟩
  have hd : decide (cls p l) = true := by rw [decide_eq_true_eq]; exact hc
  have h5 := hc.1
  have hne : sOf (cut l) ≠ 0#32 := cls_ne zz.1
  obtain ⟨S, hS⟩ : ∃ S, S = sOf (cut l) := ⟨_, rfl⟩
  have hlen : (pc S : Int) = (l.length : Int) := by rw [hS, e, pc_len (cls_in hc) (cls_nodup hc)]
  rw [← hS] at hne
  obtain ⟨k1, k2⟩ := ck_own h5 hne
  have hw := wo_dim h5 hne
  have hpos := dimV_pos (p := p) hne
  have hge := wo_ge true h5 33 S (by have := pc_le S; omega) hne
  have hhf := wo_half h5 33 S (by have := pc_le S; omega) hne
  have h16 := hc.2.2.1
  have hb := woV_bd true p S
  obtain ⟨m, hm⟩ : ∃ m : Nat, woV true p S = (m : Int) := ⟨(woV true p S).toNat, by omega⟩
  rw [hm, Int.toNat_natCast] at hhf
  have hm5 : (m : Int) < 5 := by
    have : m < 5 := by
      apply Classical.byContradiction; intro w
      have : 2 ^ 5 ≤ 2 ^ m := Nat.pow_le_pow_right (by decide) (by omega)
      omega
    omega
  have hml : ((2 ^ m : Nat) : Int) ≤ (l.length : Int) := by omega
  have ev0 := pw_shlN (n := m) (by omega)
  have htl := trL_len p S
  have h32 := tn_32 h5 hne
  have zck : CkP p (cut l) (rr q.cl) (trL p S) (tR (dimV p S).toNat) := ⟨zz, by rw [htl]; simp only [tn]; omega, by
    intro w
    simp only [tR]
    split
    · rename_i h0
      have : trL p S = [] := by rw [trL, h0]; rfl
      exact absurd this w
    · exact fun x => by cases x⟩
  have hc36 : ∀ H, aCall (Sof cs10) (.fn (.func 36) [] []) [I p, ls (cut l) (rr q.cl), .bool true] H = some (.tup [I m, I 0], H) := fun H => by
    have : aCall (Sof cs10) (.fn (.func 36) [] []) [I p, ls (cut l) (rr q.cl), .bool true] H = some (.tup [I (woV true p (sOf (cut l))), I 0], H) := acall_hit (c := c36g.to) (p, cut l, rr q.cl, true) _ rfl zz
    rwa [← hS, hm] at this
  have hc36f : ∀ H, aCall (Sof cs10) (.fn (.func 36) [] []) [I p, ls (cut l) (rr q.cl), .bool false] H = some (.tup [I (dimV p S), I 0], H) := fun H => by
    have : aCall (Sof cs10) (.fn (.func 36) [] []) [I p, ls (cut l) (rr q.cl), .bool false] H = some (.tup [I (woV false p (sOf (cut l))), I 0], H) := acall_hit (c := c36g.to) (p, cut l, rr q.cl, false) _ rfl zz
    rwa [← hS, hw] at this
  have hc24 : ∀ H, aCall (Sof cs10) (.fn (.func 24) [] []) [I p, ls (cut l) (rr q.cl)] H = some (.tup [I (dimV p S), I 0], H) := fun H => by
    have : aCall (Sof cs10) (.fn (.func 24) [] []) [I p, ls (cut l) (rr q.cl)] H = some (.tup [I (dimV p (sOf (cut l))), I 0], H) := acall_hit (c := c24g.to) (p, cut l, rr q.cl) _ rfl zz
    rwa [← hS] at this
  have hc25 : ∀ H, aCall (Sof cs10) (.fn (.func 25) [] []) [I p, ls (cut l) (rr q.cl)] H = some (.tup [.sl (trisA (trL p S)) (trL p S).length (tR (dimV p S).toNat), I 0], H) := fun H => by
    have : aCall (Sof cs10) (.fn (.func 25) [] []) [I p, ls (cut l) (rr q.cl)] H = some (.tup [.sl (trisA (trL p (sOf (cut l)))) (trL p (sOf (cut l))).length (tR (dimV p (sOf (cut l))).toNat), I 0], H) := acall_hit (c := c25.to) (p, cut l, rr q.cl) _ rfl zz
    rwa [← hS] at this
  have hc26 : ∀ H, aCall (Sof cs10) (.fn (.func 26) [] []) [I p, ls (cut l) (rr q.cl), .sl (trisA (trL p S)) (trL p S).length (tR (dimV p S).toNat)] H = some (.tup [I (dimV p S), .bool true, I 0], H) := fun H => by
    have : aCall (Sof cs10) (.fn (.func 26) [] []) [I p, ls (cut l) (rr q.cl), .sl (trisA (trL p S)) (trL p S).length (tR (dimV p S).toNat)] H = some (ckV p (sOf (cut l)) (trL p S), H) := acall_hit (c := c26g.to) ((p, cut l, rr q.cl), trL p S, tR (dimV p S).toNat) _ rfl zck
    rw [← hS, ckV, k1] at this
    rw [this, if_pos rfl, k2]
  have hge' : dimV p S ≤ (m : Int) := by omega
  obtain ⟨L, hL⟩ : ∃ L, L = trisA (trL p S) := ⟨_, rfl⟩
  obtain ⟨N, hN⟩ : ∃ N, N = (trL p S).length := ⟨_, rfl⟩
  obtain ⟨D, hD⟩ : ∃ D, D = dimV p S := ⟨_, rfl⟩
  obtain ⟨R, hR⟩ : ∃ R, R = tR (dimV p S).toNat := ⟨_, rfl⟩
  rw [← hL, ← hN, ← hR] at hc25 hc26
  rw [← hD] at hc26 hc24 hc36f hge' hpos
  have t36 := hc36 .nil
  have t36f := hc36f .nil
  have t24 := hc24 .nil
  have t25 := hc25 .nil
  have t26 := hc26 .nil
  clear hc36 hc36f hc24 hc25 hc26 k1 k2 hw hge hhf hb h32 htl
  refine body_s ([Ans.o (Orc.val 19 (AV.sl (ints (cut l)) (cut l).length (rr q.cl)) (H.mk [] [] [])), Ans.o (Orc.val 20 (AV.tup [I D, I 0]) (H.mk [] [] [])), Ans.o Orc.dflt, Ans.o (Orc.val 28 (AV.bool true) (H.mk [] [] [])), Ans.o (Orc.val 39 (AV.sl (ints (cut l)) (cut l).length (rr q.cl)) (H.mk [] [] [])), Ans.o (Orc.val 40 (AV.tup [I D, I 0]) (H.mk [] [] [])), Ans.o (Orc.val 46 (AV.sl (ints (cut l)) (cut l).length (rr q.cl)) (H.mk [] [] [])), Ans.o (Orc.val 47 (AV.tup [I (↑m : Int), I 0]) (H.mk [] [] [])), Ans.o (Orc.val 53 (AV.sl (ints (cut l)) (cut l).length (rr q.cl)) (H.mk [] [] [])), Ans.o (Orc.val 54 (AV.tup [AV.sl L N R, I 0]) (H.mk [] [] [])), Ans.o (Orc.val 60 (AV.sl (ints (cut l)) (cut l).length (rr q.cl)) (H.mk [] [] [])), Ans.o (Orc.val 62 (AV.tup [I D, AV.bool true, I 0]) (H.mk [] [] [])), Ans.o Orc.dflt, Ans.o Orc.dflt, Ans.o Orc.dflt, Ans.o Orc.dflt, Ans.fork [Ans.o (Orc.b true), Ans.o (Orc.b true), Ans.o (Orc.b true), Ans.o (Orc.val 100 (I (↑((2 : Nat) ^ m) : Int)) H.nil), Ans.o (Orc.b true), Ans.fork [Ans.o (Orc.val 114 (AV.bool true) (H.mk [] [] []))] []] []]) (aCall (Sof cs10) (AV.fn (Fn.func (17 : Nat)) [] []) [AV.sl (ints l) l.length (rr q)] (H.mk [] [] []) = some (AV.sl (ints (cut l)) (cut l).length (rr q.cl), H.mk [] [] []) ∧ aCall (Sof cs10) (AV.fn (Fn.func (24 : Nat)) [] []) [I p, AV.sl (ints (cut l)) (cut l).length (rr q.cl)] (H.mk [] [] []) = some (AV.tup [I D, I 0], H.mk [] [] []) ∧ aCall (Sof cs10) (AV.fn (Fn.func (19 : Nat)) [] []) [I p, AV.sl (ints l) l.length (rr q)] (H.mk [] [] []) = some (AV.bool true, H.mk [] [] []) ∧ aCall (Sof cs10) (AV.fn (Fn.func (17 : Nat)) [] []) [AV.sl (ints l) l.length (rr q)] (H.mk [] [] []) = some (AV.sl (ints (cut l)) (cut l).length (rr q.cl), H.mk [] [] []) ∧ aCall (Sof cs10) (AV.fn (Fn.func (36 : Nat)) [] []) [I p, AV.sl (ints (cut l)) (cut l).length (rr q.cl), AV.bool false] (H.mk [] [] []) = some (AV.tup [I D, I 0], H.mk [] [] []) ∧ aCall (Sof cs10) (AV.fn (Fn.func (17 : Nat)) [] []) [AV.sl (ints l) l.length (rr q)] (H.mk [] [] []) = some (AV.sl (ints (cut l)) (cut l).length (rr q.cl), H.mk [] [] []) ∧ aCall (Sof cs10) (AV.fn (Fn.func (36 : Nat)) [] []) [I p, AV.sl (ints (cut l)) (cut l).length (rr q.cl), AV.bool true] (H.mk [] [] []) = some (AV.tup [I (↑m : Int), I 0], H.mk [] [] []) ∧ aCall (Sof cs10) (AV.fn (Fn.func (17 : Nat)) [] []) [AV.sl (ints l) l.length (rr q)] (H.mk [] [] []) = some (AV.sl (ints (cut l)) (cut l).length (rr q.cl), H.mk [] [] []) ∧ aCall (Sof cs10) (AV.fn (Fn.func (25 : Nat)) [] []) [I p, AV.sl (ints (cut l)) (cut l).length (rr q.cl)] (H.mk [] [] []) = some (AV.tup [AV.sl L N R, I 0], H.mk [] [] []) ∧ aCall (Sof cs10) (AV.fn (Fn.func (17 : Nat)) [] []) [AV.sl (ints l) l.length (rr q)] (H.mk [] [] []) = some (AV.sl (ints (cut l)) (cut l).length (rr q.cl), H.mk [] [] []) ∧ aCall (Sof cs10) (AV.fn (Fn.func (26 : Nat)) [] []) [I p, AV.sl (ints (cut l)) (cut l).length (rr q.cl), AV.sl L N R] (H.mk [] [] []) = some (AV.tup [I D, AV.bool true, I 0], H.mk [] [] []) ∧ (D = D → (0 : Int) ≤ D ∧ D ≤ (↑m : Int) ∧ (↑m : Int) < (5 : Int) ∧ aBin Tryd.prog BinOp.shl (3 : Nat) (I 1) (I (↑m : Int)) = some (I (↑((2 : Nat) ^ m) : Int)) ∧ (↑((2 : Nat) ^ m) : Int) ≤ (↑l.length : Int) ∧ (D = D → aCall (Sof cs10) (AV.fn (Fn.func (21 : Nat)) [] []) [] (H.mk [] [] []) = some (AV.bool true, H.mk [] [] []) ∧ (AV.bool true, H.mk [] [] []) = (AV.bool true, H.mk [] [] [])) ∧ (D ≠ D → (AV.bool false, H.mk [] [] []) = (AV.bool true, H.mk [] [] []))) ∧ (D ≠ D → (AV.bool false, H.mk [] [] []) = (AV.bool true, H.mk [] [] []))) (by kernel_rfl) ?_
  refine ⟨acall_hit (c := c17.to) (l, q) _ rfl hl, ?_⟩
  refine ⟨t24, ?_⟩
  refine ⟨acall_b (acall_hit (c := c19.to) (p, l, rr q) _ rfl z1) hd, ?_⟩
  refine ⟨acall_hit (c := c17.to) (l, q) _ rfl hl, ?_⟩
  refine ⟨by first | exact t36 | exact t36f, ?_⟩
  refine ⟨acall_hit (c := c17.to) (l, q) _ rfl hl, ?_⟩
  refine ⟨by first | exact t36 | exact t36f, ?_⟩
  refine ⟨acall_hit (c := c17.to) (l, q) _ rfl hl, ?_⟩
  refine ⟨t25, ?_⟩
  refine ⟨acall_hit (c := c17.to) (l, q) _ rfl hl, ?_⟩
  refine ⟨t26, ?_⟩
  refine And.intro ?_ ?_
  · skip
    intro w0
    refine ⟨by first | with_reducible assumption | omega | assumption, ?_⟩
    refine ⟨by first | with_reducible assumption | omega | assumption, ?_⟩
    refine ⟨by first | with_reducible assumption | omega | assumption, ?_⟩
    refine ⟨by first | exact told_shl (by first | exact Int.natCast_nonneg _ | omega) (by with_reducible assumption) | exact told_shl (by omega) rfl, ?_⟩
    refine ⟨by first | with_reducible assumption | omega | assumption, ?_⟩
    refine And.intro ?_ ?_
    · skip
      intro w1
      refine ⟨acall_hit (c := c21.to) () _ rfl trivial, ?_⟩
      first | rfl | (exfalso; omega)
    · skip
      intro w1
      first | rfl | (exfalso; omega)
  · skip
    intro w0
    first | rfl | (exfalso; omega)
theorem mistakes_ok (p : Int) (l : List Int) (q : RK) (h1 : lim l.length) (h2 : q.mt = true → l = []) : CallOk Tryd.prog 10 [I p, ls l (rr q)] .nil (.bool true) .nil := by
  by_cases hc : cls p l
  · exact (r10g p l q ⟨h1, h2⟩ hc).run ok10 ct10 rfl
  · exact (r10b p l q ⟨h1, h2⟩ hc).run ok10 (.pure _ (.pure _ (.pure _ .nil))) rfl
end Go.Proofs.Lrn

