/- Layer 5: codes. -/
import Derived.Test.YtlomlnkafakloaaDoorSuF
import Derived.KernelRfl
set_option linter.unusedSimpArgs false
set_option linter.unusedVariables false
set_option linter.unnecessarySimpa false
set_option maxHeartbeats 4000000
set_option maxRecDepth 100000
namespace Go.Proofs.Sur
open Go Go.VM

theorem w_bit {s : W} {n : Nat} (b : Bool) (h : s.getLsbD n = b) : IntKind.u64.wrap ((BitVec.ofInt IntKind.u64.bits ((s >>> n).toNat : Int) &&& BitVec.ofInt IntKind.u64.bits 1).toNat : Int) = ((b.toNat : Nat) : Int) := by
  have e := w_and (s >>> n) 1#64
  have e2 : (s >>> n &&& 1#64).toNat = b.toNat := by
    rw [BitVec.toNat_and, BitVec.toNat_ushiftRight]
    show s.toNat >>> n &&& 1 = _
    rw [bit_01]
    exact congrArg Bool.toNat h
  rw [e2] at e
  exact e
def ful (n : Nat) : W := BitVec.allOnes 64 >>> (64 - n)
theorem ful_bit {n : Nat} (h : n ≤ 64) (k : Nat) : (ful n).getLsbD k = decide (k < n) := by
  rw [ful, BitVec.getLsbD_ushiftRight, BitVec.getLsbD_allOnes]
  simp only [decide_eq_decide]; omega
theorem ful_sub {n : Nat} (h : n ≤ 64) : sub (ful n) n := fun k hk => by
  rw [ful_bit h, decide_eq_true_eq] at hk; exact hk
def frF (w : List W) : Nat → Nat → W → Nat → List Int
  | 0, _, _, _ => []
  | n + 1, j, s, m => if s.getLsbD j = false then frF w n (j + 1) s m else if 1 + msV w (s &&& ~~~wt_ w j) = m then (j : Int) :: frF w n (j + 1) (s &&& ~~~wt_ w j) (m - 1) else frF w n (j + 1) s m
def frV (w : List W) : List Int := frF w w.length 0 (ful w.length) (msV w (ful w.length))
abbrev iacc (l : List Int) : AV := .sl (ints l) l.length (rm 0 l)
abbrev o64 (w : List W) : List Out :=
  [.mk Unit (.exit 0) [5] (fun _ => True) (fun _ => [iacc (frV w)]) (fun _ => ⟨[], tk (frV w), []⟩) (fun _ => [])]
theorem simp64 : allSimpleM none1 (loopAt Tryd.f64 0) = true := by kernel_rfl
theorem lp64 (w : List W) (r : Room) (hr : rok w r) (hw : rfx w) :
    LoopS (En6 [c92.to]) (loopAt Tryd.f64 0) 46 [0, 3, 4, 5, 16, 17] [ws w r, u64A (ful w.length), I (msV w (ful w.length) : Nat), .sl [] 0 .nil, I w.length, I 0] .nil (o64 w) := by
  have hR : Rests (En6 [c92.to]) none1 := rests mixed (.pure _ .nil)
  have h64 := hw.1
  refine loop_s hR simp64 none (by intro _ h; cases h) (fun j vs h => ∃ (s : W) (m : Nat) (l : List Int), m ≤ 64 ∧ h = ⟨[], tk l, []⟩ ∧ vs = [ws w r, u64A s, I (m : Nat), iacc l, I w.length, I j] ∧ frV w = l ++ frF w (w.length - j) j s m ∧ sub s w.length ∧ l.length ≤ j) w.length ⟨_, _, [], msV_le _ _, rfl, rfl, rfl, ful_sub h64, Nat.le_refl 0⟩ (by intro _ h; cases h) ?_
  rintro j vs h hj ⟨s, m, l, hm, rfl, rfl, ha, hs, hl⟩
  by_cases hz : (j : Int) < w.length
  · have hz' : j < w.length := by omega
    have hr' := rok_idx hr hz'
    have e : w.length - j = (w.length - (j + 1)) + 1 := by omega
    rw [e] at ha
    simp only [frF] at ha
    have ev0 := w_shr s (n := j) (by omega)
    cases c3 : s.getLsbD j
    · rw [c3, if_pos rfl] at ha
      have ev1 : _ = (0 : Int) := w_bit false c3
      refine ⟨[Ans.o (Orc.b true), Ans.o (Orc.val 22 (AV.int IntKind.u64 (↑(s >>> j).toNat : Int)) H.nil), Ans.o (Orc.val 23 (AV.int IntKind.u64 (0 : Int)) H.nil), Ans.o Orc.dflt], fun u => of_eq ((↑j : Int) < (↑w.length : Int) ∧ aBin Tryd.prog BinOp.shr (71 : Nat) (u64A s) (I (↑j : Int)) = some (AV.int IntKind.u64 (↑(s >>> j).toNat : Int)) ∧ aBin Tryd.prog BinOp.and (71 : Nat) (AV.int IntKind.u64 (↑(s >>> j).toNat : Int)) (AV.int IntKind.u64 (1 : Int)) = some (AV.int IntKind.u64 (0 : Int)) ∧ IntKind.i64.wrap ((↑j : Int) + (1 : Int)) = (↑j : Int) + (1 : Int) ∧ (46 : Nat) = (46 : Nat) ∧ j < w.length ∧ Keep (∃ s_1 m_1 l_1, m_1 ≤ (64 : Nat) ∧ H.mk [] (tk l) [] = H.mk [] (tk l_1) [] ∧ [AV.sl (u64s w) w.length r, u64A s, I (↑m : Int), ls l (rm (0 : Nat) l), I (↑w.length : Int), I ((↑j : Int) + (1 : Int))] = [AV.sl (u64s w) w.length r, u64A s_1, I (↑m_1 : Int), ls l_1 (rm (0 : Nat) l_1), I (↑w.length : Int), I (↑(j + (1 : Nat)) : Int)] ∧ frV w = l_1 ++ frF w (w.length - (j + (1 : Nat))) (j + (1 : Nat)) s_1 m_1 ∧ sub s_1 w.length ∧ l_1.length ≤ j + (1 : Nat))) (by kernel_rfl) ?_⟩
      refine ⟨by first | with_reducible assumption | omega | assumption, ?_⟩
      refine ⟨by first | exact told_shr (by first | exact Int.natCast_nonneg _ | omega) (by with_reducible assumption) | exact told_shr (by omega) rfl, ?_⟩
      refine ⟨told_and (by with_reducible assumption), ?_⟩
      refine ⟨wr _ (by omega) (by omega), ?_⟩
      refine ⟨by first | with_reducible assumption | omega | assumption, ?_⟩
      refine ⟨by first | with_reducible assumption | omega | assumption, ?_⟩
      exact ⟨s, m, l, hm, rfl, rfl, ha, hs, by omega⟩
    · rw [c3, if_neg (by simp)] at ha
      have ev1 : _ = (1 : Int) := w_bit true c3
      have ev2 := w_andn s (wt_ w j)
      have ev3 := i_add1 (msV_le w (s &&& ~~~wt_ w j))
      have p92 : w92 w r (s &&& ~~~wt_ w j) := ⟨⟨hr, hw⟩, sub_andn hs⟩
      by_cases c4 : 1 + msV w (s &&& ~~~wt_ w j) = m
      · rw [if_pos c4] at ha
        have c5 : ((1 + msV w (s &&& ~~~wt_ w j) : Nat) : Int) = (m : Int) := by omega
        have ev4 : IntKind.i64.wrap ((m : Int) - 1) = ((m - 1 : Nat) : Int) := by
          have : (m : Int) - 1 = ((m - 1 : Nat) : Int) := by omega
          rw [this]; exact i_wrap (by omega)
        have ha : frV w = (l ++ [(j : Int)]) ++ frF w (w.length - (j + 1)) (j + 1) (s &&& ~~~wt_ w j) (m - 1) := by rw [ha, List.append_assoc]; rfl
        have hs2 := sub_andn (a := wt_ w j) hs
        have hlen : (l ++ [(j : Int)]).length ≤ j + 1 := by simp; omega
        refine ⟨[Ans.o (Orc.b true), Ans.o (Orc.val 22 (AV.int IntKind.u64 (↑(s >>> j).toNat : Int)) H.nil), Ans.o (Orc.val 23 (AV.int IntKind.u64 (1 : Int)) H.nil), Ans.o Orc.dflt, Ans.o (Orc.val 28 (AV.cptr (u64s (List.drop j w))) H.nil), Ans.o (Orc.val 29 (u64A (w.getD j w0)) H.nil), Ans.o (Orc.val 30 (u64A (s &&& ~~~wt_ w j)) H.nil), Ans.o (Orc.val 33 (I (↑(msV w (s &&& ~~~wt_ w j)) : Int)) (H.mk [] (tk l) [])), Ans.o (Orc.val 34 (I (↑((1 : Nat) + msV w (s &&& ~~~wt_ w j)) : Int)) H.nil), Ans.o (Orc.b true), Ans.o (Orc.val 40 (ls (l ++ [(↑j : Int)]) (rm (0 : Nat) (l ++ [(↑j : Int)]))) (H.mk [] (tk (l ++ [(↑j : Int)])) [])), Ans.o (Orc.val 43 (I (↑(m - (1 : Nat)) : Int)) H.nil)], fun u => of_eq ((↑j : Int) < (↑w.length : Int) ∧ aBin Tryd.prog BinOp.shr (71 : Nat) (u64A s) (I (↑j : Int)) = some (AV.int IntKind.u64 (↑(s >>> j).toNat : Int)) ∧ aBin Tryd.prog BinOp.and (71 : Nat) (AV.int IntKind.u64 (↑(s >>> j).toNat : Int)) (AV.int IntKind.u64 (1 : Int)) = some (AV.int IntKind.u64 (1 : Int)) ∧ aIndexAddr Tryd.prog 67 (AV.sl (u64s w) w.length r) (I (↑j : Int)) = some (AV.cptr (u64s (List.drop j w))) ∧ aLoad Tryd.prog 71 (u64s (List.drop j w)) = some (u64A (w.getD j w0)) ∧ aBin Tryd.prog BinOp.andNot (71 : Nat) (u64A s) (u64A (w.getD j w0)) = some (u64A (s &&& ~~~wt_ w j)) ∧ aCall (Sof [c92.to]) (AV.fn (Fn.func 92) [] []) [AV.sl (u64s w) w.length r, u64A (s &&& ~~~wt_ w j)] (H.mk [] (tk l) []) = some (I (↑(msV w (s &&& ~~~wt_ w j)) : Int), H.mk [] (tk l) []) ∧ aBin Tryd.prog BinOp.add (3 : Nat) (I 1) (I (↑(msV w (s &&& ~~~wt_ w j)) : Int)) = some (I (↑((1 : Nat) + msV w (s &&& ~~~wt_ w j)) : Int)) ∧ (↑((1 : Nat) + msV w (s &&& ~~~wt_ w j)) : Int) = (↑m : Int) ∧ aAppend Tryd.prog 22 (22 : Nat) (ls l (rm (0 : Nat) l)) (AV.sl [I (↑j : Int)] (1 : Nat) Room.full) (H.mk [] (tk l) []) = some (ls (l ++ [(↑j : Int)]) (rm (0 : Nat) (l ++ [(↑j : Int)])), H.mk [] (tk (l ++ [(↑j : Int)])) []) ∧ aBin Tryd.prog BinOp.sub (3 : Nat) (I (↑m : Int)) (I 1) = some (I (↑(m - (1 : Nat)) : Int)) ∧ IntKind.i64.wrap ((↑j : Int) + (1 : Int)) = (↑j : Int) + (1 : Int) ∧ (46 : Nat) = (46 : Nat) ∧ j < w.length ∧ Keep (∃ s_1 m_1 l_1, m_1 ≤ (64 : Nat) ∧ H.mk [] (tk (l ++ [(↑j : Int)])) [] = H.mk [] (tk l_1) [] ∧ [AV.sl (u64s w) w.length r, u64A (s &&& ~~~wt_ w j), I (↑(m - (1 : Nat)) : Int), ls (l ++ [(↑j : Int)]) (rm (0 : Nat) (l ++ [(↑j : Int)])), I (↑w.length : Int), I ((↑j : Int) + (1 : Int))] = [AV.sl (u64s w) w.length r, u64A s_1, I (↑m_1 : Int), ls l_1 (rm (0 : Nat) l_1), I (↑w.length : Int), I (↑(j + (1 : Nat)) : Int)] ∧ frV w = l_1 ++ frF w (w.length - (j + (1 : Nat))) (j + (1 : Nat)) s_1 m_1 ∧ sub s_1 w.length ∧ l_1.length ≤ j + (1 : Nat))) (by kernel_rfl) ?_⟩
        refine ⟨by first | with_reducible assumption | omega | assumption, ?_⟩
        refine ⟨by first | exact told_shr (by first | exact Int.natCast_nonneg _ | omega) (by with_reducible assumption) | exact told_shr (by omega) rfl, ?_⟩
        refine ⟨told_and (by with_reducible assumption), ?_⟩
        refine ⟨by first | exact ix_u64s (by kernel_rfl) (by omega) (by assumption) | exact ix_u64s (by kernel_rfl) (by omega) (rok_idx (by assumption) (by omega)), ?_⟩
        refine ⟨by first | exact ld_u64s (by kernel_rfl) (by kernel_rfl) (by omega) | exact ldm_u64s (by kernel_rfl) (by kernel_rfl) (by first | omega | (simp; omega)), ?_⟩
        refine ⟨told_andn (by with_reducible assumption), ?_⟩
        refine ⟨acall_hit (c := c92.to) (w, r, s &&& ~~~wt_ w j) _ rfl p92, ?_⟩
        refine ⟨told_add (by with_reducible assumption), ?_⟩
        refine ⟨by first | with_reducible assumption | omega | assumption, ?_⟩
        refine ⟨app_ints (by kernel_rfl) (by omega), ?_⟩
        refine ⟨told_sub (by with_reducible assumption), ?_⟩
        refine ⟨wr _ (by omega) (by omega), ?_⟩
        refine ⟨by first | with_reducible assumption | omega | assumption, ?_⟩
        refine ⟨by first | with_reducible assumption | omega | assumption, ?_⟩
        exact ⟨_, m - 1, _, by omega, rfl, rfl, ha, hs2, hlen⟩
      · rw [if_neg c4] at ha
        have c5 : ((1 + msV w (s &&& ~~~wt_ w j) : Nat) : Int) ≠ (m : Int) := by omega
        refine ⟨[Ans.o (Orc.b true), Ans.o (Orc.val 22 (AV.int IntKind.u64 (↑(s >>> j).toNat : Int)) H.nil), Ans.o (Orc.val 23 (AV.int IntKind.u64 (1 : Int)) H.nil), Ans.o Orc.dflt, Ans.o (Orc.val 28 (AV.cptr (u64s (List.drop j w))) H.nil), Ans.o (Orc.val 29 (u64A (w.getD j w0)) H.nil), Ans.o (Orc.val 30 (u64A (s &&& ~~~wt_ w j)) H.nil), Ans.o (Orc.val 33 (I (↑(msV w (s &&& ~~~wt_ w j)) : Int)) (H.mk [] (tk l) [])), Ans.o (Orc.val 34 (I (↑((1 : Nat) + msV w (s &&& ~~~wt_ w j)) : Int)) H.nil), Ans.o (Orc.b false)], fun u => of_eq ((↑j : Int) < (↑w.length : Int) ∧ aBin Tryd.prog BinOp.shr (71 : Nat) (u64A s) (I (↑j : Int)) = some (AV.int IntKind.u64 (↑(s >>> j).toNat : Int)) ∧ aBin Tryd.prog BinOp.and (71 : Nat) (AV.int IntKind.u64 (↑(s >>> j).toNat : Int)) (AV.int IntKind.u64 (1 : Int)) = some (AV.int IntKind.u64 (1 : Int)) ∧ aIndexAddr Tryd.prog 67 (AV.sl (u64s w) w.length r) (I (↑j : Int)) = some (AV.cptr (u64s (List.drop j w))) ∧ aLoad Tryd.prog 71 (u64s (List.drop j w)) = some (u64A (w.getD j w0)) ∧ aBin Tryd.prog BinOp.andNot (71 : Nat) (u64A s) (u64A (w.getD j w0)) = some (u64A (s &&& ~~~wt_ w j)) ∧ aCall (Sof [c92.to]) (AV.fn (Fn.func 92) [] []) [AV.sl (u64s w) w.length r, u64A (s &&& ~~~wt_ w j)] (H.mk [] (tk l) []) = some (I (↑(msV w (s &&& ~~~wt_ w j)) : Int), H.mk [] (tk l) []) ∧ aBin Tryd.prog BinOp.add (3 : Nat) (I 1) (I (↑(msV w (s &&& ~~~wt_ w j)) : Int)) = some (I (↑((1 : Nat) + msV w (s &&& ~~~wt_ w j)) : Int)) ∧ (↑((1 : Nat) + msV w (s &&& ~~~wt_ w j)) : Int) ≠ (↑m : Int) ∧ IntKind.i64.wrap ((↑j : Int) + (1 : Int)) = (↑j : Int) + (1 : Int) ∧ (46 : Nat) = (46 : Nat) ∧ j < w.length ∧ Keep (∃ s_1 m_1 l_1, m_1 ≤ (64 : Nat) ∧ H.mk [] (tk l) [] = H.mk [] (tk l_1) [] ∧ [AV.sl (u64s w) w.length r, u64A s, I (↑m : Int), ls l (rm (0 : Nat) l), I (↑w.length : Int), I ((↑j : Int) + (1 : Int))] = [AV.sl (u64s w) w.length r, u64A s_1, I (↑m_1 : Int), ls l_1 (rm (0 : Nat) l_1), I (↑w.length : Int), I (↑(j + (1 : Nat)) : Int)] ∧ frV w = l_1 ++ frF w (w.length - (j + (1 : Nat))) (j + (1 : Nat)) s_1 m_1 ∧ sub s_1 w.length ∧ l_1.length ≤ j + (1 : Nat))) (by kernel_rfl) ?_⟩
        refine ⟨by first | with_reducible assumption | omega | assumption, ?_⟩
        refine ⟨by first | exact told_shr (by first | exact Int.natCast_nonneg _ | omega) (by with_reducible assumption) | exact told_shr (by omega) rfl, ?_⟩
        refine ⟨told_and (by with_reducible assumption), ?_⟩
        refine ⟨by first | exact ix_u64s (by kernel_rfl) (by omega) (by assumption) | exact ix_u64s (by kernel_rfl) (by omega) (rok_idx (by assumption) (by omega)), ?_⟩
        refine ⟨by first | exact ld_u64s (by kernel_rfl) (by kernel_rfl) (by omega) | exact ldm_u64s (by kernel_rfl) (by kernel_rfl) (by first | omega | (simp; omega)), ?_⟩
        refine ⟨told_andn (by with_reducible assumption), ?_⟩
        refine ⟨acall_hit (c := c92.to) (w, r, s &&& ~~~wt_ w j) _ rfl p92, ?_⟩
        refine ⟨told_add (by with_reducible assumption), ?_⟩
        refine ⟨by first | with_reducible assumption | omega | assumption, ?_⟩
        refine ⟨wr _ (by omega) (by omega), ?_⟩
        refine ⟨by first | with_reducible assumption | omega | assumption, ?_⟩
        refine ⟨by first | with_reducible assumption | omega | assumption, ?_⟩
        exact ⟨s, m, l, hm, rfl, rfl, ha, hs, by omega⟩
  · have hz : (w.length : Int) ≤ j := by omega
    have e : w.length - j = 0 := by omega
    rw [e] at ha
    have ha : frV w = l := by rw [ha]; exact List.append_nil l
    refine ⟨[Ans.o (Orc.b false)], fun u => of_eq ((↑w.length : Int) ≤ (↑j : Int) ∧ (46 : Nat) = (46 : Nat) ∧ hits [Out.mk Unit (AX.exit 0) [5] (fun x => True) (fun x => [iacc (frV w)]) (fun x => H.mk [] (tk (frV w)) []) fun x => []] (AX.exit 0) [AV.sl (u64s w) w.length r, u (1 : Nat), u (2 : Nat), u64A s, I (↑m : Int), ls l (rm (0 : Nat) l), u (6 : Nat), u (7 : Nat), u (8 : Nat), u (9 : Nat), u (10 : Nat), u (11 : Nat), u (12 : Nat), u (13 : Nat), u (14 : Nat), u (15 : Nat), I (↑w.length : Int), I (↑j : Int), AV.bool false, u (19 : Nat), u (20 : Nat), u (21 : Nat), u (22 : Nat), u (23 : Nat), u (24 : Nat), u (25 : Nat), u (26 : Nat), u (27 : Nat), u (28 : Nat), u (29 : Nat), u (30 : Nat), u (31 : Nat), u (32 : Nat), u (33 : Nat), u (34 : Nat), u (35 : Nat), u (36 : Nat), u (37 : Nat), u (38 : Nat), u (39 : Nat), u (40 : Nat), u (41 : Nat), u (42 : Nat), u (43 : Nat), u (44 : Nat), u (45 : Nat)] (H.mk [] (tk l) [])) (by kernel_rfl) ?_⟩
    refine ⟨by first | with_reducible assumption | omega | assumption, ?_⟩
    refine ⟨by first | with_reducible assumption | omega | assumption, ?_⟩
    exact .inl ⟨(), trivial, rfl, by rw [ha]; rfl, by rw [ha]⟩
theorem ok64 : FokM Tryd.prog none1 64 Tryd.f64 := ⟨mixed, by kernel_rfl, by kernel_rfl, by kernel_rfl, by kernel_rfl⟩
theorem r64 (w : List W) (r : Room) (hp : rok w r ∧ rfx w) : Body ⟨Tryd.prog, Sof (P := Tryd.prog) [c92.to], Pof (P := Tryd.prog) [], H.nil.base, 300⟩ none1 Tryd.f64 [ws w r] .nil (iacc (frV w), ⟨[], tk (frV w), []⟩) := by
  obtain ⟨hr, hw⟩ := hp
  have h64 := hw.1
  have p92 : w92 w r (ful w.length) := ⟨⟨hr, hw⟩, ful_sub h64⟩
  have ev0 : IntKind.i64.wrap (64 - (w.length : Int)) = ((64 - w.length : Nat) : Int) := by
    have : 64 - (w.length : Int) = ((64 - w.length : Nat) : Int) := by omega
    rw [this]; exact i_wrap (by omega)
  have ev1 : (18446744073709551615 : Int).fdiv (2 ^ min (((64 - w.length : Nat) : Int)).toNat IntKind.u64.bits) = ((ful w.length).toNat : Int) := w_shr (BitVec.allOnes 64) (n := 64 - w.length) (by omega)
  refine body_s ([Ans.o (Orc.val 10 (I (↑((64 : Nat) - w.length) : Int)) H.nil), Ans.o (Orc.val 11 (u64A (ful w.length)) H.nil), Ans.o (Orc.val 14 (I (↑(msV w (ful w.length)) : Int)) (H.mk [] [] [])), Ans.loop [0, 3, 4, 5, 16, 17] [Out.mk Unit (AX.exit 0) [5] (fun x => True) (fun x => [iacc (frV w)]) (fun x => H.mk [] (tk (frV w)) []) fun y => []]]) (aBin Tryd.prog BinOp.sub (3 : Nat) (I 64) (I (↑w.length : Int)) = some (I (↑((64 : Nat) - w.length) : Int)) ∧ aBin Tryd.prog BinOp.shr (71 : Nat) (AV.int IntKind.u64 (18446744073709551615 : Int)) (I (↑((64 : Nat) - w.length) : Int)) = some (u64A (ful w.length)) ∧ aCall (Sof [c92.to]) (AV.fn (Fn.func 92) [] []) [AV.sl (u64s w) w.length r, u64A (ful w.length)] (H.mk [] [] []) = some (I (↑(msV w (ful w.length)) : Int), H.mk [] [] []) ∧ LoopS (En6 [c92.to]) (loopAt Tryd.f64 0) 46 [0, 3, 4, 5, 16, 17] [AV.sl (u64s w) w.length r, u64A (ful w.length), I (↑(msV w (ful w.length)) : Int), AV.sl [] (0 : Nat) Room.nil, I (↑w.length : Int), I 0] (H.mk [] [] []) [Out.mk Unit (AX.exit 0) [5] (fun x => True) (fun x => [iacc (frV w)]) (fun x => H.mk [] (tk (frV w)) []) fun y => []] ∧ (∀ (y : Unit), True → ∀ (u : Nat → AV), leave (Base.mk H.nil.blk.length H.nil.toks.length H.nil.maps.length) (ls (frV w) (rm (0 : Nat) (frV w))) (H.mk [] (tk (frV w)) []) = (ls (frV w) (rm (0 : Nat) (frV w)), H.mk [] (tk (frV w)) [])) ∧ True) (by kernel_rfl) ?_
  refine ⟨told_sub (by with_reducible assumption), ?_⟩
  refine ⟨by first | exact told_shr (by first | exact Int.natCast_nonneg _ | omega) (by with_reducible assumption) | exact told_shr (by omega) rfl, ?_⟩
  refine ⟨acall_hit (c := c92.to) (w, r, ful w.length) _ rfl p92, ?_⟩
  refine ⟨lp64 w r hr hw, ?_⟩
  refine And.intro ?_ ?_
  · skip
    intro y
    intro w1
    intro u
    exact leave_intsa _
  · skip
    trivial
noncomputable def c64 : PCtr Tryd.prog := slctr ok64 (X := List W × Room) (fun x => [ws x.1 x.2]) (fun x => rok x.1 x.2 ∧ rfx x.1) (fun x => ls (frV x.1) (rn (frV x.1))) (by intro x y e _ _; simp at e; simp [e]) (fun x => by simp [AV.bnds, AV.bnd, AV.wk, rm_wk_bnd]) (fun x => by first | rfl | (simp [AV.bnd, rm_wk_bnd]; done)  | (simp [AV.bnd, AV.bnds, rm_wk_bnd]; done) | simp [AV.bnd, AV.bnds, Room.bnd, rm_wk_bnd]) (fun x hx => ⟨_, _, _, iacc (frV x.1), tk (frV x.1), .pure c92 (.nil), r64 (x.1) (x.2).wk (by first | exact hx | (simp only [rok_wk]; exact hx) | (simp only [rok_wk, lst_wk]; exact hx) | (simp only [rok_wk, lst_wk, lsn_wk]; exact hx)), by simp [AV.plain, AV.plains, plains_ints, plains_rows], by first | (simp only [AV.wkd, wkds_rows]; done) | (simp only [AV.wkd, wkds_ints]; done) | simp [AV.wkd, AV.wkds, Room.wk]⟩)
end Go.Proofs.Sur

