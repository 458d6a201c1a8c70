/- Layer 2: a tournament with scores, by the program. -/
import Derived.Test.YtnnhomkkggkkfaaDoorRkBe
import Derived.Test.YtnnhomkkggkkfaaDoorRkAt
import Derived.KernelRfl
set_option linter.unusedSimpArgs false
set_option linter.unusedVariables false
set_option linter.unnecessarySimpa false
set_option maxHeartbeats 4000000
set_option maxRecDepth 100000
namespace Go.Proofs.Rnk
open Go Go.VM
open Go.Proofs.Sur (andn andn_bit andn_le i_wrap i_and i_or i_andn i_shl i_shr bit_01)

theorem pw_shlW {x : Int} (h0 : 0 ≤ x) (h : x ≤ 62) : IntKind.i64.wrap (1 * 2 ^ min x.toNat IntKind.i64.bits) = ((2 ^ x.toNat : Nat) : Int) := by
  obtain ⟨n, rfl⟩ : ∃ n : Nat, x = n := ⟨x.toNat, by omega⟩
  exact pw_shl (n := n) (by omega)
section
local instance wrI4 : Inhabited Globs := ⟨⟨gcell, fun t => t == 22⟩⟩
def appTV (P : Program) (t : TypeId) : Bool :=
  match elemT P t with
  | some e => match P.info? e, zeroCs P e with
    | some i, some z => i.size == 1 && decide (i.bytes ≤ 24) && z.length == 1 && appW t
    | _, _ => false
  | none => false
theorem app_newV {P : Program} {t : TypeId} (hT : appTV P t = true) {cs : List AV} {n : Nat} {r : Room} {h : H} (hne : n ≠ 0) (hl : cs.length = n) (ho : cs.all AV.one = true) (hn : n ≤ 1000000000) :
    aAppend P t t (.sl [] 0 .full) (.sl cs n r) h = some (.msl h.blk.length 0 n noCap 1, { h with blk := h.blk ++ [cs] }) := by
  unfold appTV at hT
  split at hT
  · rename_i e he
    split at hT
    · rename_i i z hi hz
      simp only [Bool.and_eq_true, beq_iff_eq, decide_eq_true_eq] at hT
      obtain ⟨⟨⟨h1, h2⟩, h3⟩, h4⟩ := hT
      have hb : n * i.bytes ≤ 2 ^ 47 := Nat.le_trans (Nat.mul_le_mul hn h2) (by decide)
      have hm : n ≤ maxLen := Nat.le_trans hn (by decide)
      have ho' : ∀ x ∈ cs, x.one = true := List.all_eq_true.1 ho
      simp [aAppend, he, hi, hz, h1, h3, h4, slCells, hl, hb, hm, hne]
      exact ho'
    · cases hT
  · cases hT
theorem r54w (T s : List Int) (h1 : 1 ≤ s.length) (h8 : s.length ≤ 8) : BodyO ⟨Tryd.prog, Sof (P := Tryd.prog) [], Pof (P := Tryd.prog) [], ⟨1, 0, 987654321⟩, 300⟩ none1 Tryd.f54 [ls s .no] ⟨[ints T], [], []⟩ (.msl 1 0 s.length noCap 1, ⟨[ints T, ints s], [], []⟩) := by
  have hap : aAppend Tryd.prog 22 22 (.sl [] 0 .full) (.sl (ints s) s.length .no) ⟨[ints T], [], []⟩ = some (.msl 1 0 s.length noCap 1, ⟨[ints T, ints s], [], []⟩) := app_newV (P := Tryd.prog) (t := 22) (by kernel_rfl) (cs := ints s) (n := s.length) (by omega) (by simp) (ints_one s) (by omega)
  refine bodyO_s ([Ans.o (Orc.val 7 (AV.msl 1 0 s.length noCap (1 : Nat)) (H.mk [ints T, ints s] [] []))]) (aAppend Tryd.prog (22 : Nat) (22 : Nat) (AV.sl [] (0 : Nat) Room.full) (AV.sl (ints s) s.length Room.no) (H.mk [ints T] [] []) = some (AV.msl 1 0 s.length (9223372036854775808 : Nat) (1 : Nat), H.mk [ints T, ints s] [] []) ∧ (AV.msl 1 0 s.length (9223372036854775808 : Nat) (1 : Nat), H.mk [ints T, ints s] [] []) = (AV.msl 1 0 s.length (9223372036854775808 : Nat) (1 : Nat), H.mk [ints T, ints s] [] [])) (by kernel_rfl) ?_
  refine ⟨hap, ?_⟩
  rfl
theorem k54w (T s : List Int) (h1 : 1 ≤ s.length) (h8 : s.length ≤ 8) : CallOk Tryd.prog 54 [ls s .no] ⟨[ints T], [], []⟩ (.msl 1 0 s.length noCap 1) ⟨[ints T, ints s], [], []⟩ :=
  CallOkB.full ((r54w T s h1 h8).call ok54 (rests mixed .nil) rfl) (Nat.le_refl 1)
end
/-- 'Clone' of a list that is then written, beside another one -/
noncomputable def c54w : Ctr Tryd.prog where
  f := 54
  X := List Int × List Int
  args x := [ls x.2 .no]
  pre x h := h = ⟨[ints x.1], [], []⟩ ∧ 1 ≤ x.2.length ∧ x.2.length ≤ 8
  res x _ := (.msl 1 0 x.2.length noCap 1, ⟨[ints x.1, ints x.2], [], []⟩)
  det := by
    rintro ⟨T, s⟩ ⟨T', s'⟩ h e ⟨h1, _⟩ ⟨h2, _⟩
    simp only [List.cons.injEq, AV.sl.injEq, and_true] at e
    have h1 := h1.symm.trans h2
    simp only [H.mk.injEq, List.cons.injEq, and_true] at h1
    rw [ints_inj h1, ints_inj e.1]
  ok := by
    rintro ⟨T, s⟩ h ⟨rfl, h2, h3⟩
    exact ⟨ok54.call, @CallOk.up wrI4 instInhabitedGlobs (fun _ => rfl) _ _ _ _ _ _ (k54w T s h2 h3)⟩
abbrev mT (n : Nat) : AV := .msl 0 0 n n 1
theorem h1_closed (T : List Int) : (H.mk [ints T] [] []).closed := ⟨rfl, rfl, fun x hx => by
  simp only [List.mem_cons, List.not_mem_nil, or_false] at hx
  subst hx
  exact ints_bnds _ _ _ _⟩
theorem r70m (T : List Int) (n : Nat) (h8 : n ≤ 8) : Body ⟨Tryd.prog, Sof (P := Tryd.prog) [], Pof (P := Tryd.prog) [], ⟨1, 0, 0⟩, 300⟩ none1 Tryd.f70 [mT n] ⟨[ints T], [], []⟩ (I (alls n : Nat), ⟨[ints T], [], []⟩) := by
  have ev0 := pw_shl (n := n) (by omega)
  have ev1 := pw_alls (n := n) h8
  refine body_s ([Ans.o (Orc.val 5 (I (↑((2 : Nat) ^ n) : Int)) H.nil), Ans.o (Orc.val 6 (I (↑(alls n) : Int)) H.nil)]) (aBin Tryd.prog BinOp.shl (3 : Nat) (I 1) (I (↑n : Int)) = some (I (↑((2 : Nat) ^ n) : Int)) ∧ aBin Tryd.prog BinOp.sub (3 : Nat) (I (↑((2 : Nat) ^ n) : Int)) (I 1) = some (I (↑(alls n) : Int)) ∧ (I (↑(alls n) : Int), H.mk [ints T] [] []) = (I (↑(alls n) : Int), H.mk [ints T] [] [])) (by kernel_rfl) ?_
  refine ⟨by first | exact told_shl (by first | exact Int.natCast_nonneg _ | omega) (by with_reducible assumption) | exact told_shl (by omega) rfl, ?_⟩
  refine ⟨told_sub (by with_reducible assumption), ?_⟩
  first | with_reducible rfl | (refine bleaf_t ?_; omega) | (refine bleaf_f ?_; omega) | (refine ileaf ?_; omega) | rfl | (exfalso; omega)
/-- 'everyone' of a list that is written -/
noncomputable def c70m (T : List Int) : Ctr Tryd.prog :=
  fctr ok70 ⟨[ints T], [], []⟩ (X := Nat) (fun n => [mT n]) (fun n => n ≤ 8) (fun n => I (alls n : Nat))
    (by intro a b e _ _; simp only [List.cons.injEq, AV.msl.injEq, true_and, and_true] at e; rw [e.1]) (h1_closed T) (fun _ _ => rfl) (fun _ _ => rfl) (fun n hn => ⟨_, _, _, .nil, r70m T n hn⟩)
theorem c70m_reads (T : List Int) : (c70m T).Reads := fctr_reads ..
noncomputable abbrev cs61 (T : List Int) : List (Ctr Tryd.prog) := [c54w, c70m T, c72, c91, c92]
abbrev M61 : FuncId → Bool := fun f => f == 54 || f == 72 || f == 91 || f == 92
theorem ct61 (T : List Int) : Ctrs Tryd.prog M61 (cs61 T) := .eff c54w rfl (.rd _ (c70m_reads T) (.eff c72 rfl (.eff c91 rfl (.eff c92 rfl .nil))))
abbrev o61b (n m : Nat) (q : Int) (mo : Int) (U T W : List Int) : List Out := [.mk Unit (.exit 2) [3, 4, 5, 6] (fun _ => True) (fun _ => [mT n, .ptr 2 0, mU m, I q]) (fun _ => hU (stp mo U T W m).1 (stp mo U T W m).2 U n) (fun _ => [])]
theorem simp61b : allSimpleM M61 (loopAt Tryd.f61 1) = true := by kernel_rfl
theorem lp61b (Z : List Int) (n m : Nat) (q : Int) (mo : Int) (U T W : List Int) (h8 : n ≤ 8) (hm : m < n) (hmo : okQ n mo) (hU' : al (okQ n) U) (hUl : U.length = n) (hTl : T.length = n) (hWl : W.length = n) (hT : al tb8 T) (hW : al (wb 100) W) :
    LoopS (En6 (cs61 Z)) (loopAt Tryd.f61 1) 73 [3, 4, 5, 6, 7, 36, 37, 38] [mT n, .ptr 2 0, mU m, I q, I mo, mU m, I m, I 0] (hU T W U n) (o61b n m q mo U T W) := by
  have hR : Rests (En6 (cs61 Z)) M61 := rests mixed (ct61 Z)
  refine loop_s hR simp61b none (by intro _ h; cases h) (fun i vs h => h = hU (stp mo U T W i).1 (stp mo U T W i).2 U n ∧ vs = [mT n, .ptr 2 0, mU m, I q, I mo, mU m, I m, I i]) m ⟨rfl, rfl⟩ (by intro _ h; cases h) ?_
  rintro i vs h hi ⟨rfl, rfl⟩
  obtain ⟨l1, l2⟩ := stp_len mo U T W i
  have hU8 : al (fun x => 0 ≤ x ∧ x < 8) U := fun k => by have := hU' k; simp only [okQ] at this; omega
  obtain ⟨b1, b2⟩ := stp_b (mo := mo) (U := U) (d := 100) (by simp only [okQ] at hmo; omega) hU8 hT hW i
  rw [hTl] at l1
  rw [hWl] at l2
  by_cases hz : (i : Int) < m
  · have hz' : i < m := by omega
    have hzU : i < U.length := by omega
    have ev0 := wj1 (j := i) (by omega)
    obtain ⟨p0, p1⟩ := hU' i
    obtain ⟨m0, m1⟩ := hmo
    have pT : (U.getD i i0).toNat < (stp mo U T W i).1.length := by omega
    have mTl : mo.toNat < (stp mo U T W i).1.length := by omega
    have pW : (U.getD i i0).toNat < (stp mo U T W i).2.length := by omega
    have mW : mo.toNat < (stp mo U T W i).2.length := by omega
    have h2p : 2 ^ (U.getD i i0).toNat < 2 ^ 8 := Nat.pow_lt_pow_right (by decide) (by omega)
    have h2m : 2 ^ mo.toNat < 2 ^ 8 := Nat.pow_lt_pow_right (by decide) (by omega)
    by_cases c : (i : Int) < (stp mo U T W i).2.getD mo.toNat i0
    · have hs : stp mo U T W (i + 1) = ((stp mo U T W i).1.set mo.toNat (orI ((stp mo U T W i).1.getD mo.toNat i0) (U.getD i i0)), (stp mo U T W i).2) := by simp only [stp]; rw [if_pos c]
      have ev1 := pw_shlW p0 (by omega)
      have bm := b1 mo.toNat
      have ev2 : IntKind.i64.wrap ((BitVec.ofInt IntKind.i64.bits ((stp mo U T W i).1.getD mo.toNat i0) ||| BitVec.ofInt IntKind.i64.bits ((2 ^ (U.getD i i0).toNat : Nat) : Int)).toNat : Int) = orI ((stp mo U T W i).1.getD mo.toNat i0) (U.getD i i0) := by
        have := i_or (a := ((stp mo U T W i).1.getD mo.toNat i0).toNat) (b := 2 ^ (U.getD i i0).toNat) (by simp only [tb8] at bm; omega) (by omega)
        rw [Int.toNat_of_nonneg bm.1] at this
        exact this
      refine ⟨[Ans.o (Orc.b true), Ans.o (Orc.val 41 (AV.ptr 4 i) H.nil), Ans.o (Orc.val 42 (I (U.getD i i0)) H.nil), Ans.o (Orc.val 46 (AV.ptr 1 mo.toNat) H.nil), Ans.o (Orc.val 47 (I ((stp mo U T W i).snd.getD mo.toNat i0)) H.nil), Ans.o (Orc.b true), Ans.o (Orc.val 51 (AV.ptr 0 mo.toNat) H.nil), Ans.o (Orc.val 52 (I ((stp mo U T W i).fst.getD mo.toNat i0)) H.nil), Ans.o (Orc.val 54 (I (↑((2 : Nat) ^ (U.getD i i0).toNat) : Int)) H.nil), Ans.o (Orc.val 55 (I (orI ((stp mo U T W i).fst.getD mo.toNat i0) (U.getD i i0))) H.nil), Ans.o (Orc.val 56 (AV.ptr 0 mo.toNat) H.nil), Ans.o (Orc.val 9999 (AV.tup []) (H.mk [ints ((stp mo U T W i).fst.set mo.toNat (orI ((stp mo U T W i).fst.getD mo.toNat i0) (U.getD i i0))), ints (stp mo U T W i).snd, [AV.msl 1 0 n (9223372036854775808 : Nat) (1 : Nat)], [I 0], ints U] [] [])), Ans.o (Orc.val 71 (I (↑(i + (1 : Nat)) : Int)) H.nil)], fun u => of_eq ((↑i : Int) < (↑m : Int) ∧ aIndexAddr Tryd.prog (22 : Nat) (AV.msl 4 0 m (9223372036854775808 : Nat) (1 : Nat)) (I (↑i : Int)) = some (AV.ptr 4 i) ∧ aLoad Tryd.prog (3 : Nat) (List.drop i (ints U)) = some (I (U.getD i i0)) ∧ aIndexAddr Tryd.prog (22 : Nat) (AV.msl 1 0 n (9223372036854775808 : Nat) (1 : Nat)) (I mo) = some (AV.ptr 1 mo.toNat) ∧ aLoad Tryd.prog (3 : Nat) (List.drop mo.toNat (ints (stp mo U T W i).snd)) = some (I ((stp mo U T W i).snd.getD mo.toNat i0)) ∧ (↑i : Int) < (stp mo U T W i).snd.getD mo.toNat i0 ∧ aIndexAddr Tryd.prog (22 : Nat) (AV.msl 0 0 n n (1 : Nat)) (I mo) = some (AV.ptr 0 mo.toNat) ∧ aLoad Tryd.prog (3 : Nat) (List.drop mo.toNat (ints (stp mo U T W i).fst)) = some (I ((stp mo U T W i).fst.getD mo.toNat i0)) ∧ aBin Tryd.prog BinOp.shl (3 : Nat) (I 1) (I (U.getD i i0)) = some (I (↑((2 : Nat) ^ (U.getD i i0).toNat) : Int)) ∧ aBin Tryd.prog BinOp.or (3 : Nat) (I ((stp mo U T W i).fst.getD mo.toNat i0)) (I (↑((2 : Nat) ^ (U.getD i i0).toNat) : Int)) = some (I (orI ((stp mo U T W i).fst.getD mo.toNat i0) (U.getD i i0))) ∧ aIndexAddr Tryd.prog (22 : Nat) (AV.msl 0 0 n n (1 : Nat)) (I mo) = some (AV.ptr 0 mo.toNat) ∧ aStore Tryd.prog H.nil.base (3 : Nat) (AV.ptr 0 mo.toNat) (I (orI ((stp mo U T W i).fst.getD mo.toNat i0) (U.getD i i0))) (H.mk [ints (stp mo U T W i).fst, ints (stp mo U T W i).snd, [AV.msl 1 0 n (9223372036854775808 : Nat) (1 : Nat)], [I 0], ints U] [] []) = some (H.mk [ints ((stp mo U T W i).fst.set mo.toNat (orI ((stp mo U T W i).fst.getD mo.toNat i0) (U.getD i i0))), ints (stp mo U T W i).snd, [AV.msl 1 0 n (9223372036854775808 : Nat) (1 : Nat)], [I 0], ints U] [] []) ∧ aBin Tryd.prog BinOp.add (3 : Nat) (I (↑i : Int)) (I 1) = some (I (↑(i + (1 : Nat)) : Int)) ∧ (73 : Nat) = (73 : Nat) ∧ i < m ∧ Keep (H.mk [ints ((stp mo U T W i).fst.set mo.toNat (orI ((stp mo U T W i).fst.getD mo.toNat i0) (U.getD i i0))), ints (stp mo U T W i).snd, [AV.msl 1 0 n (9223372036854775808 : Nat) (1 : Nat)], [I 0], ints U] [] [] = H.mk [ints (stp mo U T W (i + (1 : Nat))).fst, ints (stp mo U T W (i + (1 : Nat))).snd, [AV.msl 1 0 n (9223372036854775808 : Nat) (1 : Nat)], [I 0], ints U] [] [] ∧ [AV.msl 0 0 n n (1 : Nat), AV.ptr 2 0, AV.msl 4 0 m (9223372036854775808 : Nat) (1 : Nat), I q, I mo, AV.msl 4 0 m (9223372036854775808 : Nat) (1 : Nat), I (↑m : Int), I (↑(i + (1 : Nat)) : Int)] = [AV.msl 0 0 n n (1 : Nat), AV.ptr 2 0, AV.msl 4 0 m (9223372036854775808 : Nat) (1 : Nat), I q, I mo, AV.msl 4 0 m (9223372036854775808 : Nat) (1 : Nat), I (↑m : Int), I (↑(i + (1 : Nat)) : Int)])) (by kernel_rfl) ?_⟩
      refine ⟨by first | with_reducible assumption | omega | assumption, ?_⟩
      refine ⟨by first | exact ixm0 (by kernel_rfl) hz' | exact ixm0_int (by kernel_rfl) m0 m1 | exact ixm0_int (by kernel_rfl) p0 p1, ?_⟩
      refine ⟨by first | exact ldm_ints (by kernel_rfl) (by kernel_rfl) hzU | exact ldm_ints (by kernel_rfl) (by kernel_rfl) mW | exact ldm_ints (by kernel_rfl) (by kernel_rfl) mTl, ?_⟩
      refine ⟨by first | exact ixm0 (by kernel_rfl) hz' | exact ixm0_int (by kernel_rfl) m0 m1 | exact ixm0_int (by kernel_rfl) p0 p1, ?_⟩
      refine ⟨by first | exact ldm_ints (by kernel_rfl) (by kernel_rfl) hzU | exact ldm_ints (by kernel_rfl) (by kernel_rfl) mW | exact ldm_ints (by kernel_rfl) (by kernel_rfl) mTl, ?_⟩
      refine ⟨by first | with_reducible assumption | omega | assumption, ?_⟩
      refine ⟨by first | exact ixm0 (by kernel_rfl) hz' | exact ixm0_int (by kernel_rfl) m0 m1 | exact ixm0_int (by kernel_rfl) p0 p1, ?_⟩
      refine ⟨by first | exact ldm_ints (by kernel_rfl) (by kernel_rfl) hzU | exact ldm_ints (by kernel_rfl) (by kernel_rfl) mW | exact ldm_ints (by kernel_rfl) (by kernel_rfl) mTl, ?_⟩
      refine ⟨by first | exact told_shl (by first | exact Int.natCast_nonneg _ | omega) (by with_reducible assumption) | exact told_shl (by omega) rfl, ?_⟩
      refine ⟨told_or (by with_reducible assumption), ?_⟩
      refine ⟨by first | exact ixm0 (by kernel_rfl) hz' | exact ixm0_int (by kernel_rfl) m0 m1 | exact ixm0_int (by kernel_rfl) p0 p1, ?_⟩
      refine ⟨st_ints (by kernel_rfl) rfl mTl, ?_⟩
      refine ⟨told_add (by with_reducible assumption), ?_⟩
      refine ⟨by first | with_reducible assumption | omega | assumption, ?_⟩
      refine ⟨by first | with_reducible assumption | omega | assumption, ?_⟩
      exact ⟨by rw [hs], rfl⟩
    · have c' : (stp mo U T W i).2.getD mo.toNat i0 ≤ (i : Int) := by omega
      have hs : stp mo U T W (i + 1) = ((stp mo U T W i).1.set (U.getD i i0).toNat (orI ((stp mo U T W i).1.getD (U.getD i i0).toNat i0) mo), (stp mo U T W i).2.set (U.getD i i0).toNat ((stp mo U T W i).2.getD (U.getD i i0).toNat i0 - 1)) := by simp only [stp]; rw [if_neg c]
      have ev1 := pw_shlW m0 (by omega)
      have bm := b1 (U.getD i i0).toNat
      have bw := b2 (U.getD i i0).toNat
      have ev2 : IntKind.i64.wrap ((BitVec.ofInt IntKind.i64.bits ((stp mo U T W i).1.getD (U.getD i i0).toNat i0) ||| BitVec.ofInt IntKind.i64.bits ((2 ^ mo.toNat : Nat) : Int)).toNat : Int) = orI ((stp mo U T W i).1.getD (U.getD i i0).toNat i0) mo := by
        have := i_or (a := ((stp mo U T W i).1.getD (U.getD i i0).toNat i0).toNat) (b := 2 ^ mo.toNat) (by simp only [tb8] at bm; omega) (by omega)
        rw [Int.toNat_of_nonneg bm.1] at this
        exact this
      have ev3 : IntKind.i64.wrap ((stp mo U T W i).2.getD (U.getD i i0).toNat i0 - 1) = (stp mo U T W i).2.getD (U.getD i i0).toNat i0 - 1 := by
        simp only [wb] at bw
        exact wr _ (by omega) (by omega)
      refine ⟨[Ans.o (Orc.b true), Ans.o (Orc.val 41 (AV.ptr 4 i) H.nil), Ans.o (Orc.val 42 (I (U.getD i i0)) H.nil), Ans.o (Orc.val 46 (AV.ptr 1 mo.toNat) H.nil), Ans.o (Orc.val 47 (I ((stp mo U T W i).snd.getD mo.toNat i0)) H.nil), Ans.o (Orc.b false), Ans.o (Orc.val 59 (AV.ptr 0 (U.getD i i0).toNat) H.nil), Ans.o (Orc.val 60 (I ((stp mo U T W i).fst.getD (U.getD i i0).toNat i0)) H.nil), Ans.o (Orc.val 62 (I (↑((2 : Nat) ^ mo.toNat) : Int)) H.nil), Ans.o (Orc.val 63 (I (orI ((stp mo U T W i).fst.getD (U.getD i i0).toNat i0) mo)) H.nil), Ans.o (Orc.val 64 (AV.ptr 0 (U.getD i i0).toNat) H.nil), Ans.o (Orc.val 9999 (AV.tup []) (H.mk [ints ((stp mo U T W i).fst.set (U.getD i i0).toNat (orI ((stp mo U T W i).fst.getD (U.getD i i0).toNat i0) mo)), ints (stp mo U T W i).snd, [AV.msl 1 0 n (9223372036854775808 : Nat) (1 : Nat)], [I 0], ints U] [] [])), Ans.o (Orc.val 67 (AV.ptr 1 (U.getD i i0).toNat) H.nil), Ans.o (Orc.val 68 (I ((stp mo U T W i).snd.getD (U.getD i i0).toNat i0)) H.nil), Ans.o (Orc.val 69 (I ((stp mo U T W i).snd.getD (U.getD i i0).toNat i0 - (1 : Int))) H.nil), Ans.o (Orc.val 70 (AV.ptr 1 (U.getD i i0).toNat) H.nil), Ans.o (Orc.val 9999 (AV.tup []) (H.mk [ints ((stp mo U T W i).fst.set (U.getD i i0).toNat (orI ((stp mo U T W i).fst.getD (U.getD i i0).toNat i0) mo)), ints ((stp mo U T W i).snd.set (U.getD i i0).toNat ((stp mo U T W i).snd.getD (U.getD i i0).toNat i0 - (1 : Int))), [AV.msl 1 0 n (9223372036854775808 : Nat) (1 : Nat)], [I 0], ints U] [] [])), Ans.o (Orc.val 71 (I (↑(i + (1 : Nat)) : Int)) H.nil)], fun u => of_eq ((↑i : Int) < (↑m : Int) ∧ aIndexAddr Tryd.prog (22 : Nat) (AV.msl 4 0 m (9223372036854775808 : Nat) (1 : Nat)) (I (↑i : Int)) = some (AV.ptr 4 i) ∧ aLoad Tryd.prog (3 : Nat) (List.drop i (ints U)) = some (I (U.getD i i0)) ∧ aIndexAddr Tryd.prog (22 : Nat) (AV.msl 1 0 n (9223372036854775808 : Nat) (1 : Nat)) (I mo) = some (AV.ptr 1 mo.toNat) ∧ aLoad Tryd.prog (3 : Nat) (List.drop mo.toNat (ints (stp mo U T W i).snd)) = some (I ((stp mo U T W i).snd.getD mo.toNat i0)) ∧ (stp mo U T W i).snd.getD mo.toNat i0 ≤ (↑i : Int) ∧ aIndexAddr Tryd.prog (22 : Nat) (AV.msl 0 0 n n (1 : Nat)) (I (U.getD i i0)) = some (AV.ptr 0 (U.getD i i0).toNat) ∧ aLoad Tryd.prog (3 : Nat) (List.drop (U.getD i i0).toNat (ints (stp mo U T W i).fst)) = some (I ((stp mo U T W i).fst.getD (U.getD i i0).toNat i0)) ∧ aBin Tryd.prog BinOp.shl (3 : Nat) (I 1) (I mo) = some (I (↑((2 : Nat) ^ mo.toNat) : Int)) ∧ aBin Tryd.prog BinOp.or (3 : Nat) (I ((stp mo U T W i).fst.getD (U.getD i i0).toNat i0)) (I (↑((2 : Nat) ^ mo.toNat) : Int)) = some (I (orI ((stp mo U T W i).fst.getD (U.getD i i0).toNat i0) mo)) ∧ aIndexAddr Tryd.prog (22 : Nat) (AV.msl 0 0 n n (1 : Nat)) (I (U.getD i i0)) = some (AV.ptr 0 (U.getD i i0).toNat) ∧ aStore Tryd.prog H.nil.base (3 : Nat) (AV.ptr 0 (U.getD i i0).toNat) (I (orI ((stp mo U T W i).fst.getD (U.getD i i0).toNat i0) mo)) (H.mk [ints (stp mo U T W i).fst, ints (stp mo U T W i).snd, [AV.msl 1 0 n (9223372036854775808 : Nat) (1 : Nat)], [I 0], ints U] [] []) = some (H.mk [ints ((stp mo U T W i).fst.set (U.getD i i0).toNat (orI ((stp mo U T W i).fst.getD (U.getD i i0).toNat i0) mo)), ints (stp mo U T W i).snd, [AV.msl 1 0 n (9223372036854775808 : Nat) (1 : Nat)], [I 0], ints U] [] []) ∧ aIndexAddr Tryd.prog (22 : Nat) (AV.msl 1 0 n (9223372036854775808 : Nat) (1 : Nat)) (I (U.getD i i0)) = some (AV.ptr 1 (U.getD i i0).toNat) ∧ aLoad Tryd.prog (3 : Nat) (List.drop (U.getD i i0).toNat (ints (stp mo U T W i).snd)) = some (I ((stp mo U T W i).snd.getD (U.getD i i0).toNat i0)) ∧ aBin Tryd.prog BinOp.sub (3 : Nat) (I ((stp mo U T W i).snd.getD (U.getD i i0).toNat i0)) (I 1) = some (I ((stp mo U T W i).snd.getD (U.getD i i0).toNat i0 - (1 : Int))) ∧ aIndexAddr Tryd.prog (22 : Nat) (AV.msl 1 0 n (9223372036854775808 : Nat) (1 : Nat)) (I (U.getD i i0)) = some (AV.ptr 1 (U.getD i i0).toNat) ∧ aStore Tryd.prog H.nil.base (3 : Nat) (AV.ptr 1 (U.getD i i0).toNat) (I ((stp mo U T W i).snd.getD (U.getD i i0).toNat i0 - (1 : Int))) (H.mk [ints ((stp mo U T W i).fst.set (U.getD i i0).toNat (orI ((stp mo U T W i).fst.getD (U.getD i i0).toNat i0) mo)), ints (stp mo U T W i).snd, [AV.msl 1 0 n (9223372036854775808 : Nat) (1 : Nat)], [I 0], ints U] [] []) = some (H.mk [ints ((stp mo U T W i).fst.set (U.getD i i0).toNat (orI ((stp mo U T W i).fst.getD (U.getD i i0).toNat i0) mo)), ints ((stp mo U T W i).snd.set (U.getD i i0).toNat ((stp mo U T W i).snd.getD (U.getD i i0).toNat i0 - (1 : Int))), [AV.msl 1 0 n (9223372036854775808 : Nat) (1 : Nat)], [I 0], ints U] [] []) ∧ aBin Tryd.prog BinOp.add (3 : Nat) (I (↑i : Int)) (I 1) = some (I (↑(i + (1 : Nat)) : Int)) ∧ (73 : Nat) = (73 : Nat) ∧ i < m ∧ Keep (H.mk [ints ((stp mo U T W i).fst.set (U.getD i i0).toNat (orI ((stp mo U T W i).fst.getD (U.getD i i0).toNat i0) mo)), ints ((stp mo U T W i).snd.set (U.getD i i0).toNat ((stp mo U T W i).snd.getD (U.getD i i0).toNat i0 - (1 : Int))), [AV.msl 1 0 n (9223372036854775808 : Nat) (1 : Nat)], [I 0], ints U] [] [] = H.mk [ints (stp mo U T W (i + (1 : Nat))).fst, ints (stp mo U T W (i + (1 : Nat))).snd, [AV.msl 1 0 n (9223372036854775808 : Nat) (1 : Nat)], [I 0], ints U] [] [] ∧ [AV.msl 0 0 n n (1 : Nat), AV.ptr 2 0, AV.msl 4 0 m (9223372036854775808 : Nat) (1 : Nat), I q, I mo, AV.msl 4 0 m (9223372036854775808 : Nat) (1 : Nat), I (↑m : Int), I (↑(i + (1 : Nat)) : Int)] = [AV.msl 0 0 n n (1 : Nat), AV.ptr 2 0, AV.msl 4 0 m (9223372036854775808 : Nat) (1 : Nat), I q, I mo, AV.msl 4 0 m (9223372036854775808 : Nat) (1 : Nat), I (↑m : Int), I (↑(i + (1 : Nat)) : Int)])) (by kernel_rfl) ?_⟩
      refine ⟨by first | with_reducible assumption | omega | assumption, ?_⟩
      refine ⟨by first | exact ixm0 (by kernel_rfl) hz' | exact ixm0_int (by kernel_rfl) m0 m1 | exact ixm0_int (by kernel_rfl) p0 p1, ?_⟩
      refine ⟨by first | exact ldm_ints (by kernel_rfl) (by kernel_rfl) hzU | exact ldm_ints (by kernel_rfl) (by kernel_rfl) mW | exact ldm_ints (by kernel_rfl) (by kernel_rfl) pT | exact ldm_ints (by kernel_rfl) (by kernel_rfl) pW, ?_⟩
      refine ⟨by first | exact ixm0 (by kernel_rfl) hz' | exact ixm0_int (by kernel_rfl) m0 m1 | exact ixm0_int (by kernel_rfl) p0 p1, ?_⟩
      refine ⟨by first | exact ldm_ints (by kernel_rfl) (by kernel_rfl) hzU | exact ldm_ints (by kernel_rfl) (by kernel_rfl) mW | exact ldm_ints (by kernel_rfl) (by kernel_rfl) pT | exact ldm_ints (by kernel_rfl) (by kernel_rfl) pW, ?_⟩
      refine ⟨by first | with_reducible assumption | omega | assumption, ?_⟩
      refine ⟨by first | exact ixm0 (by kernel_rfl) hz' | exact ixm0_int (by kernel_rfl) m0 m1 | exact ixm0_int (by kernel_rfl) p0 p1, ?_⟩
      refine ⟨by first | exact ldm_ints (by kernel_rfl) (by kernel_rfl) hzU | exact ldm_ints (by kernel_rfl) (by kernel_rfl) mW | exact ldm_ints (by kernel_rfl) (by kernel_rfl) pT | exact ldm_ints (by kernel_rfl) (by kernel_rfl) pW, ?_⟩
      refine ⟨by first | exact told_shl (by first | exact Int.natCast_nonneg _ | omega) (by with_reducible assumption) | exact told_shl (by omega) rfl, ?_⟩
      refine ⟨told_or (by with_reducible assumption), ?_⟩
      refine ⟨by first | exact ixm0 (by kernel_rfl) hz' | exact ixm0_int (by kernel_rfl) m0 m1 | exact ixm0_int (by kernel_rfl) p0 p1, ?_⟩
      refine ⟨by first | exact st_ints (by kernel_rfl) rfl pT | exact st_ints (by kernel_rfl) rfl pW, ?_⟩
      refine ⟨by first | exact ixm0 (by kernel_rfl) hz' | exact ixm0_int (by kernel_rfl) m0 m1 | exact ixm0_int (by kernel_rfl) p0 p1, ?_⟩
      refine ⟨by first | exact ldm_ints (by kernel_rfl) (by kernel_rfl) hzU | exact ldm_ints (by kernel_rfl) (by kernel_rfl) mW | exact ldm_ints (by kernel_rfl) (by kernel_rfl) pT | exact ldm_ints (by kernel_rfl) (by kernel_rfl) pW, ?_⟩
      refine ⟨told_sub (by with_reducible assumption), ?_⟩
      refine ⟨by first | exact ixm0 (by kernel_rfl) hz' | exact ixm0_int (by kernel_rfl) m0 m1 | exact ixm0_int (by kernel_rfl) p0 p1, ?_⟩
      refine ⟨by first | exact st_ints (by kernel_rfl) rfl pT | exact st_ints (by kernel_rfl) rfl pW, ?_⟩
      refine ⟨told_add (by with_reducible assumption), ?_⟩
      refine ⟨by first | with_reducible assumption | omega | assumption, ?_⟩
      refine ⟨by first | with_reducible assumption | omega | assumption, ?_⟩
      exact ⟨by rw [hs], rfl⟩
  · have hz : (m : Int) ≤ i := by omega
    have e : i = m := by omega
    subst e
    refine ⟨[Ans.o (Orc.b false)], fun u => of_eq ((↑i : Int) ≤ (↑i : Int) ∧ (73 : Nat) = (73 : Nat) ∧ hits [Out.mk Unit (AX.exit (2 : Nat)) [(3 : Nat), (4 : Nat), (5 : Nat), (6 : Nat)] (fun x => True) (fun x => [mT n, AV.ptr 2 0, mU i, I q]) (fun x => hU (stp mo U T W i).fst (stp mo U T W i).snd U n) fun x => []] (AX.exit (2 : Nat)) [u (0 : Nat), u (1 : Nat), u (2 : Nat), AV.msl 0 0 n n (1 : Nat), AV.ptr 2 0, AV.msl 4 0 i (9223372036854775808 : Nat) (1 : Nat), I q, I mo, u (8 : Nat), u (9 : Nat), u (10 : Nat), u (11 : Nat), u (12 : Nat), u (13 : Nat), u (14 : Nat), u (15 : Nat), u (16 : Nat), u (17 : Nat), u (18 : Nat), u (19 : Nat), u (20 : Nat), u (21 : Nat), u (22 : Nat), u (23 : Nat), u (24 : Nat), u (25 : Nat), u (26 : Nat), u (27 : Nat), u (28 : Nat), u (29 : Nat), u (30 : Nat), u (31 : Nat), u (32 : Nat), u (33 : Nat), u (34 : Nat), u (35 : Nat), AV.msl 4 0 i (9223372036854775808 : Nat) (1 : Nat), I (↑i : Int), I (↑i : Int), AV.bool false, u (40 : Nat), u (41 : Nat), u (42 : Nat), u (43 : Nat), u (44 : Nat), u (45 : Nat), u (46 : Nat), u (47 : Nat), u (48 : Nat), u (49 : Nat), u (50 : Nat), u (51 : Nat), u (52 : Nat), u (53 : Nat), u (54 : Nat), u (55 : Nat), u (56 : Nat), u (57 : Nat), u (58 : Nat), u (59 : Nat), u (60 : Nat), u (61 : Nat), u (62 : Nat), u (63 : Nat), u (64 : Nat), u (65 : Nat), u (66 : Nat), u (67 : Nat), u (68 : Nat), u (69 : Nat), u (70 : Nat), u (71 : Nat), u (72 : Nat)] (H.mk [ints (stp mo U T W i).fst, ints (stp mo U T W i).snd, [AV.msl 1 0 n (9223372036854775808 : Nat) (1 : Nat)], [I 0], ints U] [] [])) (by kernel_rfl) ?_⟩
    refine ⟨by first | with_reducible assumption | omega | assumption, ?_⟩
    refine ⟨by first | with_reducible assumption | omega | assumption, ?_⟩
    exact .inl ⟨(), trivial, rfl, rfl, rfl⟩
end Go.Proofs.Rnk

