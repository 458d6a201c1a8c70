/- Layer 7: the lines one after another, by the reference: all of them. -/
import Derived.Test.YtmgbglnljnlapaaOrAi
import Derived.KernelRfl
set_option linter.unusedSimpArgs false
set_option linter.unusedVariables false
set_option linter.unnecessarySimpa false
set_option maxHeartbeats 4000000
set_option maxRecDepth 100000
namespace Go.Proofs.Ord
open Go Go.VM
open Go.Proofs.Sur (andn andn_bit andn_le i_wrap i_and i_or i_andn i_shl i_shr bit_01)

theorem fl_len {A : Rel} (hi : Irr A) {n : Nat} (h6 : n ≤ 6) {m t : Nat} {b : List Nat} (ht : t < 2 ^ n) (hp : pc (cm n t) = m + 1) {k : Nat} (hk : k ≤ n) : (fl A n m t b k).length ≤ 50000 := by
  have e := lns_len hi h6 (m + 1) t b ht hp
  have s : ∀ k, (fl A n m t b k).length = _ := fun k => sum_flat (f := fun i => if okB A t i n = true then lns A n m (t ||| 2 ^ i) (b ++ [i]) else []) List.length rfl (fun _ _ => List.length_append) k
  have e2 : (fl A n m t b n).length = ct A n (cm n t) := e
  have e3 := ct_le h6 (cm_lt (t := t) h6) (A := A)
  have e4 := s n
  refine Nat.le_trans (Nat.le_trans (Nat.le_of_eq (s k)) (sumN_mono _ hk)) ?_
  omega
/-- the lines so far, and where they lie -/
def tkI (L : List (List Nat)) (va : AV) (h : H) : Prop := ∃ (j : Nat) (T : List Nat), (L ≠ [] → T[j]? = some (lr L).length) ∧ va = rwl L (rm j (lr L)) ∧ h = ⟨[], T, []⟩
abbrev o76 (L : List (List Nat)) : List Out := [.mk (Nat × List Nat) (.exit 0) [8] (fun y => L ≠ [] ∧ y.2[y.1]? = some (lr L).length) (fun y => [rwl L (rm y.1 (lr L))]) (fun y => ⟨[], y.2, []⟩) (fun _ => [])]
abbrev m76 : FuncId → Bool := fun i => i == 76
theorem simp76 : allSimpleM m76 (loopAt Try.f76 0) = true := by kernel_rfl
theorem lp76 (m : Nat) (ih : Ok76 m) (o : List Int) (r : Room) (t : Nat) (b : List Nat) (h : p76 (m + 1) o r t b) :
    LoopS (En6 [c73.to, (c76 m ih).to]) (loopAt Try.f76 0) 69 [0, 1, 2, 7, 8, 21, 22] [ls o r, I t, bg b (rr (kr b)), I (ic b).length, .sl [] 0 .nil, I o.length, I 0] ⟨[], [], []⟩ (o76 (v76 (m + 1) o t b)) := by
  have hR : Rests (En6 [c73.to, (c76 m ih).to]) m76 := rests mixed (.pure _ (.pure _ .nil))
  obtain ⟨h1, ht, hp, hbl⟩ := h
  have h6 := h1.1.s.2
  have hod := h1.1.od
  have p6 : 2 ^ o.length ≤ 2 ^ 6 := Nat.pow_le_pow_right (by decide) h6
  refine loop_s hR simp76 none (by intro _ h; cases h) (fun k vs H => ∃ va : AV, tkI (fl (rel o) o.length m t b k) va H ∧ vs = [ls o r, I t, bg b (rr (kr b)), I (ic b).length, va, I o.length, I k]) o.length ⟨_, ⟨0, [], fun q => absurd rfl q, rfl, rfl⟩, rfl⟩ (by intro _ h; cases h) ?_
  rintro k vs H hk ⟨va, ⟨j, T, hj, rfl, rfl⟩, rfl⟩
  have hLb := fl_len h1.1.i h6 (b := b) ht hp (k := k) hk
  by_cases hz : (k : Int) < o.length
  · have hz' : k < o.length := by omega
    have ev0 := wj1 (j := k) (by omega)
    have ev1 := i_shr (a := t) (n := k) (by omega)
    have hs := fl_succ (rel o) o.length m t b k
    have hm := ok_mn (A := rel o) (t := t) h6 hz'
    cases hv : t.testBit k
    · have ev2 : IntKind.i64.wrap ((BitVec.ofInt IntKind.i64.bits ((t >>> k : Nat) : Int) &&& BitVec.ofInt IntKind.i64.bits 1).toNat : Int) = 0 := by rw [i_bit (by omega), hv]; rfl
      have hl := lp76b m ih o r h1 t ht b (rwl (fl (rel o) o.length m t b k) (rm j (lr (fl (rel o) o.length m t b k)))) T k hz' true (by rw [okB, hv]; rfl)
      cases hf : okB (rel o) t k o.length
      · rw [if_neg (by rw [hf]; simp), List.append_nil] at hs
        refine ⟨[Ans.o (Orc.b true), Ans.o (Orc.val 27 (I (↑(t >>> k) : Int)) H.nil), Ans.o (Orc.val 28 (I 0) H.nil), Ans.o Orc.dflt, Ans.loop [(0 : Nat), (1 : Nat), (2 : Nat), (7 : Nat), (8 : Nat), (9 : Nat), (10 : Nat), (21 : Nat), (22 : Nat), (31 : Nat), (32 : Nat)] [Out.mk Unit (AX.exit (2 : Nat)) [(0 : Nat), (1 : Nat), (2 : Nat), (7 : Nat), (8 : Nat), (9 : Nat), (10 : Nat), (21 : Nat), (22 : Nat)] (fun x => True) (fun x => [ls o r, I (↑t : Int), bg b (rr (kr b)), I (↑(ic b).length : Int), rwl (fl (rel o) o.length m t b k) (rm j (lr (fl (rel o) o.length m t b k))), I (↑k : Int), AV.bool (okB (rel o) t k o.length), I (↑o.length : Int), I (↑k : Int)]) (fun x => H.mk [] T []) fun y => [Ans.btold (51 : Nat) false, Ans.o (Orc.val 67 (I (↑(k + (1 : Nat)) : Int)) H.nil)]]], fun u => of_eq ((↑k : Int) < (↑o.length : Int) ∧ aBin Try.prog BinOp.shr (3 : Nat) (I (↑t : Int)) (I (↑k : Int)) = some (I (↑(t >>> k) : Int)) ∧ aBin Try.prog BinOp.and (3 : Nat) (I (↑(t >>> k) : Int)) (I 1) = some (I 0) ∧ LoopS (Env.mk Try.prog (Sof [c73.to, (c76 m ih).to]) (Pof (P := Try.prog) []) H.nil.base (300 : Nat)) (loopAt Try.f76 (1 : Nat)) (69 : Nat) [(0 : Nat), (1 : Nat), (2 : Nat), (7 : Nat), (8 : Nat), (9 : Nat), (10 : Nat), (21 : Nat), (22 : Nat), (31 : Nat), (32 : Nat)] [AV.sl (ints o) o.length r, I (↑t : Int), AV.sl (ints (ic b)) (ic b).length (rr (kr b)), I (↑(ic b).length : Int), AV.sl (rowsA (lr (fl (rel o) o.length m t b k))) (lr (fl (rel o) o.length m t b k)).length (rm j (lr (fl (rel o) o.length m t b k))), I (↑k : Int), AV.bool true, I (↑o.length : Int), I (↑k : Int), I (↑o.length : Int), I 0] (H.mk [] T []) [Out.mk Unit (AX.exit (2 : Nat)) [(0 : Nat), (1 : Nat), (2 : Nat), (7 : Nat), (8 : Nat), (9 : Nat), (10 : Nat), (21 : Nat), (22 : Nat)] (fun x => True) (fun x => [ls o r, I (↑t : Int), bg b (rr (kr b)), I (↑(ic b).length : Int), rwl (fl (rel o) o.length m t b k) (rm j (lr (fl (rel o) o.length m t b k))), I (↑k : Int), AV.bool (okB (rel o) t k o.length), I (↑o.length : Int), I (↑k : Int)]) (fun x => H.mk [] T []) fun y => [Ans.btold (51 : Nat) false, Ans.o (Orc.val 67 (I (↑(k + (1 : Nat)) : Int)) H.nil)]] ∧ (∀ (y : Unit), True → ∀ (u : Nat → AV), okB (rel o) t k o.length = false ∧ aBin Try.prog BinOp.add (3 : Nat) (I (↑k : Int)) (I 1) = some (I (↑(k + (1 : Nat)) : Int)) ∧ (69 : Nat) = (69 : Nat) ∧ k < o.length ∧ Keep (∃ va, tkI (fl (rel o) o.length m t b (k + (1 : Nat))) va (H.mk [] T []) ∧ [AV.sl (ints o) o.length r, I (↑t : Int), AV.sl (ints (ic b)) (ic b).length (rr (kr b)), I (↑(ic b).length : Int), AV.sl (rowsA (lr (fl (rel o) o.length m t b k))) (lr (fl (rel o) o.length m t b k)).length (rm j (lr (fl (rel o) o.length m t b k))), I (↑o.length : Int), I (↑(k + (1 : Nat)) : Int)] = [AV.sl (ints o) o.length r, I (↑t : Int), AV.sl (ints (ic b)) (ic b).length (rr (kr b)), I (↑(ic b).length : Int), va, I (↑o.length : Int), I (↑(k + (1 : Nat)) : Int)])) ∧ True) (by kernel_rfl) ?_⟩
        refine ⟨by first | with_reducible assumption | omega | assumption, ?_⟩
        refine ⟨by first | exact told_shr (by first | exact Int.natCast_nonneg _ | omega) (by with_reducible assumption) | exact told_shr (by omega) rfl, ?_⟩
        refine ⟨told_and (by with_reducible assumption), ?_⟩
        refine ⟨hl, ?_⟩
        refine And.intro ?_ ?_
        · skip
          intro y
          intro w1
          intro u
          refine ⟨by first | with_reducible assumption | omega | assumption, ?_⟩
          refine ⟨told_add (by with_reducible assumption), ?_⟩
          refine ⟨by first | with_reducible assumption | omega | assumption, ?_⟩
          refine ⟨by first | with_reducible assumption | omega | assumption, ?_⟩
          exact ⟨_, ⟨j, T, by rw [hs]; exact hj, rfl, rfl⟩, by rw [hs]⟩
        · skip
          trivial
      · rw [if_pos hf] at hs
        have ev3 := pw_shl (n := k) (by omega)
        have p2 : 2 ^ k < 64 := Nat.lt_of_lt_of_le (Nat.pow_lt_pow_right (by decide : 1 < 2) (show k < 6 by omega)) (by decide)
        have ev4 := i_orv (show (t : Int) = (t : Nat) from rfl) (show ((2 ^ k : Nat) : Int) = ((2 ^ k : Nat) : Int) from rfl) (by omega) p2
        have hcb : (cm o.length t).testBit k = true := by rw [cm_bit h6, hv]; simp [hz']
        have hpc := pc_clr (cm_big (t := t) h6) (show k < 6 by omega) hcb
        have hto : t ||| 2 ^ k < 2 ^ o.length := Nat.or_lt_two_pow ht (Nat.pow_lt_pow_right (by decide) hz')
        have hpp : pc (cm o.length (t ||| 2 ^ k)) = m := by rw [cm_or h6]; omega
        have hbl2 : (b ++ [k]).length + m = o.length := by rw [List.length_append, List.length_singleton]; omega
        have hq : p76 m o r (t ||| 2 ^ k) (b ++ [k]) := ⟨h1, hto, hpp, hbl2⟩
        have hwk : (Room.tok T.length 1).wk = rr (kr (b ++ [k])) := by rw [kr_app]; rfl
        have hml := lns_len h1.1.i h6 m (t ||| 2 ^ k) (b ++ [k]) hto hpp
        have hm1 := ct_pos hod.tr hod.irr _ _ (Nat.le_refl _) (cm_big (t := t ||| 2 ^ k) h6) (cm_lt (t := t ||| 2 ^ k) h6)
        have hm2 := ct_le h6 (cm_lt (t := t ||| 2 ^ k) h6) (A := rel o)
        have hS := sl3 (P := Try.prog) (t := 23) (e := 3) (by kernel_rfl) (by kernel_rfl) b ⟨[], T, []⟩
        have hA1 := ap1 (P := Try.prog) (t := 23) (by kernel_rfl) b k T (by omega)
        obtain ⟨j', T', hA2, hj'⟩ := ap2 (P := Try.prog) (t := 38) (by kernel_rfl) (fl (rel o) o.length m t b k) (v76 m o (orr t k) (b ++ [k])) j T (by rw [hml]; omega) hLb (by rw [hml]; omega) hj (b.length + 1)
        refine ⟨[Ans.o (Orc.b true), Ans.o (Orc.val 27 (I (↑(t >>> k) : Int)) H.nil), Ans.o (Orc.val 28 (I 0) H.nil), Ans.o Orc.dflt, Ans.loop [(0 : Nat), (1 : Nat), (2 : Nat), (7 : Nat), (8 : Nat), (9 : Nat), (10 : Nat), (21 : Nat), (22 : Nat), (31 : Nat), (32 : Nat)] [Out.mk Unit (AX.exit (2 : Nat)) [(0 : Nat), (1 : Nat), (2 : Nat), (7 : Nat), (8 : Nat), (9 : Nat), (10 : Nat), (21 : Nat), (22 : Nat)] (fun x => True) (fun x => [ls o r, I (↑t : Int), bg b (rr (kr b)), I (↑(ic b).length : Int), rwl (fl (rel o) o.length m t b k) (rm j (lr (fl (rel o) o.length m t b k))), I (↑k : Int), AV.bool (okB (rel o) t k o.length), I (↑o.length : Int), I (↑k : Int)]) (fun x => H.mk [] T []) fun y => [Ans.btold (51 : Nat) true, Ans.o (Orc.val 56 (I (↑((2 : Nat) ^ k) : Int)) H.nil), Ans.o (Orc.val 57 (I (↑(t ||| (2 : Nat) ^ k) : Int)) H.nil), Ans.o (Orc.val 61 (bg b (rf b)) H.nil), Ans.o (Orc.val 64 (bg (b ++ [k]) (Room.tok T.length (1 : Nat))) (H.mk [] (T ++ [b.length + (1 : Nat)]) [])), Ans.o (Orc.val 65 (AV.sl (rowsA (lr (v76 m o (t ||| (2 : Nat) ^ k) (b ++ [k])))) (lr (v76 m o (t ||| (2 : Nat) ^ k) (b ++ [k]))).length Room.no) (H.mk [] (T ++ [b.length + (1 : Nat)]) [])), Ans.o (Orc.val 66 (rwl (fl (rel o) o.length m t b k ++ v76 m o (orr t k) (b ++ [k])) (rm j' (lr (fl (rel o) o.length m t b k ++ v76 m o (orr t k) (b ++ [k]))))) (H.mk [] T' [])), Ans.o (Orc.val 67 (I (↑(k + (1 : Nat)) : Int)) H.nil)]]], fun u => of_eq ((↑k : Int) < (↑o.length : Int) ∧ aBin Try.prog BinOp.shr (3 : Nat) (I (↑t : Int)) (I (↑k : Int)) = some (I (↑(t >>> k) : Int)) ∧ aBin Try.prog BinOp.and (3 : Nat) (I (↑(t >>> k) : Int)) (I 1) = some (I 0) ∧ LoopS (Env.mk Try.prog (Sof [c73.to, (c76 m ih).to]) (Pof (P := Try.prog) []) H.nil.base (300 : Nat)) (loopAt Try.f76 (1 : Nat)) (69 : Nat) [(0 : Nat), (1 : Nat), (2 : Nat), (7 : Nat), (8 : Nat), (9 : Nat), (10 : Nat), (21 : Nat), (22 : Nat), (31 : Nat), (32 : Nat)] [AV.sl (ints o) o.length r, I (↑t : Int), AV.sl (ints (ic b)) (ic b).length (rr (kr b)), I (↑(ic b).length : Int), AV.sl (rowsA (lr (fl (rel o) o.length m t b k))) (lr (fl (rel o) o.length m t b k)).length (rm j (lr (fl (rel o) o.length m t b k))), I (↑k : Int), AV.bool true, I (↑o.length : Int), I (↑k : Int), I (↑o.length : Int), I 0] (H.mk [] T []) [Out.mk Unit (AX.exit (2 : Nat)) [(0 : Nat), (1 : Nat), (2 : Nat), (7 : Nat), (8 : Nat), (9 : Nat), (10 : Nat), (21 : Nat), (22 : Nat)] (fun x => True) (fun x => [ls o r, I (↑t : Int), bg b (rr (kr b)), I (↑(ic b).length : Int), rwl (fl (rel o) o.length m t b k) (rm j (lr (fl (rel o) o.length m t b k))), I (↑k : Int), AV.bool (okB (rel o) t k o.length), I (↑o.length : Int), I (↑k : Int)]) (fun x => H.mk [] T []) fun y => [Ans.btold (51 : Nat) true, Ans.o (Orc.val 56 (I (↑((2 : Nat) ^ k) : Int)) H.nil), Ans.o (Orc.val 57 (I (↑(t ||| (2 : Nat) ^ k) : Int)) H.nil), Ans.o (Orc.val 61 (bg b (rf b)) H.nil), Ans.o (Orc.val 64 (bg (b ++ [k]) (Room.tok T.length (1 : Nat))) (H.mk [] (T ++ [b.length + (1 : Nat)]) [])), Ans.o (Orc.val 65 (AV.sl (rowsA (lr (v76 m o (t ||| (2 : Nat) ^ k) (b ++ [k])))) (lr (v76 m o (t ||| (2 : Nat) ^ k) (b ++ [k]))).length Room.no) (H.mk [] (T ++ [b.length + (1 : Nat)]) [])), Ans.o (Orc.val 66 (rwl (fl (rel o) o.length m t b k ++ v76 m o (orr t k) (b ++ [k])) (rm j' (lr (fl (rel o) o.length m t b k ++ v76 m o (orr t k) (b ++ [k]))))) (H.mk [] T' [])), Ans.o (Orc.val 67 (I (↑(k + (1 : Nat)) : Int)) H.nil)]] ∧ (∀ (y : Unit), True → ∀ (u : Nat → AV), okB (rel o) t k o.length = true ∧ aBin Try.prog BinOp.shl (3 : Nat) (I 1) (I (↑k : Int)) = some (I (↑((2 : Nat) ^ k) : Int)) ∧ aBin Try.prog BinOp.or (3 : Nat) (I (↑t : Int)) (I (↑((2 : Nat) ^ k) : Int)) = some (I (↑(t ||| (2 : Nat) ^ k) : Int)) ∧ aSlice Try.prog (23 : Nat) (AV.sl (ints (ic b)) (ic b).length (rr (kr b))) none (some (I (↑(ic b).length : Int))) (some (I (↑(ic b).length : Int))) (H.mk [] T []) = some (AV.sl (ints (ic b)) (ic b).length (rf b)) ∧ aAppend Try.prog (23 : Nat) (23 : Nat) (AV.sl (ints (ic b)) (ic b).length (rf b)) (AV.sl [I (↑k : Int)] (1 : Nat) Room.full) (H.mk [] T []) = some (AV.sl (ints (ic (b ++ [k]))) (ic (b ++ [k])).length (Room.tok T.length (1 : Nat)), H.mk [] (T ++ [b.length + (1 : Nat)]) []) ∧ aCall (Sof [c73.to, (c76 m ih).to]) (AV.fn (Fn.func (76 : Nat)) [] []) [AV.sl (ints o) o.length r, I (↑(t ||| (2 : Nat) ^ k) : Int), AV.sl (ints (ic (b ++ [k]))) (ic (b ++ [k])).length (Room.tok T.length (1 : Nat))] (H.mk [] (T ++ [b.length + (1 : Nat)]) []) = some (AV.sl (rowsA (lr (v76 m o (t ||| (2 : Nat) ^ k) (b ++ [k])))) (lr (v76 m o (t ||| (2 : Nat) ^ k) (b ++ [k]))).length Room.no, H.mk [] (T ++ [b.length + (1 : Nat)]) []) ∧ aAppend Try.prog (38 : Nat) (38 : Nat) (AV.sl (rowsA (lr (fl (rel o) o.length m t b k))) (lr (fl (rel o) o.length m t b k)).length (rm j (lr (fl (rel o) o.length m t b k)))) (AV.sl (rowsA (lr (v76 m o (t ||| (2 : Nat) ^ k) (b ++ [k])))) (lr (v76 m o (t ||| (2 : Nat) ^ k) (b ++ [k]))).length Room.no) (H.mk [] (T ++ [b.length + (1 : Nat)]) []) = some (AV.sl (rowsA (lr (fl (rel o) o.length m t b k ++ v76 m o (orr t k) (b ++ [k])))) (lr (fl (rel o) o.length m t b k ++ v76 m o (orr t k) (b ++ [k]))).length (rm j' (lr (fl (rel o) o.length m t b k ++ v76 m o (orr t k) (b ++ [k])))), H.mk [] T' []) ∧ aBin Try.prog BinOp.add (3 : Nat) (I (↑k : Int)) (I 1) = some (I (↑(k + (1 : Nat)) : Int)) ∧ (69 : Nat) = (69 : Nat) ∧ k < o.length ∧ Keep (∃ va, tkI (fl (rel o) o.length m t b (k + (1 : Nat))) va (H.mk [] T' []) ∧ [AV.sl (ints o) o.length r, I (↑t : Int), AV.sl (ints (ic b)) (ic b).length (rr (kr b)), I (↑(ic b).length : Int), AV.sl (rowsA (lr (fl (rel o) o.length m t b k ++ v76 m o (orr t k) (b ++ [k])))) (lr (fl (rel o) o.length m t b k ++ v76 m o (orr t k) (b ++ [k]))).length (rm j' (lr (fl (rel o) o.length m t b k ++ v76 m o (orr t k) (b ++ [k])))), I (↑o.length : Int), I (↑(k + (1 : Nat)) : Int)] = [AV.sl (ints o) o.length r, I (↑t : Int), AV.sl (ints (ic b)) (ic b).length (rr (kr b)), I (↑(ic b).length : Int), va, I (↑o.length : Int), I (↑(k + (1 : Nat)) : Int)])) ∧ True) (by kernel_rfl) ?_⟩
        refine ⟨by first | with_reducible assumption | omega | assumption, ?_⟩
        refine ⟨by first | exact told_shr (by first | exact Int.natCast_nonneg _ | omega) (by with_reducible assumption) | exact told_shr (by omega) rfl, ?_⟩
        refine ⟨told_and (by with_reducible assumption), ?_⟩
        refine ⟨hl, ?_⟩
        refine And.intro ?_ ?_
        · skip
          intro y
          intro w1
          intro u
          refine ⟨by first | with_reducible assumption | omega | assumption, ?_⟩
          refine ⟨by first | exact told_shl (by first | exact Int.natCast_nonneg _ | omega) (by with_reducible assumption) | exact told_shl (by omega) rfl, ?_⟩
          refine ⟨told_or (by with_reducible assumption), ?_⟩
          refine ⟨hS, ?_⟩
          refine ⟨by first | exact hA1 | exact hA2, ?_⟩
          refine ⟨acall_hit (c := (c76 m ih).to) ((o, r), orr t k, b ++ [k], Room.tok T.length 1) _ rfl ⟨hq, hwk⟩, ?_⟩
          refine ⟨by first | exact hA1 | exact hA2, ?_⟩
          refine ⟨told_add (by with_reducible assumption), ?_⟩
          refine ⟨by first | with_reducible assumption | omega | assumption, ?_⟩
          refine ⟨by first | with_reducible assumption | omega | assumption, ?_⟩
          exact ⟨_, ⟨j', T', fun _ => by rw [hs]; exact hj', rfl, rfl⟩, by rw [hs]⟩
        · skip
          trivial
    · have ev2 : IntKind.i64.wrap ((BitVec.ofInt IntKind.i64.bits ((t >>> k : Nat) : Int) &&& BitVec.ofInt IntKind.i64.bits 1).toNat : Int) = 1 := by rw [i_bit (by omega), hv]; rfl
      have hl := lp76b m ih o r h1 t ht b (rwl (fl (rel o) o.length m t b k) (rm j (lr (fl (rel o) o.length m t b k)))) T k hz' false (by rw [okB, hv]; rfl)
      have hf : okB (rel o) t k o.length = false := by
        cases q : okB (rel o) t k o.length
        · rfl
        · have := (okB_iff.1 q).1; rw [hv] at this; cases this
      rw [if_neg (by rw [hf]; simp), List.append_nil] at hs
      refine ⟨[Ans.o (Orc.b true), Ans.o (Orc.val 27 (I (↑(t >>> k) : Int)) H.nil), Ans.o (Orc.val 28 (I 1) H.nil), Ans.o Orc.dflt, Ans.loop [(0 : Nat), (1 : Nat), (2 : Nat), (7 : Nat), (8 : Nat), (9 : Nat), (10 : Nat), (21 : Nat), (22 : Nat), (31 : Nat), (32 : Nat)] [Out.mk Unit (AX.exit (2 : Nat)) [(0 : Nat), (1 : Nat), (2 : Nat), (7 : Nat), (8 : Nat), (9 : Nat), (10 : Nat), (21 : Nat), (22 : Nat)] (fun x => True) (fun x => [ls o r, I (↑t : Int), bg b (rr (kr b)), I (↑(ic b).length : Int), rwl (fl (rel o) o.length m t b k) (rm j (lr (fl (rel o) o.length m t b k))), I (↑k : Int), AV.bool (okB (rel o) t k o.length), I (↑o.length : Int), I (↑k : Int)]) (fun x => H.mk [] T []) fun y => [Ans.btold (51 : Nat) false, Ans.o (Orc.val 67 (I (↑(k + (1 : Nat)) : Int)) H.nil)]]], fun u => of_eq ((↑k : Int) < (↑o.length : Int) ∧ aBin Try.prog BinOp.shr (3 : Nat) (I (↑t : Int)) (I (↑k : Int)) = some (I (↑(t >>> k) : Int)) ∧ aBin Try.prog BinOp.and (3 : Nat) (I (↑(t >>> k) : Int)) (I 1) = some (I 1) ∧ LoopS (Env.mk Try.prog (Sof [c73.to, (c76 m ih).to]) (Pof (P := Try.prog) []) H.nil.base (300 : Nat)) (loopAt Try.f76 (1 : Nat)) (69 : Nat) [(0 : Nat), (1 : Nat), (2 : Nat), (7 : Nat), (8 : Nat), (9 : Nat), (10 : Nat), (21 : Nat), (22 : Nat), (31 : Nat), (32 : Nat)] [AV.sl (ints o) o.length r, I (↑t : Int), AV.sl (ints (ic b)) (ic b).length (rr (kr b)), I (↑(ic b).length : Int), AV.sl (rowsA (lr (fl (rel o) o.length m t b k))) (lr (fl (rel o) o.length m t b k)).length (rm j (lr (fl (rel o) o.length m t b k))), I (↑k : Int), AV.bool false, I (↑o.length : Int), I (↑k : Int), I (↑o.length : Int), I 0] (H.mk [] T []) [Out.mk Unit (AX.exit (2 : Nat)) [(0 : Nat), (1 : Nat), (2 : Nat), (7 : Nat), (8 : Nat), (9 : Nat), (10 : Nat), (21 : Nat), (22 : Nat)] (fun x => True) (fun x => [ls o r, I (↑t : Int), bg b (rr (kr b)), I (↑(ic b).length : Int), rwl (fl (rel o) o.length m t b k) (rm j (lr (fl (rel o) o.length m t b k))), I (↑k : Int), AV.bool (okB (rel o) t k o.length), I (↑o.length : Int), I (↑k : Int)]) (fun x => H.mk [] T []) fun y => [Ans.btold (51 : Nat) false, Ans.o (Orc.val 67 (I (↑(k + (1 : Nat)) : Int)) H.nil)]] ∧ (∀ (y : Unit), True → ∀ (u : Nat → AV), okB (rel o) t k o.length = false ∧ aBin Try.prog BinOp.add (3 : Nat) (I (↑k : Int)) (I 1) = some (I (↑(k + (1 : Nat)) : Int)) ∧ (69 : Nat) = (69 : Nat) ∧ k < o.length ∧ Keep (∃ va, tkI (fl (rel o) o.length m t b (k + (1 : Nat))) va (H.mk [] T []) ∧ [AV.sl (ints o) o.length r, I (↑t : Int), AV.sl (ints (ic b)) (ic b).length (rr (kr b)), I (↑(ic b).length : Int), AV.sl (rowsA (lr (fl (rel o) o.length m t b k))) (lr (fl (rel o) o.length m t b k)).length (rm j (lr (fl (rel o) o.length m t b k))), I (↑o.length : Int), I (↑(k + (1 : Nat)) : Int)] = [AV.sl (ints o) o.length r, I (↑t : Int), AV.sl (ints (ic b)) (ic b).length (rr (kr b)), I (↑(ic b).length : Int), va, I (↑o.length : Int), I (↑(k + (1 : Nat)) : Int)])) ∧ True) (by kernel_rfl) ?_⟩
      refine ⟨by first | with_reducible assumption | omega | assumption, ?_⟩
      refine ⟨by first | exact told_shr (by first | exact Int.natCast_nonneg _ | omega) (by with_reducible assumption) | exact told_shr (by omega) rfl, ?_⟩
      refine ⟨told_and (by with_reducible assumption), ?_⟩
      refine ⟨hl, ?_⟩
      refine And.intro ?_ ?_
      · skip
        intro y
        intro w1
        intro u
        refine ⟨by first | with_reducible assumption | omega | assumption, ?_⟩
        refine ⟨told_add (by with_reducible assumption), ?_⟩
        refine ⟨by first | with_reducible assumption | omega | assumption, ?_⟩
        refine ⟨by first | with_reducible assumption | omega | assumption, ?_⟩
        exact ⟨_, ⟨j, T, by rw [hs]; exact hj, rfl, rfl⟩, by rw [hs]⟩
      · skip
        trivial
  · have hz : (o.length : Int) ≤ k := by omega
    have hk' : k = o.length := by omega
    subst hk'
    have hne : v76 (m + 1) o t b ≠ [] := by
      have e := lns_len h1.1.i h6 (m + 1) t b ht hp
      have := ct_pos hod.tr hod.irr _ _ (Nat.le_refl _) (cm_big (t := t) h6) (cm_lt (t := t) h6)
      intro q
      rw [show lns (rel o) o.length (m + 1) t b = [] from q] at e
      simp only [List.length_nil] at e; omega
    refine ⟨[Ans.o (Orc.b false)], fun u => of_eq ((↑o.length : Int) ≤ (↑o.length : Int) ∧ (69 : Nat) = (69 : Nat) ∧ hits [Out.mk (Nat × List Nat) (AX.exit (0 : Nat)) [(8 : Nat)] (fun y => v76 (m + (1 : Nat)) o t b ≠ [] ∧ y.snd[y.fst]? = some (lr (v76 (m + (1 : Nat)) o t b)).length) (fun y => [rwl (v76 (m + (1 : Nat)) o t b) (rm y.fst (lr (v76 (m + (1 : Nat)) o t b)))]) (fun y => H.mk [] y.snd []) fun x => []] (AX.exit (0 : Nat)) [AV.sl (ints o) o.length r, I (↑t : Int), AV.sl (ints (ic b)) (ic b).length (rr (kr b)), u (3 : Nat), u (4 : Nat), u (5 : Nat), u (6 : Nat), I (↑(ic b).length : Int), AV.sl (rowsA (lr (fl (rel o) o.length m t b o.length))) (lr (fl (rel o) o.length m t b o.length)).length (rm j (lr (fl (rel o) o.length m t b o.length))), u (9 : Nat), u (10 : Nat), u (11 : Nat), u (12 : Nat), u (13 : Nat), u (14 : Nat), u (15 : Nat), u (16 : Nat), u (17 : Nat), u (18 : Nat), u (19 : Nat), u (20 : Nat), I (↑o.length : Int), I (↑o.length : Int), AV.bool false, u (24 : Nat), u (25 : Nat), u (26 : Nat), u (27 : Nat), u (28 : Nat), u (29 : Nat), u (30 : Nat), u (31 : Nat), u (32 : Nat), u (33 : Nat), u (34 : Nat), u (35 : Nat), u (36 : Nat), u (37 : Nat), u (38 : Nat), u (39 : Nat), u (40 : Nat), u (41 : Nat), u (42 : Nat), u (43 : Nat), u (44 : Nat), u (45 : Nat), u (46 : Nat), u (47 : Nat), u (48 : Nat), u (49 : Nat), u (50 : Nat), u (51 : Nat), u (52 : Nat), u (53 : Nat), u (54 : Nat), u (55 : Nat), u (56 : Nat), u (57 : Nat), u (58 : Nat), u (59 : Nat), u (60 : Nat), u (61 : Nat), u (62 : Nat), u (63 : Nat), u (64 : Nat), u (65 : Nat), u (66 : Nat), u (67 : Nat), u (68 : Nat)] (H.mk [] T [])) (by kernel_rfl) ?_⟩
    refine ⟨by first | with_reducible assumption | omega | assumption, ?_⟩
    refine ⟨by first | with_reducible assumption | omega | assumption, ?_⟩
    exact .inl ⟨(j, T), ⟨hne, hj hne⟩, rfl, rfl, rfl⟩
theorem ok76 : FokM Try.prog m76 76 Try.f76 := ⟨mixed, by kernel_rfl, by kernel_rfl, by kernel_rfl, by kernel_rfl⟩
theorem r76 (m : Nat) (ih : Ok76 m) (o : List Int) (r : Room) (t : Nat) (b : List Nat) (h : p76 (m + 1) o r t b) : Body (En6 [c73.to, (c76 m ih).to]) m76 Try.f76 [ls o r, I t, bg b (rr (kr b))] .nil (rwl (v76 (m + 1) o t b) (.tok 0 1), ⟨[], [(lr (v76 (m + 1) o t b)).length], []⟩) := by
  have hne : (((ic b).length : Nat) : Int) ≠ (o.length : Int) := by rw [List.length_map]; have := h.2.2.2; omega
  have hl := lp76 m ih o r t b h
  refine body_s ([Ans.o (Orc.b false), Ans.loop [(0 : Nat), (1 : Nat), (2 : Nat), (7 : Nat), (8 : Nat), (21 : Nat), (22 : Nat)] [Out.mk (Nat × List Nat) (AX.exit (0 : Nat)) [(8 : Nat)] (fun y => v76 (m + (1 : Nat)) o t b ≠ [] ∧ y.snd[y.fst]? = some (lr (v76 (m + (1 : Nat)) o t b)).length) (fun y => [rwl (v76 (m + (1 : Nat)) o t b) (rm y.fst (lr (v76 (m + (1 : Nat)) o t b)))]) (fun y => H.mk [] y.snd []) fun y => []]]) ((↑(ic b).length : Int) ≠ (↑o.length : Int) ∧ LoopS (Env.mk Try.prog (Sof [c73.to, (c76 m ih).to]) (Pof (P := Try.prog) []) H.nil.base (300 : Nat)) (loopAt Try.f76 (0 : Nat)) (69 : Nat) [(0 : Nat), (1 : Nat), (2 : Nat), (7 : Nat), (8 : Nat), (21 : Nat), (22 : Nat)] [AV.sl (ints o) o.length r, I (↑t : Int), AV.sl (ints (ic b)) (ic b).length (rr (kr b)), I (↑(ic b).length : Int), AV.sl [] (0 : Nat) Room.nil, I (↑o.length : Int), I 0] (H.mk [] [] []) [Out.mk (Nat × List Nat) (AX.exit (0 : Nat)) [(8 : Nat)] (fun y => v76 (m + (1 : Nat)) o t b ≠ [] ∧ y.snd[y.fst]? = some (lr (v76 (m + (1 : Nat)) o t b)).length) (fun y => [rwl (v76 (m + (1 : Nat)) o t b) (rm y.fst (lr (v76 (m + (1 : Nat)) o t b)))]) (fun y => H.mk [] y.snd []) fun y => []] ∧ (∀ (y : Nat × List Nat), v76 (m + (1 : Nat)) o t b ≠ [] ∧ y.snd[y.fst]? = some (lr (v76 (m + (1 : Nat)) o t b)).length → ∀ (u : Nat → AV), leave (Base.mk H.nil.blk.length H.nil.toks.length H.nil.maps.length) (AV.sl (rowsA (lr (v76 (m + (1 : Nat)) o t b))) (lr (v76 (m + (1 : Nat)) o t b)).length (rm y.fst (lr (v76 (m + (1 : Nat)) o t b)))) (H.mk [] y.snd []) = (AV.sl (rowsA (lr (v76 (m + (1 : Nat)) o t b))) (lr (v76 (m + (1 : Nat)) o t b)).length (Room.tok 0 1), H.mk [] [(lr (v76 (m + (1 : Nat)) o t b)).length] [])) ∧ True) (by kernel_rfl) ?_
  refine ⟨by first | with_reducible assumption | omega | assumption, ?_⟩
  refine ⟨hl, ?_⟩
  refine And.intro ?_ ?_
  · skip
    intro y
    intro w1
    intro u
    exact leave_rt _ _ _ w1.1 w1.2
  · skip
    trivial
theorem leave_1 (b : List Nat) : leave ⟨0, 0, 0⟩ (.sl [bg b (rr (kr b))] 1 .full) ⟨[], [], []⟩ = (rwl [b] .full, .nil) := by
  have hb := rowsA_bnds' [(ic b, kr b)] 0 0 0
  show leave ⟨0, 0, 0⟩ (.sl (rowsA [(ic b, kr b)]) 1 .full) ⟨[], [], []⟩ = (.sl (rowsA [(ic b, kr b)]) 1 .full, .nil)
  generalize rowsA [(ic b, kr b)] = c at hb ⊢
  simp [leave, AV.bnd, Room.bnd, hb, H.nil]
theorem r76z (o : List Int) (r : Room) (t : Nat) (b : List Nat) (h : b.length = o.length) : Body (En6 []) m76 Try.f76 [ls o r, I t, bg b (rr (kr b))] .nil (rwl (v76 0 o t b) .full, .nil) := by
  have he : (((ic b).length : Nat) : Int) = (o.length : Int) := by rw [List.length_map]; omega
  refine body_s ([Ans.o (Orc.b true)]) ((↑(ic b).length : Int) = (↑o.length : Int) ∧ leave (Base.mk H.nil.blk.length H.nil.toks.length H.nil.maps.length) (AV.sl [AV.sl (ints (ic b)) (ic b).length (rr (kr b))] (1 : Nat) Room.full) (H.mk [] [] []) = (AV.sl (rowsA (lr (v76 (0 : Nat) o t b))) (1 : Nat) Room.full, H.mk [] [] [])) (by kernel_rfl) ?_
  refine ⟨by first | with_reducible assumption | omega | assumption, ?_⟩
  exact leave_1 b
end Go.Proofs.Ord

