/- Layer 2: kings, by the reference. -/
import Derived.Test.YtnnhomkkggkkfaaDoorRkJ
import Derived.KernelRfl
set_option linter.unusedSimpArgs false
set_option linter.unusedVariables false
set_option linter.unnecessarySimpa false
set_option maxHeartbeats 4000000
set_option maxRecDepth 100000
namespace Go.Proofs.Rnk
open Go Go.VM
open Go.Proofs.Sur (andn andn_bit andn_le i_wrap i_and i_or i_andn i_shl i_shr bit_01)

/-- a player, whom it beats, and whom those of them among the first j beat -/
def rkR (t : List Int) (i : Nat) : Nat → Nat
  | 0 => sn t i ||| 2 ^ i
  | j + 1 => if bt t i j = true then rkR t i j ||| sn t j else rkR t i j
theorem rkR_lt {t : List Int} (h : Tn t) {i : Nat} (hi : i < 8) : ∀ j, rkR t i j < 256
  | 0 => Nat.or_lt_two_pow (n := 8) (h.sn i).1 (Nat.pow_lt_pow_right (by decide) hi)
  | j + 1 => by
    simp only [rkR]; split
    · exact Nat.or_lt_two_pow (n := 8) (rkR_lt h hi j) (h.sn j).1
    · exact rkR_lt h hi j
theorem rkR_bit {t : List Int} {i b : Nat} : ∀ j, (rkR t i j).testBit b = true ↔ b = i ∨ bt t i b = true ∨ ∃ e, e < j ∧ bt t i e = true ∧ bt t e b = true
  | 0 => by
    simp only [rkR, Nat.testBit_or, Nat.testBit_two_pow, Bool.or_eq_true, decide_eq_true_eq]
    constructor
    · rintro (h | h)
      · exact .inr (.inl h)
      · exact .inl h.symm
    · rintro (h | h | ⟨j, hj, _⟩)
      · exact .inr h.symm
      · exact .inl h
      · omega
  | j + 1 => by
    have ih := @rkR_bit t i b j
    simp only [rkR]
    split
    · rename_i c
      rw [Nat.testBit_or, Bool.or_eq_true, ih]
      constructor
      · rintro ((h | h | ⟨e, he, h⟩) | h)
        · exact .inl h
        · exact .inr (.inl h)
        · exact .inr (.inr ⟨e, by omega, h⟩)
        · exact .inr (.inr ⟨j, by omega, c, h⟩)
      · rintro (h | h | ⟨e, he, h⟩)
        · exact .inl (.inl h)
        · exact .inl (.inr (.inl h))
        · rcases Nat.lt_or_ge e j with w | w
          · exact .inl (.inr (.inr ⟨e, w, h⟩))
          · have : e = j := by omega
            subst this; exact .inr h.2
    · rename_i c
      rw [ih]
      constructor
      · rintro (h | h | ⟨e, he, h⟩)
        · exact .inl h
        · exact .inr (.inl h)
        · exact .inr (.inr ⟨e, by omega, h⟩)
      · rintro (h | h | ⟨e, he, h⟩)
        · exact .inl h
        · exact .inr (.inl h)
        · rcases Nat.lt_or_ge e j with w | w
          · exact .inr (.inr ⟨e, w, h⟩)
          · have : e = j := by omega
            subst this; exact absurd h.1 c
theorem rkR_eq {t : List Int} (h : Tn t) (i : Nat) : rkR t i t.length = nrE t i := by
  apply Nat.eq_of_testBit_eq; intro b
  have h1 := @rkR_bit t i b t.length
  have h2 := nrE_bit h (p := i) (b := b)
  have : (rkR t i t.length).testBit b = true ↔ (nrE t i).testBit b = true := by
    rw [h1, h2]
    constructor
    · rintro (q | q | ⟨e, _, q⟩)
      · exact .inl q
      · exact .inr (.inl q)
      · exact .inr (.inr ⟨e, q⟩)
    · rintro (q | q | ⟨e, q1, q2⟩)
      · exact .inl q
      · exact .inr (.inl q)
      · exact .inr (.inr ⟨e, (h.lt q1).2, q1, q2⟩)
  cases c : (rkR t i t.length).testBit b <;> cases d : (nrE t i).testBit b <;> simp_all
abbrev o34b (t : List Int) (r : Room) (i : Nat) (K : Int) : List Out := [.mk Unit (.exit 2) [0, 3, 4, 6, 8, 9, 10] (fun _ => True) (fun _ => [ls t r, I K, I i, I (rkR t i t.length : Nat), ls t r, I t.length, I i]) (fun _ => .nil) (fun _ => [])]
theorem simp34b : allSimpleM none1 (loopAt Tryd.f34 1) = true := by kernel_rfl
theorem lp34b (t : List Int) (r : Room) (h : Tn t) (hr : rok t r) (i : Nat) (hi : i < t.length) (K : Int) :
    LoopS (En6 []) (loopAt Tryd.f34 1) 48 [0, 3, 4, 5, 6, 8, 9, 10, 20, 21] [ls t r, I K, I i, I (ia t i), I (rkR t i 0 : Nat), ls t r, I t.length, I i, I t.length, I 0] .nil (o34b t r i K) := by
  have hR : Rests (En6 []) none1 := rests mixed .nil
  have h8 := h.s.2
  refine loop_s hR simp34b none (by intro _ h; cases h) (fun j vs h => h = .nil ∧ vs = [ls t r, I K, I i, I (ia t i), I (rkR t i j : Nat), ls t r, I t.length, I i, I t.length, I j]) t.length ⟨rfl, rfl⟩ (by intro _ h; cases h) ?_
  rintro j vs h' hj ⟨rfl, rfl⟩
  by_cases hz : (j : Int) < t.length
  · have hz' : j < t.length := by omega
    have hri := rok_idx hr hz'
    have ev0 := wj1 (j := j) (by omega)
    cases hb : bt t i j
    · have hk : rkR t i (j + 1) = rkR t i j := by simp only [rkR]; rw [if_neg (by rw [hb]; simp)]
      obtain ⟨ev1, ev2⟩ := i_bit0 (h.s8 i) (show j ≤ 64 by omega) hb
      refine ⟨[Ans.o (Orc.b true), Ans.o (Orc.val 26 (I (↑((ia t i).toNat >>> j) : Int)) H.nil), Ans.o (Orc.val 27 (I 0) H.nil), Ans.o Orc.dflt, Ans.o (Orc.val 35 (I (↑(j + (1 : Nat)) : Int)) H.nil)], fun u => of_eq ((↑j : Int) < (↑t.length : Int) ∧ aBin Tryd.prog BinOp.shr (3 : Nat) (I (ia t i)) (I (↑j : Int)) = some (I (↑((ia t i).toNat >>> j) : Int)) ∧ aBin Tryd.prog BinOp.and (3 : Nat) (I (↑((ia t i).toNat >>> j) : Int)) (I 1) = some (I 0) ∧ aBin Tryd.prog BinOp.add (3 : Nat) (I (↑j : Int)) (I 1) = some (I (↑(j + (1 : Nat)) : Int)) ∧ (48 : Nat) = (48 : Nat) ∧ j < t.length ∧ Keep (H.mk [] [] [] = H.mk [] [] [] ∧ [AV.sl (ints t) t.length r, I K, I (↑i : Int), I (ia t i), I (↑(rkR t i j) : Int), AV.sl (ints t) t.length r, I (↑t.length : Int), I (↑i : Int), I (↑t.length : Int), I (↑(j + (1 : Nat)) : Int)] = [AV.sl (ints t) t.length r, I K, I (↑i : Int), I (ia t i), I (↑(rkR t i (j + (1 : Nat))) : Int), AV.sl (ints t) t.length r, I (↑t.length : Int), I (↑i : Int), I (↑t.length : Int), I (↑(j + (1 : Nat)) : Int)])) (by kernel_rfl) ?_⟩
      refine ⟨by first | with_reducible assumption | omega | assumption, ?_⟩
      refine ⟨by first | exact told_shr (by first | exact Int.natCast_nonneg _ | omega) (by with_reducible assumption) | exact told_shr (by omega) rfl, ?_⟩
      refine ⟨told_and (by with_reducible assumption), ?_⟩
      refine ⟨told_add (by with_reducible assumption), ?_⟩
      refine ⟨by first | with_reducible assumption | omega | assumption, ?_⟩
      refine ⟨by first | with_reducible assumption | omega | assumption, ?_⟩
      (rw [hk]; exact ⟨rfl, rfl⟩)
    · have hk : rkR t i (j + 1) = rkR t i j ||| sn t j := by simp only [rkR]; rw [if_pos hb]
      obtain ⟨ev1, ev2⟩ := i_bit1 (h.s8 i) (show j ≤ 64 by omega) hb
      have hl := rkR_lt h (show i < 8 by omega) j
      have hsn := h.sn j
      have ev3 : IntKind.i64.wrap ((BitVec.ofInt IntKind.i64.bits ((rkR t i j : Nat) : Int) ||| BitVec.ofInt IntKind.i64.bits (t.getD j i0)).toNat : Int) = ((rkR t i (j + 1) : Nat) : Int) := by
        rw [hk]
        have := i_or (a := rkR t i j) (b := sn t j) (by omega) (by omega)
        rw [hsn.2] at this
        exact this
      refine ⟨[Ans.o (Orc.b true), Ans.o (Orc.val 26 (I (↑((ia t i).toNat >>> j) : Int)) H.nil), Ans.o (Orc.val 27 (I 1) H.nil), Ans.o Orc.dflt, Ans.o (Orc.val 32 (AV.cptr (ints (List.drop j t))) H.nil), Ans.o (Orc.val 33 (I (t.getD j i0)) H.nil), Ans.o (Orc.val 34 (I (↑(rkR t i (j + (1 : Nat))) : Int)) H.nil), Ans.o (Orc.val 35 (I (↑(j + (1 : Nat)) : Int)) H.nil)], fun u => of_eq ((↑j : Int) < (↑t.length : Int) ∧ aBin Tryd.prog BinOp.shr (3 : Nat) (I (ia t i)) (I (↑j : Int)) = some (I (↑((ia t i).toNat >>> j) : Int)) ∧ aBin Tryd.prog BinOp.and (3 : Nat) (I (↑((ia t i).toNat >>> j) : Int)) (I 1) = some (I 1) ∧ aIndexAddr Tryd.prog (22 : Nat) (AV.sl (ints t) t.length r) (I (↑j : Int)) = some (AV.cptr (ints (List.drop j t))) ∧ aLoad Tryd.prog (3 : Nat) (ints (List.drop j t)) = some (I (t.getD j i0)) ∧ aBin Tryd.prog BinOp.or (3 : Nat) (I (↑(rkR t i j) : Int)) (I (t.getD j i0)) = some (I (↑(rkR t i (j + (1 : Nat))) : Int)) ∧ aBin Tryd.prog BinOp.add (3 : Nat) (I (↑j : Int)) (I 1) = some (I (↑(j + (1 : Nat)) : Int)) ∧ (48 : Nat) = (48 : Nat) ∧ j < t.length ∧ Keep (H.mk [] [] [] = H.mk [] [] [] ∧ [AV.sl (ints t) t.length r, I K, I (↑i : Int), I (ia t i), I (↑(rkR t i (j + (1 : Nat))) : Int), AV.sl (ints t) t.length r, I (↑t.length : Int), I (↑i : Int), I (↑t.length : Int), I (↑(j + (1 : Nat)) : Int)] = [AV.sl (ints t) t.length r, I K, I (↑i : Int), I (ia t i), I (↑(rkR t i (j + (1 : Nat))) : Int), AV.sl (ints t) t.length r, I (↑t.length : Int), I (↑i : Int), I (↑t.length : Int), I (↑(j + (1 : Nat)) : Int)])) (by kernel_rfl) ?_⟩
      refine ⟨by first | with_reducible assumption | omega | assumption, ?_⟩
      refine ⟨by first | exact told_shr (by first | exact Int.natCast_nonneg _ | omega) (by with_reducible assumption) | exact told_shr (by omega) rfl, ?_⟩
      refine ⟨told_and (by with_reducible assumption), ?_⟩
      refine ⟨ix_ints (by kernel_rfl) hz' hri, ?_⟩
      refine ⟨by first | exact ld_ints (by kernel_rfl) (by kernel_rfl) (by omega) | exact ldm_ints (by kernel_rfl) (by kernel_rfl) (by first | omega | (simp; omega)), ?_⟩
      refine ⟨told_or (by with_reducible assumption), ?_⟩
      refine ⟨told_add (by with_reducible assumption), ?_⟩
      refine ⟨by first | with_reducible assumption | omega | assumption, ?_⟩
      refine ⟨by first | with_reducible assumption | omega | assumption, ?_⟩
      exact ⟨rfl, rfl⟩
  · have hz : (t.length : Int) ≤ j := by omega
    have e : j = t.length := by omega
    subst e
    refine ⟨[Ans.o (Orc.b false)], fun u => of_eq ((↑t.length : Int) ≤ (↑t.length : Int) ∧ (48 : Nat) = (48 : Nat) ∧ hits [Out.mk Unit (AX.exit (2 : Nat)) [(0 : Nat), (3 : Nat), (4 : Nat), (6 : Nat), (8 : Nat), (9 : Nat), (10 : Nat)] (fun x => True) (fun x => [ls t r, I K, I (↑i : Int), I (↑(rkR t i t.length) : Int), ls t r, I (↑t.length : Int), I (↑i : Int)]) (fun x => H.nil) fun x => []] (AX.exit (2 : Nat)) [AV.sl (ints t) t.length r, u (1 : Nat), u (2 : Nat), I K, I (↑i : Int), I (ia t i), I (↑(rkR t i t.length) : Int), u (7 : Nat), AV.sl (ints t) t.length r, I (↑t.length : Int), I (↑i : Int), u (11 : Nat), u (12 : Nat), u (13 : Nat), u (14 : Nat), u (15 : Nat), u (16 : Nat), u (17 : Nat), u (18 : Nat), u (19 : Nat), I (↑t.length : Int), I (↑t.length : Int), AV.bool false, u (23 : Nat), u (24 : Nat), u (25 : Nat), u (26 : Nat), u (27 : Nat), u (28 : Nat), u (29 : Nat), u (30 : Nat), u (31 : Nat), u (32 : Nat), u (33 : Nat), u (34 : Nat), u (35 : Nat), u (36 : Nat), u (37 : Nat), u (38 : Nat), u (39 : Nat), u (40 : Nat), u (41 : Nat), u (42 : Nat), u (43 : Nat), u (44 : Nat), u (45 : Nat), u (46 : Nat), u (47 : Nat)] (H.mk [] [] [])) (by kernel_rfl) ?_⟩
    refine ⟨by first | with_reducible assumption | omega | assumption, ?_⟩
    refine ⟨by first | with_reducible assumption | omega | assumption, ?_⟩
    exact .inl ⟨(), trivial, rfl, rfl, rfl⟩
abbrev o34 (t : List Int) : List Out := [.mk Unit (.exit 0) [3] (fun _ => True) (fun _ => [I (kgs t : Nat)]) (fun _ => .nil) (fun _ => [])]
theorem simp34 : allSimpleM none1 (loopAt Tryd.f34 0) = true := by kernel_rfl
theorem lp34 (t : List Int) (r : Room) (h : Tn t) (hr : rok t r) :
    LoopS (En6 []) (loopAt Tryd.f34 0) 48 [0, 3, 8, 9, 10] [ls t r, I 0, ls t r, I t.length, I 0] .nil (o34 t) := by
  have hR : Rests (En6 []) none1 := rests mixed .nil
  have h8 := h.s.2
  refine loop_s hR simp34 none (by intro _ h; cases h) (fun j vs h => h = .nil ∧ vs = [ls t r, I (kgV t j : Nat), ls t r, I t.length, I j]) t.length ⟨rfl, rfl⟩ (by intro _ h; cases h) ?_
  rintro j vs h' hj ⟨rfl, rfl⟩
  by_cases hz : (j : Int) < t.length
  · have hz' : j < t.length := by omega
    have hri := rok_idx hr hz'
    have ev0 := wj1 (j := j) (by omega)
    have ev1 := pw_shl (n := j) (by omega)
    have h2 : 2 ^ j < 2 ^ 8 := Nat.pow_lt_pow_right (by decide) (by omega)
    have hsn := h.sn j
    have ev2 : IntKind.i64.wrap ((BitVec.ofInt IntKind.i64.bits (t.getD j i0) ||| BitVec.ofInt IntKind.i64.bits ((2 ^ j : Nat) : Int)).toNat : Int) = ((rkR t j 0 : Nat) : Int) := by
      have := i_or (a := sn t j) (b := 2 ^ j) (by omega) (by omega)
      rw [hsn.2] at this
      exact this
    have ev3 := pw_shl (n := t.length) (by omega)
    have ev4 := pw_alls (n := t.length) h8
    have h1 := @kgV_lt t j (by omega)
    have ev5 := i_or (a := kgV t j) (b := 2 ^ j) (by omega) (by omega)
    have lp := lp34b t r h hr j hz' ((kgV t j : Nat) : Int)
    have hre := rkR_eq h j
    by_cases c : nrE t j = alls t.length
    · have hc : ((rkR t j t.length : Nat) : Int) = ((alls t.length : Nat) : Int) := by rw [hre, c]
      have hk : kgV t (j + 1) = kgV t j ||| 2 ^ j := by simp only [kgV]; rw [if_pos c]
      refine ⟨[Ans.o (Orc.b true), Ans.o (Orc.val 13 (AV.cptr (ints (List.drop j t))) H.nil), Ans.o (Orc.val 14 (I (t.getD j i0)) H.nil), Ans.o (Orc.val 17 (I (↑((2 : Nat) ^ j) : Int)) H.nil), Ans.o (Orc.val 18 (I (↑(rkR t j (0 : Nat)) : Int)) H.nil), Ans.loop [(0 : Nat), (3 : Nat), (4 : Nat), (5 : Nat), (6 : Nat), (8 : Nat), (9 : Nat), (10 : Nat), (20 : Nat), (21 : Nat)] [Out.mk Unit (AX.exit (2 : Nat)) [(0 : Nat), (3 : Nat), (4 : Nat), (6 : Nat), (8 : Nat), (9 : Nat), (10 : Nat)] (fun x => True) (fun x => [ls t r, I (↑(kgV t j) : Int), I (↑j : Int), I (↑(rkR t j t.length) : Int), ls t r, I (↑t.length : Int), I (↑j : Int)]) (fun x => H.nil) fun y => [Ans.o (Orc.val 39 (I (↑((2 : Nat) ^ t.length) : Int)) H.nil), Ans.o (Orc.val 40 (I (↑(alls t.length) : Int)) H.nil), Ans.o (Orc.b true), Ans.o (Orc.val 44 (I (↑((2 : Nat) ^ j) : Int)) H.nil), Ans.o (Orc.val 45 (I (↑(kgV t j ||| (2 : Nat) ^ j) : Int)) H.nil), Ans.o (Orc.val 46 (I (↑(j + (1 : Nat)) : Int)) H.nil)]]], fun u => of_eq ((↑j : Int) < (↑t.length : Int) ∧ aIndexAddr Tryd.prog (22 : Nat) (AV.sl (ints t) t.length r) (I (↑j : Int)) = some (AV.cptr (ints (List.drop j t))) ∧ aLoad Tryd.prog (3 : Nat) (ints (List.drop j t)) = some (I (t.getD j i0)) ∧ aBin Tryd.prog BinOp.shl (3 : Nat) (I 1) (I (↑j : Int)) = some (I (↑((2 : Nat) ^ j) : Int)) ∧ aBin Tryd.prog BinOp.or (3 : Nat) (I (t.getD j i0)) (I (↑((2 : Nat) ^ j) : Int)) = some (I (↑(rkR t j (0 : Nat)) : Int)) ∧ LoopS (Env.mk Tryd.prog (Sof (P := Tryd.prog) []) (Pof (P := Tryd.prog) []) H.nil.base (300 : Nat)) (loopAt Tryd.f34 (1 : Nat)) (48 : Nat) [(0 : Nat), (3 : Nat), (4 : Nat), (5 : Nat), (6 : Nat), (8 : Nat), (9 : Nat), (10 : Nat), (20 : Nat), (21 : Nat)] [AV.sl (ints t) t.length r, I (↑(kgV t j) : Int), I (↑j : Int), I (t.getD j i0), I (↑(rkR t j (0 : Nat)) : Int), AV.sl (ints t) t.length r, I (↑t.length : Int), I (↑j : Int), I (↑t.length : Int), I 0] (H.mk [] [] []) [Out.mk Unit (AX.exit (2 : Nat)) [(0 : Nat), (3 : Nat), (4 : Nat), (6 : Nat), (8 : Nat), (9 : Nat), (10 : Nat)] (fun x => True) (fun x => [ls t r, I (↑(kgV t j) : Int), I (↑j : Int), I (↑(rkR t j t.length) : Int), ls t r, I (↑t.length : Int), I (↑j : Int)]) (fun x => H.nil) fun y => [Ans.o (Orc.val 39 (I (↑((2 : Nat) ^ t.length) : Int)) H.nil), Ans.o (Orc.val 40 (I (↑(alls t.length) : Int)) H.nil), Ans.o (Orc.b true), Ans.o (Orc.val 44 (I (↑((2 : Nat) ^ j) : Int)) H.nil), Ans.o (Orc.val 45 (I (↑(kgV t j ||| (2 : Nat) ^ j) : Int)) H.nil), Ans.o (Orc.val 46 (I (↑(j + (1 : Nat)) : Int)) H.nil)]] ∧ (∀ (y : Unit), True → ∀ (u : Nat → AV), aBin Tryd.prog BinOp.shl (3 : Nat) (I 1) (I (↑t.length : Int)) = some (I (↑((2 : Nat) ^ t.length) : Int)) ∧ aBin Tryd.prog BinOp.sub (3 : Nat) (I (↑((2 : Nat) ^ t.length) : Int)) (I 1) = some (I (↑(alls t.length) : Int)) ∧ (↑(rkR t j t.length) : Int) = (↑(alls t.length) : Int) ∧ aBin Tryd.prog BinOp.shl (3 : Nat) (I 1) (I (↑j : Int)) = some (I (↑((2 : Nat) ^ j) : Int)) ∧ aBin Tryd.prog BinOp.or (3 : Nat) (I (↑(kgV t j) : Int)) (I (↑((2 : Nat) ^ j) : Int)) = some (I (↑(kgV t j ||| (2 : Nat) ^ j) : Int)) ∧ aBin Tryd.prog BinOp.add (3 : Nat) (I (↑j : Int)) (I 1) = some (I (↑(j + (1 : Nat)) : Int)) ∧ (48 : Nat) = (48 : Nat) ∧ j < t.length ∧ Keep (H.mk [] [] [] = H.mk [] [] [] ∧ [AV.sl (ints t) t.length r, I (↑(kgV t j ||| (2 : Nat) ^ j) : Int), AV.sl (ints t) t.length r, I (↑t.length : Int), I (↑(j + (1 : Nat)) : Int)] = [AV.sl (ints t) t.length r, I (↑(kgV t (j + (1 : Nat))) : Int), AV.sl (ints t) t.length r, I (↑t.length : Int), I (↑(j + (1 : Nat)) : Int)])) ∧ True) (by kernel_rfl) ?_⟩
      refine ⟨by first | with_reducible assumption | omega | assumption, ?_⟩
      refine ⟨ix_ints (by kernel_rfl) hz' hri, ?_⟩
      refine ⟨by first | exact ld_ints (by kernel_rfl) (by kernel_rfl) (by omega) | exact ldm_ints (by kernel_rfl) (by kernel_rfl) (by first | omega | (simp; omega)), ?_⟩
      refine ⟨by first | exact told_shl (by first | exact Int.natCast_nonneg _ | omega) (by with_reducible assumption) | exact told_shl (by omega) rfl, ?_⟩
      refine ⟨told_or (by with_reducible assumption), ?_⟩
      refine ⟨lp, ?_⟩
      refine And.intro ?_ ?_
      · skip
        intro y
        intro w1
        intro u
        refine ⟨by first | exact told_shl (by first | exact Int.natCast_nonneg _ | omega) (by with_reducible assumption) | exact told_shl (by omega) rfl, ?_⟩
        refine ⟨told_sub (by with_reducible assumption), ?_⟩
        refine ⟨by first | with_reducible assumption | omega | assumption, ?_⟩
        refine ⟨by first | exact told_shl (by first | exact Int.natCast_nonneg _ | omega) (by with_reducible assumption) | exact told_shl (by omega) rfl, ?_⟩
        refine ⟨told_or (by with_reducible assumption), ?_⟩
        refine ⟨told_add (by with_reducible assumption), ?_⟩
        refine ⟨by first | with_reducible assumption | omega | assumption, ?_⟩
        refine ⟨by first | with_reducible assumption | omega | assumption, ?_⟩
        (rw [hk]; exact ⟨rfl, rfl⟩)
      · skip
        trivial
    · have hc : ((rkR t j t.length : Nat) : Int) ≠ ((alls t.length : Nat) : Int) := fun e => c (by rw [← hre]; omega)
      have hk : kgV t (j + 1) = kgV t j := by simp only [kgV]; rw [if_neg c]
      refine ⟨[Ans.o (Orc.b true), Ans.o (Orc.val 13 (AV.cptr (ints (List.drop j t))) H.nil), Ans.o (Orc.val 14 (I (t.getD j i0)) H.nil), Ans.o (Orc.val 17 (I (↑((2 : Nat) ^ j) : Int)) H.nil), Ans.o (Orc.val 18 (I (↑(rkR t j (0 : Nat)) : Int)) H.nil), Ans.loop [(0 : Nat), (3 : Nat), (4 : Nat), (5 : Nat), (6 : Nat), (8 : Nat), (9 : Nat), (10 : Nat), (20 : Nat), (21 : Nat)] [Out.mk Unit (AX.exit (2 : Nat)) [(0 : Nat), (3 : Nat), (4 : Nat), (6 : Nat), (8 : Nat), (9 : Nat), (10 : Nat)] (fun x => True) (fun x => [ls t r, I (↑(kgV t j) : Int), I (↑j : Int), I (↑(rkR t j t.length) : Int), ls t r, I (↑t.length : Int), I (↑j : Int)]) (fun x => H.nil) fun y => [Ans.o (Orc.val 39 (I (↑((2 : Nat) ^ t.length) : Int)) H.nil), Ans.o (Orc.val 40 (I (↑(alls t.length) : Int)) H.nil), Ans.o (Orc.b false), Ans.o (Orc.val 46 (I (↑(j + (1 : Nat)) : Int)) H.nil)]]], fun u => of_eq ((↑j : Int) < (↑t.length : Int) ∧ aIndexAddr Tryd.prog (22 : Nat) (AV.sl (ints t) t.length r) (I (↑j : Int)) = some (AV.cptr (ints (List.drop j t))) ∧ aLoad Tryd.prog (3 : Nat) (ints (List.drop j t)) = some (I (t.getD j i0)) ∧ aBin Tryd.prog BinOp.shl (3 : Nat) (I 1) (I (↑j : Int)) = some (I (↑((2 : Nat) ^ j) : Int)) ∧ aBin Tryd.prog BinOp.or (3 : Nat) (I (t.getD j i0)) (I (↑((2 : Nat) ^ j) : Int)) = some (I (↑(rkR t j (0 : Nat)) : Int)) ∧ LoopS (Env.mk Tryd.prog (Sof (P := Tryd.prog) []) (Pof (P := Tryd.prog) []) H.nil.base (300 : Nat)) (loopAt Tryd.f34 (1 : Nat)) (48 : Nat) [(0 : Nat), (3 : Nat), (4 : Nat), (5 : Nat), (6 : Nat), (8 : Nat), (9 : Nat), (10 : Nat), (20 : Nat), (21 : Nat)] [AV.sl (ints t) t.length r, I (↑(kgV t j) : Int), I (↑j : Int), I (t.getD j i0), I (↑(rkR t j (0 : Nat)) : Int), AV.sl (ints t) t.length r, I (↑t.length : Int), I (↑j : Int), I (↑t.length : Int), I 0] (H.mk [] [] []) [Out.mk Unit (AX.exit (2 : Nat)) [(0 : Nat), (3 : Nat), (4 : Nat), (6 : Nat), (8 : Nat), (9 : Nat), (10 : Nat)] (fun x => True) (fun x => [ls t r, I (↑(kgV t j) : Int), I (↑j : Int), I (↑(rkR t j t.length) : Int), ls t r, I (↑t.length : Int), I (↑j : Int)]) (fun x => H.nil) fun y => [Ans.o (Orc.val 39 (I (↑((2 : Nat) ^ t.length) : Int)) H.nil), Ans.o (Orc.val 40 (I (↑(alls t.length) : Int)) H.nil), Ans.o (Orc.b false), Ans.o (Orc.val 46 (I (↑(j + (1 : Nat)) : Int)) H.nil)]] ∧ (∀ (y : Unit), True → ∀ (u : Nat → AV), aBin Tryd.prog BinOp.shl (3 : Nat) (I 1) (I (↑t.length : Int)) = some (I (↑((2 : Nat) ^ t.length) : Int)) ∧ aBin Tryd.prog BinOp.sub (3 : Nat) (I (↑((2 : Nat) ^ t.length) : Int)) (I 1) = some (I (↑(alls t.length) : Int)) ∧ (↑(rkR t j t.length) : Int) ≠ (↑(alls t.length) : Int) ∧ aBin Tryd.prog BinOp.add (3 : Nat) (I (↑j : Int)) (I 1) = some (I (↑(j + (1 : Nat)) : Int)) ∧ (48 : Nat) = (48 : Nat) ∧ j < t.length ∧ Keep (H.mk [] [] [] = H.mk [] [] [] ∧ [AV.sl (ints t) t.length r, I (↑(kgV t j) : Int), AV.sl (ints t) t.length r, I (↑t.length : Int), I (↑(j + (1 : Nat)) : Int)] = [AV.sl (ints t) t.length r, I (↑(kgV t (j + (1 : Nat))) : Int), AV.sl (ints t) t.length r, I (↑t.length : Int), I (↑(j + (1 : Nat)) : Int)])) ∧ True) (by kernel_rfl) ?_⟩
      refine ⟨by first | with_reducible assumption | omega | assumption, ?_⟩
      refine ⟨ix_ints (by kernel_rfl) hz' hri, ?_⟩
      refine ⟨by first | exact ld_ints (by kernel_rfl) (by kernel_rfl) (by omega) | exact ldm_ints (by kernel_rfl) (by kernel_rfl) (by first | omega | (simp; omega)), ?_⟩
      refine ⟨by first | exact told_shl (by first | exact Int.natCast_nonneg _ | omega) (by with_reducible assumption) | exact told_shl (by omega) rfl, ?_⟩
      refine ⟨told_or (by with_reducible assumption), ?_⟩
      refine ⟨lp, ?_⟩
      refine And.intro ?_ ?_
      · skip
        intro y
        intro w1
        intro u
        refine ⟨by first | exact told_shl (by first | exact Int.natCast_nonneg _ | omega) (by with_reducible assumption) | exact told_shl (by omega) rfl, ?_⟩
        refine ⟨told_sub (by with_reducible assumption), ?_⟩
        refine ⟨by first | with_reducible assumption | omega | assumption, ?_⟩
        refine ⟨told_add (by with_reducible assumption), ?_⟩
        refine ⟨by first | with_reducible assumption | omega | assumption, ?_⟩
        refine ⟨by first | with_reducible assumption | omega | assumption, ?_⟩
        (rw [hk]; exact ⟨rfl, rfl⟩)
      · skip
        trivial
  · have hz : (t.length : Int) ≤ j := by omega
    have e : j = t.length := by omega
    subst e
    refine ⟨[Ans.o (Orc.b false)], fun u => of_eq ((↑t.length : Int) ≤ (↑t.length : Int) ∧ (48 : Nat) = (48 : Nat) ∧ hits [Out.mk Unit (AX.exit (0 : Nat)) [(3 : Nat)] (fun x => True) (fun x => [I (↑(kgs t) : Int)]) (fun x => H.nil) fun x => []] (AX.exit (0 : Nat)) [AV.sl (ints t) t.length r, u (1 : Nat), u (2 : Nat), I (↑(kgV t t.length) : Int), u (4 : Nat), u (5 : Nat), u (6 : Nat), u (7 : Nat), AV.sl (ints t) t.length r, I (↑t.length : Int), I (↑t.length : Int), AV.bool false, u (12 : Nat), u (13 : Nat), u (14 : Nat), u (15 : Nat), u (16 : Nat), u (17 : Nat), u (18 : Nat), u (19 : Nat), u (20 : Nat), u (21 : Nat), u (22 : Nat), u (23 : Nat), u (24 : Nat), u (25 : Nat), u (26 : Nat), u (27 : Nat), u (28 : Nat), u (29 : Nat), u (30 : Nat), u (31 : Nat), u (32 : Nat), u (33 : Nat), u (34 : Nat), u (35 : Nat), u (36 : Nat), u (37 : Nat), u (38 : Nat), u (39 : Nat), u (40 : Nat), u (41 : Nat), u (42 : Nat), u (43 : Nat), u (44 : Nat), u (45 : Nat), u (46 : Nat), u (47 : Nat)] (H.mk [] [] [])) (by kernel_rfl) ?_⟩
    refine ⟨by first | with_reducible assumption | omega | assumption, ?_⟩
    refine ⟨by first | with_reducible assumption | omega | assumption, ?_⟩
    exact .inl ⟨(), trivial, rfl, rfl, rfl⟩
theorem ok34 : FokM Tryd.prog none1 34 Tryd.f34 := ⟨mixed, by kernel_rfl, by kernel_rfl, by kernel_rfl, by kernel_rfl⟩
theorem r34 (t : List Int) (r : Room) (hp : Tn t ∧ rok t r) : Body ⟨Tryd.prog, Sof (P := Tryd.prog) [], Pof (P := Tryd.prog) [], H.nil.base, 300⟩ none1 Tryd.f34 [ls t r] .nil (I (kgs t : Nat), .nil) := by
  obtain ⟨h, hr⟩ := hp
  have lp := lp34 t r h hr
  refine body_s ([Ans.loop [(0 : Nat), (3 : Nat), (8 : Nat), (9 : Nat), (10 : Nat)] [Out.mk Unit (AX.exit (0 : Nat)) [(3 : Nat)] (fun x => True) (fun x => [I (↑(kgs t) : Int)]) (fun x => H.nil) fun y => []]]) (LoopS (Env.mk Tryd.prog (Sof (P := Tryd.prog) []) (Pof (P := Tryd.prog) []) H.nil.base (300 : Nat)) (loopAt Tryd.f34 (0 : Nat)) (48 : Nat) [(0 : Nat), (3 : Nat), (8 : Nat), (9 : Nat), (10 : Nat)] [AV.sl (ints t) t.length r, I 0, AV.sl (ints t) t.length r, I (↑t.length : Int), I 0] (H.mk [] [] []) [Out.mk Unit (AX.exit (0 : Nat)) [(3 : Nat)] (fun x => True) (fun x => [I (↑(kgs t) : Int)]) (fun x => H.nil) fun y => []] ∧ (∀ (y : Unit), True → ∀ (u : Nat → AV), (I (↑(kgs t) : Int), H.mk [] [] []) = (I (↑(kgs t) : Int), H.mk [] [] [])) ∧ True) (by kernel_rfl) ?_
  refine ⟨lp, ?_⟩
  refine And.intro ?_ ?_
  · skip
    intro y
    intro w1
    intro u
    first | with_reducible rfl | (refine bleaf_t ?_; omega) | (refine bleaf_f ?_; omega) | (refine ileaf ?_; omega) | rfl | (exfalso; omega)
  · skip
    trivial
noncomputable def c34 : PCtr Tryd.prog := sctr ok34 (X := List Int × Room) (fun x => [ls x.1 x.2]) (fun x => Tn x.1 ∧ rok x.1 x.2) (fun x => I (kgs x.1 : Nat)) (by intro x y e _ _; simp [Int.natCast_inj] at e; simp [e]) (fun x => by simp [AV.bnds, AV.bnd, AV.wk, rm_wk_bnd]) (fun x => by first | rfl | (simp [AV.bnd, rm_wk_bnd]; done)  | (simp [AV.bnd, AV.bnds, rm_wk_bnd]; done) | simp [AV.bnd, AV.bnds, Room.bnd, rm_wk_bnd]) (fun x hx => ⟨_, _, _, .nil, r34 (x.1) (x.2).wk (by first | exact hx | (simp only [rok_wk]; exact hx) | (simp only [rok_wk, lst_wk]; exact hx) | (simp only [rok_wk, lst_wk, lsn_wk]; exact hx))⟩)
end Go.Proofs.Rnk

