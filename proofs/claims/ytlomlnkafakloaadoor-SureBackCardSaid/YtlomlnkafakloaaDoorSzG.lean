/- Layer 5: what may be taken for what. -/
import Derived.Test.YtlomlnkafakloaaDoorSzE
import Derived.Test.YtlomlnkafakloaaDoorSvB
import Derived.KernelRfl
set_option linter.unusedSimpArgs false
set_option linter.unusedVariables false
set_option linter.unnecessarySimpa false
set_option maxHeartbeats 4000000
set_option maxRecDepth 100000
namespace Go.Proofs.Sur
open Go Go.VM

/-- two signals may be taken for each other -/
def cfB (l : List Int) (i j : Nat) : Bool := !decide (i = j) && !decide ((at_ l i).toNat &&& (at_ l j).toNat = 0)
theorem cfB_1 {l : List Int} {i j : Nat} (h : i = j) : cfB l i j = false := by unfold cfB; rw [decide_eq_true h]; rfl
theorem cfB_2 {l : List Int} {i j : Nat} (h : (at_ l i).toNat &&& (at_ l j).toNat = 0) : cfB l i j = false := by unfold cfB; rw [decide_eq_true h]; cases decide (i = j) <;> rfl
theorem cfB_3 {l : List Int} {i j : Nat} (h : ¬ i = j) (h0 : ¬ (at_ l i).toNat &&& (at_ l j).toNat = 0) : cfB l i j = true := by unfold cfB; rw [decide_eq_false h, decide_eq_false h0]; rfl
def cfR (l : List Int) (i : Nat) : Nat → Nat
  | 0 => 0
  | j + 1 => if cfB l i j = true then cfR l i j ||| 2 ^ j else cfR l i j
theorem cfR_bit (l : List Int) (i : Nat) : ∀ n j, (cfR l i n).testBit j = (decide (j < n) && cfB l i j)
  | 0, j => by simp [cfR]
  | n + 1, j => by
    have e2 : j ≠ n → decide (j < n + 1) = decide (j < n) := fun e => by congr 1; exact propext ⟨fun _ => by omega, fun _ => by omega⟩
    cases h : cfB l i n
    · rw [cfR, h, if_neg (by decide), cfR_bit l i n j]
      by_cases e : j = n
      · subst e; rw [h, Bool.and_false, Bool.and_false]
      · rw [e2 e]
    · rw [cfR, h, if_pos rfl, Nat.testBit_or, cfR_bit l i n j, Nat.testBit_two_pow]
      by_cases e : j = n
      · subst e; rw [h]; simp
      · have e1 : decide (n = j) = false := by simp; omega
        rw [e1, e2 e, Bool.or_false]
theorem cfR_lt (l : List Int) (i : Nat) : ∀ n, cfR l i n < 2 ^ n
  | 0 => by simp [cfR]
  | n + 1 => by
    have h1 := cfR_lt l i n
    have h2 : 2 ^ n < 2 ^ (n + 1) := Nat.pow_lt_pow_right (by decide) (by omega)
    rw [cfR]; split
    · exact Nat.or_lt_two_pow (by omega) h2
    · omega
def cfI (l : List Int) (i : Nat) : Int := (cfR l i l.length : Nat)
def cfV (l : List Int) : List Int := (List.range l.length).map (cfI l)
@[simp] theorem cfV_len (l : List Int) : (cfV l).length = l.length := by simp [cfV]
theorem cfV_at {l : List Int} {i : Nat} (h : i < l.length) : at_ (cfV l) i = cfI l i := by
  simp [at_, cfV, List.getD_eq_getElem?_getD, h]
theorem cfR_64 {l : List Int} (h : sz l) (i j : Nat) (hj : j ≤ l.length) : cfR l i j < 64 := by
  have h1 := cfR_lt l i j
  have h2 : 2 ^ j ≤ 2 ^ 6 := Nat.pow_le_pow_right (by decide) (by have := h.2; omega)
  omega
theorem i_andI {a b : Int} (ha : 0 ≤ a ∧ a < 256) (hb : 0 ≤ b ∧ b < 256) : IntKind.i64.wrap ((BitVec.ofInt IntKind.i64.bits a &&& BitVec.ofInt IntKind.i64.bits b).toNat : Int) = ((a.toNat &&& b.toNat : Nat) : Int) := by
  have := i_and (a := a.toNat) (b := b.toNat) (by omega) (by omega)
  rw [show ((a.toNat : Nat) : Int) = a from by omega, show ((b.toNat : Nat) : Int) = b from by omega] at this
  exact this
/-- the graph under way -/
abbrev cfm (l : List Int) (i j : Nat) : List Int := (fil (cfI l) i0 l.length i).set i (cfR l i j : Nat)
theorem cfm_len (l : List Int) (i j : Nat) : (cfm l i j).length = l.length := by simp [cfm]
theorem cfm_at {l : List Int} {i j : Nat} (hi : i < l.length) : at_ (cfm l i j) i = (cfR l i j : Nat) := by
  simp [cfm, at_, List.getD_eq_getElem?_getD, hi]
theorem cfm_set (l : List Int) (i j : Nat) (v : Int) : (cfm l i j).set i v = (fil (cfI l) i0 l.length i).set i v := by simp [cfm]
abbrev mc (l : List Int) : AV := .msl 0 0 l.length l.length 1
abbrev hcf (m : List Int) : H := ⟨[ints m], [], []⟩
abbrev o18i (l : List Int) (r : Room) (i : Nat) : List Out :=
  [.mk Unit (.exit 2) [0, 4, 15, 16, 17] (fun _ => True) (fun _ => [ls l r, mc l, ls l r, I l.length, I (i : Nat)]) (fun _ => hcf (cfm l i l.length)) (fun _ => [])]
theorem simp18i : allSimpleM none1 (loopAt Tryd.f18 1) = true := by kernel_rfl
theorem lp18i (l : List Int) (r : Room) (hc : Chn l) (hr : rok l r) (i : Nat) (hi : i < l.length) :
    LoopS (En6 [c57.to]) (loopAt Tryd.f18 1) 49 [0, 4, 5, 6, 15, 16, 17, 22, 23, 24] [ls l r, mc l, I (i : Nat), I (at_ l i), ls l r, I l.length, I (i : Nat), ls l r, I l.length, I 0] (hcf (cfm l i 0)) (o18i l r i) := by
  have hR : Rests (En6 [c57.to]) none1 := rests mixed (.pure _ .nil)
  have h6 := hc.1.2
  refine loop_s hR simp18i none (by intro _ h; cases h) (fun j vs h => h = hcf (cfm l i j) ∧ vs = [ls l r, mc l, I (i : Nat), I (at_ l i), ls l r, I l.length, I (i : Nat), ls l r, I l.length, I (j : Nat)] ∧ j ≤ l.length) l.length ⟨rfl, rfl, Nat.zero_le _⟩ (by intro _ h; cases h) ?_
  rintro j vs h hj ⟨rfl, rfl, hle⟩
  have hlm := cfm_len l i j
  have hat := cfm_at (l := l) (i := i) (j := j) hi
  have hset := fun v => cfm_set l i j v
  by_cases hz : (j : Int) < l.length
  · have hz' : j < l.length := by omega
    have hr' := rok_idx hr hz'
    have hbi := hc.2 i hi
    have hbj := hc.2 j hz'
    have hs := cfR_64 hc.1 i j hle
    have h2 : 2 ^ j < 2 ^ 6 := Nat.pow_lt_pow_right (by decide) (by omega)
    have ev0 := pw_shl (n := j) (by omega)
    have ev1 : IntKind.i64.wrap ((BitVec.ofInt IntKind.i64.bits (at_ (cfm l i j) i) ||| BitVec.ofInt IntKind.i64.bits ((2 ^ j : Nat) : Int)).toNat : Int) = ((cfR l i j ||| 2 ^ j : Nat) : Int) := by
      rw [hat]; exact i_or (a := cfR l i j) (b := 2 ^ j) (by omega) (by omega)
    have ev2 : IntKind.i64.wrap ((j : Int) + 1) = ((j + 1 : Nat) : Int) := by
      have : (j : Int) + 1 = ((j + 1 : Nat) : Int) := by omega
      rw [this]; exact i_wrap (by omega)
    have ev3 := i_andI (a := at_ l i) (b := at_ l j) (by omega) (by omega)
    have him : i < (cfm l i j).length := by rw [hlm]; exact hi
    by_cases he : i = j
    · have he' : ((i : Nat) : Int) = (j : Int) := by omega
      have e : cfR l i (j + 1) = cfR l i j := by
        have : cfB l i j = false := cfB_1 he
        rw [cfR, this]; rfl
      have e : cfm l i (j + 1) = cfm l i j := by simp only [cfm]; rw [e]
      generalize cfm l i j = m at *
      refine ⟨[Ans.o (Orc.b true), Ans.o (Orc.val 27 (AV.cptr (ints (List.drop j l))) H.nil), Ans.o (Orc.val 28 (I (l.getD j i0)) H.nil), Ans.o (Orc.b false), Ans.o (Orc.val 46 (I (↑(j + (1 : Nat)) : Int)) H.nil)], fun u => of_eq ((↑j : Int) < (↑l.length : Int) ∧ aIndexAddr Tryd.prog (22 : Nat) (AV.sl (ints l) l.length r) (I (↑j : Int)) = some (AV.cptr (ints (List.drop j l))) ∧ aLoad Tryd.prog (3 : Nat) (ints (List.drop j l)) = some (I (l.getD j i0)) ∧ (↑i : Int) = (↑j : Int) ∧ aBin Tryd.prog BinOp.add (3 : Nat) (I (↑j : Int)) (I 1) = some (I (↑(j + (1 : Nat)) : Int)) ∧ (49 : Nat) = (49 : Nat) ∧ j < l.length ∧ Keep (H.mk [ints m] [] [] = H.mk [ints (cfm l i (j + (1 : Nat)))] [] [] ∧ [AV.sl (ints l) l.length r, AV.msl 0 0 l.length l.length (1 : Nat), I (↑i : Int), I (at_ l i), AV.sl (ints l) l.length r, I (↑l.length : Int), I (↑i : Int), AV.sl (ints l) l.length r, I (↑l.length : Int), I (↑(j + (1 : Nat)) : Int)] = [AV.sl (ints l) l.length r, AV.msl 0 0 l.length l.length (1 : Nat), I (↑i : Int), I (at_ l i), AV.sl (ints l) l.length r, I (↑l.length : Int), I (↑i : Int), AV.sl (ints l) l.length r, I (↑l.length : Int), I (↑(j + (1 : Nat)) : Int)] ∧ j + (1 : Nat) ≤ l.length)) (by kernel_rfl) ?_⟩
      refine ⟨by first | with_reducible assumption | omega | assumption, ?_⟩
      refine ⟨by first | exact ix_ints (by kernel_rfl) (by omega) (by assumption) | exact ix_ints (by kernel_rfl) (by omega) (rok_idx (by assumption) (by omega)), ?_⟩
      refine ⟨by first | exact ld_ints (by kernel_rfl) (by kernel_rfl) (by omega) | exact ldm_ints (by kernel_rfl) (by kernel_rfl) (by first | omega | (simp; omega)), ?_⟩
      refine ⟨by first | with_reducible assumption | omega | assumption, ?_⟩
      refine ⟨told_add (by with_reducible assumption), ?_⟩
      refine ⟨by first | with_reducible assumption | omega | assumption, ?_⟩
      refine ⟨by first | with_reducible assumption | omega | assumption, ?_⟩
      exact ⟨by rw [e], rfl, hz'⟩
    · have he' : ((i : Nat) : Int) ≠ (j : Int) := by omega
      by_cases h0 : (at_ l i).toNat &&& (at_ l j).toNat = 0
      · have h0' : (((at_ l i).toNat &&& (at_ l j).toNat : Nat) : Int) = 0 := by omega
        have e : cfR l i (j + 1) = cfR l i j := by
          have : cfB l i j = false := cfB_2 h0
          rw [cfR, this]; rfl
        have e : cfm l i (j + 1) = cfm l i j := by simp only [cfm]; rw [e]
        generalize cfm l i j = m at *
        refine ⟨[Ans.o (Orc.b true), Ans.o (Orc.val 27 (AV.cptr (ints (List.drop j l))) H.nil), Ans.o (Orc.val 28 (I (l.getD j i0)) H.nil), Ans.o (Orc.b true), Ans.o (Orc.val 35 (I (↑((at_ l i).toNat &&& (at_ l j).toNat) : Int)) H.nil), Ans.o (Orc.b false), Ans.o (Orc.val 46 (I (↑(j + (1 : Nat)) : Int)) H.nil)], fun u => of_eq ((↑j : Int) < (↑l.length : Int) ∧ aIndexAddr Tryd.prog (22 : Nat) (AV.sl (ints l) l.length r) (I (↑j : Int)) = some (AV.cptr (ints (List.drop j l))) ∧ aLoad Tryd.prog (3 : Nat) (ints (List.drop j l)) = some (I (l.getD j i0)) ∧ (↑i : Int) ≠ (↑j : Int) ∧ aBin Tryd.prog BinOp.and (3 : Nat) (I (at_ l i)) (I (l.getD j i0)) = some (I (↑((at_ l i).toNat &&& (at_ l j).toNat) : Int)) ∧ (↑((at_ l i).toNat &&& (at_ l j).toNat) : Int) = (0 : Int) ∧ aBin Tryd.prog BinOp.add (3 : Nat) (I (↑j : Int)) (I 1) = some (I (↑(j + (1 : Nat)) : Int)) ∧ (49 : Nat) = (49 : Nat) ∧ j < l.length ∧ Keep (H.mk [ints m] [] [] = H.mk [ints (cfm l i (j + (1 : Nat)))] [] [] ∧ [AV.sl (ints l) l.length r, AV.msl 0 0 l.length l.length (1 : Nat), I (↑i : Int), I (at_ l i), AV.sl (ints l) l.length r, I (↑l.length : Int), I (↑i : Int), AV.sl (ints l) l.length r, I (↑l.length : Int), I (↑(j + (1 : Nat)) : Int)] = [AV.sl (ints l) l.length r, AV.msl 0 0 l.length l.length (1 : Nat), I (↑i : Int), I (at_ l i), AV.sl (ints l) l.length r, I (↑l.length : Int), I (↑i : Int), AV.sl (ints l) l.length r, I (↑l.length : Int), I (↑(j + (1 : Nat)) : Int)] ∧ j + (1 : Nat) ≤ l.length)) (by kernel_rfl) ?_⟩
        refine ⟨by first | with_reducible assumption | omega | assumption, ?_⟩
        refine ⟨by first | exact ix_ints (by kernel_rfl) (by omega) (by assumption) | exact ix_ints (by kernel_rfl) (by omega) (rok_idx (by assumption) (by omega)), ?_⟩
        refine ⟨by first | exact ld_ints (by kernel_rfl) (by kernel_rfl) (by omega) | exact ldm_ints (by kernel_rfl) (by kernel_rfl) (by first | omega | (simp; omega)), ?_⟩
        refine ⟨by first | with_reducible assumption | omega | assumption, ?_⟩
        refine ⟨told_and (by with_reducible assumption), ?_⟩
        refine ⟨by first | with_reducible assumption | omega | assumption, ?_⟩
        refine ⟨told_add (by with_reducible assumption), ?_⟩
        refine ⟨by first | with_reducible assumption | omega | assumption, ?_⟩
        refine ⟨by first | with_reducible assumption | omega | assumption, ?_⟩
        exact ⟨by rw [e], rfl, hz'⟩
      · have h0' : (((at_ l i).toNat &&& (at_ l j).toNat : Nat) : Int) ≠ 0 := by omega
        have e : cfR l i (j + 1) = cfR l i j ||| 2 ^ j := by
          have : cfB l i j = true := cfB_3 he h0
          rw [cfR, this]; rfl
        have e : cfm l i (j + 1) = (cfm l i j).set i ((cfR l i j ||| 2 ^ j : Nat) : Int) := by rw [hset]; simp only [cfm]; rw [e]
        generalize cfm l i j = m at *
        refine ⟨[Ans.o (Orc.b true), Ans.o (Orc.val 27 (AV.cptr (ints (List.drop j l))) H.nil), Ans.o (Orc.val 28 (I (l.getD j i0)) H.nil), Ans.o (Orc.b true), Ans.o (Orc.val 35 (I (↑((at_ l i).toNat &&& (at_ l j).toNat) : Int)) H.nil), Ans.o (Orc.b true), Ans.o (Orc.val 40 (AV.ptr 0 i) H.nil), Ans.o (Orc.val 41 (I (m.getD i i0)) H.nil), Ans.o (Orc.val 43 (I (↑((2 : Nat) ^ j) : Int)) H.nil), Ans.o (Orc.val 44 (I (↑(cfR l i j ||| (2 : Nat) ^ j) : Int)) H.nil), Ans.o (Orc.val 45 (AV.ptr 0 i) H.nil), Ans.o (Orc.val 9999 (AV.tup []) (H.mk [ints (m.set i (↑(cfR l i j ||| (2 : Nat) ^ j) : Int))] [] [])), Ans.o (Orc.val 46 (I (↑(j + (1 : Nat)) : Int)) H.nil)], fun u => of_eq ((↑j : Int) < (↑l.length : Int) ∧ aIndexAddr Tryd.prog (22 : Nat) (AV.sl (ints l) l.length r) (I (↑j : Int)) = some (AV.cptr (ints (List.drop j l))) ∧ aLoad Tryd.prog (3 : Nat) (ints (List.drop j l)) = some (I (l.getD j i0)) ∧ (↑i : Int) ≠ (↑j : Int) ∧ aBin Tryd.prog BinOp.and (3 : Nat) (I (at_ l i)) (I (l.getD j i0)) = some (I (↑((at_ l i).toNat &&& (at_ l j).toNat) : Int)) ∧ (↑((at_ l i).toNat &&& (at_ l j).toNat) : Int) ≠ (0 : Int) ∧ aIndexAddr Tryd.prog (22 : Nat) (AV.msl 0 0 l.length l.length (1 : Nat)) (I (↑i : Int)) = some (AV.ptr 0 i) ∧ aLoad Tryd.prog (3 : Nat) (List.drop i (ints m)) = some (I (m.getD i i0)) ∧ aBin Tryd.prog BinOp.shl (3 : Nat) (I 1) (I (↑j : Int)) = some (I (↑((2 : Nat) ^ j) : Int)) ∧ aBin Tryd.prog BinOp.or (3 : Nat) (I (m.getD i i0)) (I (↑((2 : Nat) ^ j) : Int)) = some (I (↑(cfR l i j ||| (2 : Nat) ^ j) : Int)) ∧ aIndexAddr Tryd.prog (22 : Nat) (AV.msl 0 0 l.length l.length (1 : Nat)) (I (↑i : Int)) = some (AV.ptr 0 i) ∧ aStore Tryd.prog H.nil.base (3 : Nat) (AV.ptr 0 i) (I (↑(cfR l i j ||| (2 : Nat) ^ j) : Int)) (H.mk [ints m] [] []) = some (H.mk [ints (m.set i (↑(cfR l i j ||| (2 : Nat) ^ j) : Int))] [] []) ∧ aBin Tryd.prog BinOp.add (3 : Nat) (I (↑j : Int)) (I 1) = some (I (↑(j + (1 : Nat)) : Int)) ∧ (49 : Nat) = (49 : Nat) ∧ j < l.length ∧ Keep (H.mk [ints (m.set i (↑(cfR l i j ||| (2 : Nat) ^ j) : Int))] [] [] = H.mk [ints (cfm l i (j + (1 : Nat)))] [] [] ∧ [AV.sl (ints l) l.length r, AV.msl 0 0 l.length l.length (1 : Nat), I (↑i : Int), I (at_ l i), AV.sl (ints l) l.length r, I (↑l.length : Int), I (↑i : Int), AV.sl (ints l) l.length r, I (↑l.length : Int), I (↑(j + (1 : Nat)) : Int)] = [AV.sl (ints l) l.length r, AV.msl 0 0 l.length l.length (1 : Nat), I (↑i : Int), I (at_ l i), AV.sl (ints l) l.length r, I (↑l.length : Int), I (↑i : Int), AV.sl (ints l) l.length r, I (↑l.length : Int), I (↑(j + (1 : Nat)) : Int)] ∧ j + (1 : Nat) ≤ l.length)) (by kernel_rfl) ?_⟩
        refine ⟨by first | with_reducible assumption | omega | assumption, ?_⟩
        refine ⟨by first | exact ix_ints (by kernel_rfl) (by omega) (by assumption) | exact ix_ints (by kernel_rfl) (by omega) (rok_idx (by assumption) (by omega)), ?_⟩
        refine ⟨by first | exact ld_ints (by kernel_rfl) (by kernel_rfl) (by omega) | exact ldm_ints (by kernel_rfl) (by kernel_rfl) (by first | omega | (simp; omega)), ?_⟩
        refine ⟨by first | with_reducible assumption | omega | assumption, ?_⟩
        refine ⟨told_and (by with_reducible assumption), ?_⟩
        refine ⟨by first | with_reducible assumption | omega | assumption, ?_⟩
        refine ⟨by first | exact ixm0 (by kernel_rfl) (by omega) | exact ixa0 (by kernel_rfl) (by omega), ?_⟩
        refine ⟨by first | exact ld_ints (by kernel_rfl) (by kernel_rfl) (by omega) | exact ldm_ints (by kernel_rfl) (by kernel_rfl) (by first | omega | (simp; omega)), ?_⟩
        refine ⟨by first | exact told_shl (by first | exact Int.natCast_nonneg _ | omega) (by with_reducible assumption) | exact told_shl (by omega) rfl, ?_⟩
        refine ⟨told_or (by with_reducible assumption), ?_⟩
        refine ⟨by first | exact ixm0 (by kernel_rfl) (by omega) | exact ixa0 (by kernel_rfl) (by omega), ?_⟩
        refine ⟨by first | exact st_ints (by kernel_rfl) rfl (by first | omega | (simp; omega) | (simp at *; omega)) | exact st_u64s (by kernel_rfl) rfl (by first | omega | (simp; omega) | (simp at *; omega)) | exact st_bools (by kernel_rfl) rfl (by first | omega | (simp; omega) | (simp at *; omega)), ?_⟩
        refine ⟨told_add (by with_reducible assumption), ?_⟩
        refine ⟨by first | with_reducible assumption | omega | assumption, ?_⟩
        refine ⟨by first | with_reducible assumption | omega | assumption, ?_⟩
        exact ⟨by rw [e], rfl, hz'⟩
  · have hz : (l.length : Int) ≤ j := by omega
    have hj' : j = l.length := by omega
    subst hj'
    refine ⟨[Ans.o (Orc.b false)], fun u => of_eq ((↑l.length : Int) ≤ (↑l.length : Int) ∧ (49 : Nat) = (49 : Nat) ∧ hits [Out.mk Unit (AX.exit (2 : Nat)) [(0 : Nat), (4 : Nat), (15 : Nat), (16 : Nat), (17 : Nat)] (fun x => True) (fun x => [ls l r, mc l, ls l r, I (↑l.length : Int), I (↑i : Int)]) (fun x => hcf (cfm l i l.length)) fun x => []] (AX.exit (2 : Nat)) [AV.sl (ints l) l.length r, u (1 : Nat), u (2 : Nat), u (3 : Nat), AV.msl 0 0 l.length l.length (1 : Nat), I (↑i : Int), I (at_ l i), u (7 : Nat), u (8 : Nat), u (9 : Nat), u (10 : Nat), u (11 : Nat), u (12 : Nat), u (13 : Nat), u (14 : Nat), AV.sl (ints l) l.length r, I (↑l.length : Int), I (↑i : Int), u (18 : Nat), u (19 : Nat), u (20 : Nat), u (21 : Nat), AV.sl (ints l) l.length r, I (↑l.length : Int), I (↑l.length : Int), AV.bool false, u (26 : Nat), u (27 : Nat), u (28 : Nat), u (29 : Nat), u (30 : Nat), u (31 : Nat), u (32 : Nat), u (33 : Nat), u (34 : Nat), u (35 : Nat), u (36 : Nat), u (37 : Nat), u (38 : Nat), u (39 : Nat), u (40 : Nat), u (41 : Nat), u (42 : Nat), u (43 : Nat), u (44 : Nat), u (45 : Nat), u (46 : Nat), u (47 : Nat), u (48 : Nat)] (H.mk [ints (cfm l i l.length)] [] [])) (by kernel_rfl) ?_⟩
    refine ⟨by first | with_reducible assumption | omega | assumption, ?_⟩
    refine ⟨by first | with_reducible assumption | omega | assumption, ?_⟩
    exact .inl ⟨(), trivial, rfl, rfl, rfl⟩
abbrev o18 (l : List Int) : List Out := [.mk Unit (.exit 0) [4] (fun _ => True) (fun _ => [mc l]) (fun _ => hcf (cfV l)) (fun _ => [])]
theorem simp18 : allSimpleM none1 (loopAt Tryd.f18 0) = true := by kernel_rfl
theorem lp18 (l : List Int) (r : Room) (hc : Chn l) (hr : rok l r) :
    LoopS (En6 [c57.to]) (loopAt Tryd.f18 0) 49 [0, 4, 15, 16, 17] [ls l r, mc l, ls l r, I l.length, I 0] (hcf (List.replicate l.length i0)) (o18 l) := by
  have hR : Rests (En6 [c57.to]) none1 := rests mixed (.pure _ .nil)
  have h6 := hc.1.2
  rw [← fil_0 (cfI l)]
  refine loop_s hR simp18 none (by intro _ h; cases h) (fun i vs h => h = hcf (fil (cfI l) i0 l.length i) ∧ vs = [ls l r, mc l, ls l r, I l.length, I (i : Nat)]) l.length ⟨rfl, rfl⟩ (by intro _ h; cases h) ?_
  rintro i vs h hi ⟨rfl, rfl⟩
  by_cases hz : (i : Int) < l.length
  · have hz' : i < l.length := by omega
    have hr' := rok_idx hr hz'
    have lpi := lp18i l r hc hr i hz'
    have e0 : cfm l i 0 = fil (cfI l) i0 l.length i := fil_setd (cfI l) i0 l.length i
    have e1 : cfm l i l.length = fil (cfI l) i0 l.length (i + 1) := fil_set (cfI l) i0 hz'
    rw [e0] at lpi
    simp only [o18i] at lpi
    rw [e1] at lpi
    have ev2 : IntKind.i64.wrap ((i : Int) + 1) = ((i + 1 : Nat) : Int) := by
      have : (i : Int) + 1 = ((i + 1 : Nat) : Int) := by omega
      rw [this]; exact i_wrap (by omega)
    generalize hm' : fil (cfI l) i0 l.length (i + 1) = m' at *
    generalize fil (cfI l) i0 l.length i = m at *
    refine ⟨[Ans.o (Orc.b true), Ans.o (Orc.val 20 (AV.cptr (ints (List.drop i l))) H.nil), Ans.o (Orc.val 21 (I (l.getD i i0)) H.nil), Ans.loop [(0 : Nat), (4 : Nat), (5 : Nat), (6 : Nat), (15 : Nat), (16 : Nat), (17 : Nat), (22 : Nat), (23 : Nat), (24 : Nat)] [Out.mk Unit (AX.exit (2 : Nat)) [(0 : Nat), (4 : Nat), (15 : Nat), (16 : Nat), (17 : Nat)] (fun x => True) (fun x => [ls l r, mc l, ls l r, I (↑l.length : Int), I (↑i : Int)]) (fun x => hcf m') fun y => [Ans.o (Orc.val 47 (I (↑(i + (1 : Nat)) : Int)) H.nil)]]], fun u => of_eq ((↑i : Int) < (↑l.length : Int) ∧ aIndexAddr Tryd.prog (22 : Nat) (AV.sl (ints l) l.length r) (I (↑i : Int)) = some (AV.cptr (ints (List.drop i l))) ∧ aLoad Tryd.prog (3 : Nat) (ints (List.drop i l)) = some (I (l.getD i i0)) ∧ LoopS (Env.mk Tryd.prog (Sof [c57.to]) (Pof (P := Tryd.prog) []) H.nil.base (300 : Nat)) (loopAt Tryd.f18 (1 : Nat)) (49 : Nat) [(0 : Nat), (4 : Nat), (5 : Nat), (6 : Nat), (15 : Nat), (16 : Nat), (17 : Nat), (22 : Nat), (23 : Nat), (24 : Nat)] [AV.sl (ints l) l.length r, AV.msl 0 0 l.length l.length (1 : Nat), I (↑i : Int), I (l.getD i i0), AV.sl (ints l) l.length r, I (↑l.length : Int), I (↑i : Int), AV.sl (ints l) l.length r, I (↑l.length : Int), I 0] (H.mk [ints m] [] []) [Out.mk Unit (AX.exit (2 : Nat)) [(0 : Nat), (4 : Nat), (15 : Nat), (16 : Nat), (17 : Nat)] (fun x => True) (fun x => [ls l r, mc l, ls l r, I (↑l.length : Int), I (↑i : Int)]) (fun x => hcf m') fun y => [Ans.o (Orc.val 47 (I (↑(i + (1 : Nat)) : Int)) H.nil)]] ∧ (∀ (y : Unit), True → ∀ (u : Nat → AV), aBin Tryd.prog BinOp.add (3 : Nat) (I (↑i : Int)) (I 1) = some (I (↑(i + (1 : Nat)) : Int)) ∧ (49 : Nat) = (49 : Nat) ∧ i < l.length ∧ Keep (H.mk [ints m'] [] [] = H.mk [ints (fil (cfI l) i0 l.length (i + (1 : Nat)))] [] [] ∧ [AV.sl (ints l) l.length r, AV.msl 0 0 l.length l.length (1 : Nat), AV.sl (ints l) l.length r, I (↑l.length : Int), I (↑(i + (1 : Nat)) : Int)] = [AV.sl (ints l) l.length r, AV.msl 0 0 l.length l.length (1 : Nat), AV.sl (ints l) l.length r, I (↑l.length : Int), I (↑(i + (1 : Nat)) : Int)])) ∧ True) (by kernel_rfl) ?_⟩
    refine ⟨by first | with_reducible assumption | omega | assumption, ?_⟩
    refine ⟨by first | exact ix_ints (by kernel_rfl) (by omega) (by assumption) | exact ix_ints (by kernel_rfl) (by omega) (rok_idx (by assumption) (by omega)), ?_⟩
    refine ⟨by first | exact ld_ints (by kernel_rfl) (by kernel_rfl) (by omega) | exact ldm_ints (by kernel_rfl) (by kernel_rfl) (by first | omega | (simp; omega)), ?_⟩
    refine ⟨lpi, ?_⟩
    refine And.intro ?_ ?_
    · skip
      intro y
      intro w1
      intro u
      refine ⟨told_add (by with_reducible assumption), ?_⟩
      refine ⟨by first | with_reducible assumption | omega | assumption, ?_⟩
      refine ⟨by first | with_reducible assumption | omega | assumption, ?_⟩
      exact ⟨by rw [hm'], rfl⟩
    · skip
      trivial
  · have hz : (l.length : Int) ≤ i := by omega
    have hi' : i = l.length := by omega
    subst hi'
    have hn : fil (cfI l) i0 l.length l.length = cfV l := fil_n (cfI l) i0 l.length
    rw [hn]
    refine ⟨[Ans.o (Orc.b false)], fun u => of_eq ((↑l.length : Int) ≤ (↑l.length : Int) ∧ (49 : Nat) = (49 : Nat) ∧ hits [Out.mk Unit (AX.exit (0 : Nat)) [(4 : Nat)] (fun x => True) (fun x => [mc l]) (fun x => hcf (cfV l)) fun x => []] (AX.exit (0 : Nat)) [AV.sl (ints l) l.length r, u (1 : Nat), u (2 : Nat), u (3 : Nat), AV.msl 0 0 l.length l.length (1 : Nat), u (5 : Nat), u (6 : Nat), u (7 : Nat), u (8 : Nat), u (9 : Nat), u (10 : Nat), u (11 : Nat), u (12 : Nat), u (13 : Nat), u (14 : Nat), AV.sl (ints l) l.length r, I (↑l.length : Int), I (↑l.length : Int), AV.bool false, u (19 : Nat), u (20 : Nat), u (21 : Nat), u (22 : Nat), u (23 : Nat), u (24 : Nat), u (25 : Nat), u (26 : Nat), u (27 : Nat), u (28 : Nat), u (29 : Nat), u (30 : Nat), u (31 : Nat), u (32 : Nat), u (33 : Nat), u (34 : Nat), u (35 : Nat), u (36 : Nat), u (37 : Nat), u (38 : Nat), u (39 : Nat), u (40 : Nat), u (41 : Nat), u (42 : Nat), u (43 : Nat), u (44 : Nat), u (45 : Nat), u (46 : Nat), u (47 : Nat), u (48 : Nat)] (H.mk [ints (cfV l)] [] [])) (by kernel_rfl) ?_⟩
    refine ⟨by first | with_reducible assumption | omega | assumption, ?_⟩
    refine ⟨by first | with_reducible assumption | omega | assumption, ?_⟩
    exact .inl ⟨(), trivial, rfl, rfl, rfl⟩
theorem leave_mt {m : List Int} {n : Nat} (hn : m.length = n) : leave ⟨0, 0, 0⟩ (.tup [.msl 0 0 n n 1, I 0]) ⟨[ints m], [], []⟩ = (.tup [.sl (ints m) n .full, I 0], .nil) := by
  subst hn
  have hz := enc_frz ints_c1 m 0 0 ⟨[ints m], [], []⟩ 3
  have hb2 := enc_bnds ints_c1 m 0 0 0
  have ht : List.take (m.length * 1) (List.drop 0 (ints m)) = ints m := by rw [Nat.mul_one, List.drop_zero]; exact List.take_of_length_le (by simp)
  have hz : List.map (frz 0 0 ⟨[ints m], [], []⟩ 4) (ints m) = ints m := hz
  have hb2 : AV.bnds 0 0 0 (ints m) = true := hb2
  have e1 : frz 0 0 ⟨[ints m], [], []⟩ 6 (.tup [.msl 0 0 m.length m.length 1, I 0]) = .tup [.sl (ints m) m.length .full, I 0] := by
    simp only [frz, List.map_cons, List.map_nil, Nat.not_lt_zero, if_false, List.getElem?_cons_zero, ht, hz, if_true]
  generalize ints m = c at hb2 e1 ⊢
  simp only [leave, e1]
  simp [AV.bnd, AV.bnds, hb2, Room.bnd, retok, H.nil]
theorem ok18 : FokM Tryd.prog none1 18 Tryd.f18 := ⟨mixed, by kernel_rfl, by kernel_rfl, by kernel_rfl, by kernel_rfl⟩
theorem r18 (l : List Int) (r : Room) (hp : (lim l.length ∧ rok l r) ∧ Chn l) : Body ⟨Tryd.prog, Sof (P := Tryd.prog) [c57.to], Pof (P := Tryd.prog) [], H.nil.base, 300⟩ none1 Tryd.f18 [ls l r] .nil (.tup [ls (cfV l) .full, I 0], ⟨[], [], []⟩) := by
  obtain ⟨p57, hc⟩ := hp
  have h6 := hc.1.2
  have b57 := chB_t hc
  have hn := cfV_len l
  have lp := lp18 l r hc p57.2
  simp only [ls, hn]
  refine body_s ([Ans.o (Orc.val 10 (AV.bool true) (H.mk [] [] [])), Ans.o (Orc.val 14 (AV.msl 0 0 l.length l.length (1 : Nat)) (H.mk [ints (List.replicate l.length i0)] [] [])), Ans.loop [(0 : Nat), (4 : Nat), (15 : Nat), (16 : Nat), (17 : Nat)] [Out.mk Unit (AX.exit (0 : Nat)) [(4 : Nat)] (fun x => True) (fun x => [mc l]) (fun x => hcf (cfV l)) fun y => []]]) (aCall (Sof [c57.to]) (AV.fn (Fn.func (57 : Nat)) [] []) [AV.sl (ints l) l.length r] (H.mk [] [] []) = some (AV.bool true, H.mk [] [] []) ∧ aMake Tryd.prog (22 : Nat) (↑l.length : Int) (↑l.length : Int) (H.mk [] [] []) = some (AV.msl 0 0 l.length l.length (1 : Nat), H.mk [ints (List.replicate l.length i0)] [] []) ∧ LoopS (Env.mk Tryd.prog (Sof [c57.to]) (Pof (P := Tryd.prog) []) H.nil.base (300 : Nat)) (loopAt Tryd.f18 (0 : Nat)) (49 : Nat) [(0 : Nat), (4 : Nat), (15 : Nat), (16 : Nat), (17 : Nat)] [AV.sl (ints l) l.length r, AV.msl 0 0 l.length l.length (1 : Nat), AV.sl (ints l) l.length r, I (↑l.length : Int), I 0] (H.mk [ints (List.replicate l.length i0)] [] []) [Out.mk Unit (AX.exit (0 : Nat)) [(4 : Nat)] (fun x => True) (fun x => [mc l]) (fun x => hcf (cfV l)) fun y => []] ∧ (∀ (y : Unit), True → ∀ (u : Nat → AV), leave (Base.mk H.nil.blk.length H.nil.toks.length H.nil.maps.length) (AV.tup [AV.msl 0 0 l.length l.length (1 : Nat), I 0]) (H.mk [ints (cfV l)] [] []) = (AV.tup [AV.sl (ints (cfV l)) l.length Room.full, I 0], H.mk [] [] [])) ∧ True) (by kernel_rfl) ?_
  refine ⟨acall_b (acall_hit (c := c57.to) (l, r) _ rfl p57) b57, ?_⟩
  refine ⟨by first | exact mk_u64s (by kernel_rfl) (by omega) | exact mk_ints (by kernel_rfl) (by omega) | exact mk_bools (by kernel_rfl) (by omega), ?_⟩
  refine ⟨lp, ?_⟩
  refine And.intro ?_ ?_
  · skip
    intro y
    intro w1
    intro u
    exact leave_mt hn
  · skip
    trivial
noncomputable def c18 : PCtr Tryd.prog := slctr ok18 (X := List Int × Room) (fun x => [ls x.1 x.2]) (fun x => (lim x.1.length ∧ rok x.1 x.2) ∧ Chn x.1) (fun x => .tup [ls (cfV x.1) .no, I 0]) (by intro x y e _ _; simp at e; simp [e]) (fun x => by simp [AV.bnds, AV.bnd, AV.wk, rm_wk_bnd]) (fun x => by first | rfl | (simp [AV.bnd, rm_wk_bnd]; done)  | (simp [AV.bnd, AV.bnds, rm_wk_bnd]; done) | simp [AV.bnd, AV.bnds, Room.bnd, rm_wk_bnd]) (fun x hx => ⟨_, _, _, .tup [ls (cfV x.1) .full, I 0], [], .pure c57 (.nil), r18 (x.1) (x.2).wk (by first | exact hx | (simp only [rok_wk]; exact hx) | (simp only [rok_wk, lst_wk]; exact hx) | (simp only [rok_wk, lst_wk, lsn_wk]; exact hx)), by simp [AV.plain, AV.plains, plains_ints, plains_rows], by first | (simp only [AV.wkd, wkds_rows]; done) | (simp only [AV.wkd, wkds_ints]; done) | simp [AV.wkd, AV.wkds, Room.wk]⟩)
end Go.Proofs.Sur

