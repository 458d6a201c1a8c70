/- Layer 5: what comes with which signals, and what may be taken for what. -/
import Derived.Test.YtlomlnkafakloaaDoorSzE
import Derived.Test.YtlomlnkafakloaaDoorSvD
import Derived.KernelRfl
set_option linter.unusedSimpArgs false
set_option linter.unusedVariables false
set_option linter.unnecessarySimpa false
set_option maxHeartbeats 4000000
set_option maxRecDepth 100000
namespace Go.Proofs.Sur
open Go Go.VM

/-- the signals below a number with which an output can come -/
def mtS (l : List Int) (k : Nat) : Nat → Nat
  | 0 => 0
  | j + 1 => if bi (at_ l j) k = true then mtS l k j ||| 2 ^ j else mtS l k j
theorem mtS_bit (l : List Int) (k : Nat) : ∀ n j, (mtS l k n).testBit j = (decide (j < n) && bi (at_ l j) k)
  | 0, j => by simp [mtS]
  | n + 1, j => by
    have e2 : j ≠ n → decide (j < n + 1) = decide (j < n) := fun e => by congr 1; exact propext ⟨fun _ => by omega, fun _ => by omega⟩
    cases h : bi (at_ l n) k
    · rw [mtS, h, if_neg (by decide), mtS_bit l k n j]
      by_cases e : j = n
      · subst e; rw [h, Bool.and_false, Bool.and_false]
      · rw [e2 e]
    · rw [mtS, h, if_pos rfl, Nat.testBit_or, mtS_bit l k n j, Nat.testBit_two_pow]
      by_cases e : j = n
      · subst e; rw [h]; simp
      · have e1 : decide (n = j) = false := by simp; omega
        rw [e1, e2 e, Bool.or_false]
theorem mtS_lt (l : List Int) (k : Nat) : ∀ n, mtS l k n < 2 ^ n
  | 0 => by simp [mtS]
  | n + 1 => by
    have h1 := mtS_lt l k n
    have h2 : 2 ^ n < 2 ^ (n + 1) := Nat.pow_lt_pow_right (by decide) (by omega)
    rw [mtS]; split
    · exact Nat.or_lt_two_pow (by omega) h2
    · omega
/-- the outputs' sets, of those that can come -/
def meL (l : List Int) : Nat → List Int
  | 0 => []
  | k + 1 => if mtS l k l.length = 0 then meL l k else meL l k ++ [(mtS l k l.length : Int)]
def meV (l : List Int) : List Int := meL l 8
theorem meL_len (l : List Int) : ∀ k, (meL l k).length ≤ k
  | 0 => Nat.le_refl 0
  | k + 1 => by
    have := meL_len l k
    simp only [meL]; split
    · omega
    · simp; omega
theorem mtS_64 {l : List Int} (h : sz l) (k j : Nat) (hj : j ≤ l.length) : mtS l k j < 64 := by
  have h1 := mtS_lt l k j
  have h2 : 2 ^ j ≤ 2 ^ 6 := Nat.pow_le_pow_right (by decide) (by have := h.2; omega)
  omega
abbrev o59i (l : List Int) (r : Room) (m : List Int) (k : Nat) : List Out :=
  [.mk Unit (.exit 2) [0, 3, 5, 8] (fun _ => True) (fun _ => [ls l r, iac m, I (mtS l k l.length : Nat), I (k : Nat)]) (fun _ => ihc m) (fun _ => [])]
theorem simp59i : allSimpleM none1 (loopAt Tryd.f59 1) = true := by kernel_rfl
theorem lp59i (l : List Int) (r : Room) (hc : Chn l) (hr : rok l r) (m : List Int) (k : Nat) (hk : k < 8) :
    LoopS (En6 [c71.to]) (loopAt Tryd.f59 1) 34 [0, 3, 4, 5, 8, 11, 12, 13] [ls l r, iac m, I (k : Nat), I 0, I (k : Nat), ls l r, I l.length, I 0] (ihc m) (o59i l r m k) := by
  have hR : Rests (En6 [c71.to]) none1 := rests mixed (.pure _ .nil)
  have h6 := hc.1.2
  refine loop_s hR simp59i none (by intro _ h; cases h) (fun j vs h => h = ihc m ∧ vs = [ls l r, iac m, I (k : Nat), I (mtS l k j : Nat), I (k : Nat), ls l r, I l.length, I (j : Nat)] ∧ j ≤ l.length) l.length ⟨rfl, rfl, Nat.zero_le _⟩ (by intro _ h; cases h) ?_
  rintro j vs h hj ⟨rfl, rfl, hle⟩
  by_cases hz : (j : Int) < l.length
  · have hz' : j < l.length := by omega
    have hr' := rok_idx hr hz'
    have hb := hc.2 j hz'
    have p71 : (0 ≤ at_ l j ∧ at_ l j < 9223372036854775808) ∧ 0 ≤ (k : Int) ∧ (k : Int) ≤ 64 := ⟨⟨by omega, by omega⟩, by omega⟩
    have hs := mtS_64 hc.1 k j hle
    have h2 : 2 ^ j < 2 ^ 6 := Nat.pow_lt_pow_right (by decide) (by omega)
    have ev0 := pw_shl (n := j) (by omega)
    have ev1 := i_or (a := mtS l k j) (b := 2 ^ j) (by omega) (by omega)
    have ev2 : IntKind.i64.wrap ((j : Int) + 1) = ((j + 1 : Nat) : Int) := by
      have : (j : Int) + 1 = ((j + 1 : Nat) : Int) := by omega
      rw [this]; exact i_wrap (by omega)
    cases c1 : bi (at_ l j) ((k : Int)).toNat
    · have e : mtS l k (j + 1) = mtS l k j := by
        have c1 : bi (at_ l j) k = false := c1
        rw [mtS, c1]; rfl
      refine ⟨[Ans.o (Orc.b true), Ans.o (Orc.val 16 (AV.cptr (ints (List.drop j l))) H.nil), Ans.o (Orc.val 17 (I (l.getD j i0)) H.nil), Ans.o (Orc.val 20 (AV.bool false) (H.mk [] (tk m) [])), Ans.o (Orc.val 25 (I (↑(j + (1 : Nat)) : Int)) H.nil)], fun u => of_eq ((↑j : Int) < (↑l.length : Int) ∧ aIndexAddr Tryd.prog (22 : Nat) (AV.sl (ints l) l.length r) (I (↑j : Int)) = some (AV.cptr (ints (List.drop j l))) ∧ aLoad Tryd.prog (3 : Nat) (ints (List.drop j l)) = some (I (l.getD j i0)) ∧ aCall (Sof [c71.to]) (AV.fn (Fn.func (71 : Nat)) [] []) [I (l.getD j i0), I (↑k : Int)] (H.mk [] (tk m) []) = some (AV.bool false, H.mk [] (tk m) []) ∧ aBin Tryd.prog BinOp.add (3 : Nat) (I (↑j : Int)) (I 1) = some (I (↑(j + (1 : Nat)) : Int)) ∧ (34 : Nat) = (34 : Nat) ∧ j < l.length ∧ Keep (H.mk [] (tk m) [] = H.mk [] (tk m) [] ∧ [AV.sl (ints l) l.length r, AV.sl (ints m) m.length (rm (0 : Nat) m), I (↑k : Int), I (↑(mtS l k j) : Int), I (↑k : Int), AV.sl (ints l) l.length r, I (↑l.length : Int), I (↑(j + (1 : Nat)) : Int)] = [AV.sl (ints l) l.length r, AV.sl (ints m) m.length (rm (0 : Nat) m), I (↑k : Int), I (↑(mtS l k (j + (1 : Nat))) : Int), I (↑k : Int), AV.sl (ints l) l.length r, I (↑l.length : Int), I (↑(j + (1 : Nat)) : Int)] ∧ j + (1 : Nat) ≤ l.length)) (by kernel_rfl) ?_⟩
      refine ⟨by first | with_reducible assumption | omega | assumption, ?_⟩
      refine ⟨by first | exact ix_ints (by kernel_rfl) (by omega) (by assumption) | exact ix_ints (by kernel_rfl) (by omega) (rok_idx (by assumption) (by omega)), ?_⟩
      refine ⟨by first | exact ld_ints (by kernel_rfl) (by kernel_rfl) (by omega) | exact ldm_ints (by kernel_rfl) (by kernel_rfl) (by first | omega | (simp; omega)), ?_⟩
      refine ⟨acall_b (acall_hit (c := c71.to) (at_ l j, (k : Int)) _ rfl p71) c1, ?_⟩
      refine ⟨told_add (by with_reducible assumption), ?_⟩
      refine ⟨by first | with_reducible assumption | omega | assumption, ?_⟩
      refine ⟨by first | with_reducible assumption | omega | assumption, ?_⟩
      exact ⟨rfl, by rw [e], hz'⟩
    · have e : mtS l k (j + 1) = mtS l k j ||| 2 ^ j := by
        have c1 : bi (at_ l j) k = true := c1
        rw [mtS, c1]; rfl
      refine ⟨[Ans.o (Orc.b true), Ans.o (Orc.val 16 (AV.cptr (ints (List.drop j l))) H.nil), Ans.o (Orc.val 17 (I (l.getD j i0)) H.nil), Ans.o (Orc.val 20 (AV.bool true) (H.mk [] (tk m) [])), Ans.o (Orc.val 23 (I (↑((2 : Nat) ^ j) : Int)) H.nil), Ans.o (Orc.val 24 (I (↑(mtS l k j ||| (2 : Nat) ^ j) : Int)) H.nil), Ans.o (Orc.val 25 (I (↑(j + (1 : Nat)) : Int)) H.nil)], fun u => of_eq ((↑j : Int) < (↑l.length : Int) ∧ aIndexAddr Tryd.prog (22 : Nat) (AV.sl (ints l) l.length r) (I (↑j : Int)) = some (AV.cptr (ints (List.drop j l))) ∧ aLoad Tryd.prog (3 : Nat) (ints (List.drop j l)) = some (I (l.getD j i0)) ∧ aCall (Sof [c71.to]) (AV.fn (Fn.func (71 : Nat)) [] []) [I (l.getD j i0), I (↑k : Int)] (H.mk [] (tk m) []) = some (AV.bool true, H.mk [] (tk m) []) ∧ aBin Tryd.prog BinOp.shl (3 : Nat) (I 1) (I (↑j : Int)) = some (I (↑((2 : Nat) ^ j) : Int)) ∧ aBin Tryd.prog BinOp.or (3 : Nat) (I (↑(mtS l k j) : Int)) (I (↑((2 : Nat) ^ j) : Int)) = some (I (↑(mtS l k j ||| (2 : Nat) ^ j) : Int)) ∧ aBin Tryd.prog BinOp.add (3 : Nat) (I (↑j : Int)) (I 1) = some (I (↑(j + (1 : Nat)) : Int)) ∧ (34 : Nat) = (34 : Nat) ∧ j < l.length ∧ Keep (H.mk [] (tk m) [] = H.mk [] (tk m) [] ∧ [AV.sl (ints l) l.length r, AV.sl (ints m) m.length (rm (0 : Nat) m), I (↑k : Int), I (↑(mtS l k j ||| (2 : Nat) ^ j) : Int), I (↑k : Int), AV.sl (ints l) l.length r, I (↑l.length : Int), I (↑(j + (1 : Nat)) : Int)] = [AV.sl (ints l) l.length r, AV.sl (ints m) m.length (rm (0 : Nat) m), I (↑k : Int), I (↑(mtS l k (j + (1 : Nat))) : Int), I (↑k : Int), AV.sl (ints l) l.length r, I (↑l.length : Int), I (↑(j + (1 : Nat)) : Int)] ∧ j + (1 : Nat) ≤ l.length)) (by kernel_rfl) ?_⟩
      refine ⟨by first | with_reducible assumption | omega | assumption, ?_⟩
      refine ⟨by first | exact ix_ints (by kernel_rfl) (by omega) (by assumption) | exact ix_ints (by kernel_rfl) (by omega) (rok_idx (by assumption) (by omega)), ?_⟩
      refine ⟨by first | exact ld_ints (by kernel_rfl) (by kernel_rfl) (by omega) | exact ldm_ints (by kernel_rfl) (by kernel_rfl) (by first | omega | (simp; omega)), ?_⟩
      refine ⟨acall_b (acall_hit (c := c71.to) (at_ l j, (k : Int)) _ rfl p71) c1, ?_⟩
      refine ⟨by first | exact told_shl (by first | exact Int.natCast_nonneg _ | omega) (by with_reducible assumption) | exact told_shl (by omega) rfl, ?_⟩
      refine ⟨told_or (by with_reducible assumption), ?_⟩
      refine ⟨told_add (by with_reducible assumption), ?_⟩
      refine ⟨by first | with_reducible assumption | omega | assumption, ?_⟩
      refine ⟨by first | with_reducible assumption | omega | assumption, ?_⟩
      exact ⟨rfl, by rw [e], hz'⟩
  · have hz : (l.length : Int) ≤ j := by omega
    have hj' : j = l.length := by omega
    subst hj'
    refine ⟨[Ans.o (Orc.b false)], fun u => of_eq ((↑l.length : Int) ≤ (↑l.length : Int) ∧ (34 : Nat) = (34 : Nat) ∧ hits [Out.mk Unit (AX.exit (2 : Nat)) [(0 : Nat), (3 : Nat), (5 : Nat), (8 : Nat)] (fun x => True) (fun x => [ls l r, iac m, I (↑(mtS l k l.length) : Int), I (↑k : Int)]) (fun x => ihc m) fun x => []] (AX.exit (2 : Nat)) [AV.sl (ints l) l.length r, u (1 : Nat), u (2 : Nat), AV.sl (ints m) m.length (rm (0 : Nat) m), I (↑k : Int), I (↑(mtS l k l.length) : Int), u (6 : Nat), u (7 : Nat), I (↑k : Int), u (9 : Nat), u (10 : Nat), AV.sl (ints l) l.length r, I (↑l.length : Int), I (↑l.length : Int), AV.bool false, u (15 : Nat), u (16 : Nat), u (17 : Nat), u (18 : Nat), u (19 : Nat), u (20 : Nat), u (21 : Nat), u (22 : Nat), u (23 : Nat), u (24 : Nat), u (25 : Nat), u (26 : Nat), u (27 : Nat), u (28 : Nat), u (29 : Nat), u (30 : Nat), u (31 : Nat), u (32 : Nat), u (33 : Nat)] (H.mk [] (tk m) [])) (by kernel_rfl) ?_⟩
    refine ⟨by first | with_reducible assumption | omega | assumption, ?_⟩
    refine ⟨by first | with_reducible assumption | omega | assumption, ?_⟩
    exact .inl ⟨(), trivial, rfl, rfl, rfl⟩
abbrev o59 (l : List Int) : List Out := [.mk Unit (.exit 0) [3] (fun _ => True) (fun _ => [iac (meV l)]) (fun _ => ihc (meV l)) (fun _ => [])]
theorem simp59 : allSimpleM none1 (loopAt Tryd.f59 0) = true := by kernel_rfl
theorem lp59 (l : List Int) (r : Room) (hc : Chn l) (hr : rok l r) :
    LoopS (En6 [c71.to]) (loopAt Tryd.f59 0) 34 [0, 3, 8] [ls l r, .sl [] 0 .nil, I 0] .nil (o59 l) := by
  have hR : Rests (En6 [c71.to]) none1 := rests mixed (.pure _ .nil)
  refine loop_s hR simp59 none (by intro _ h; cases h) (fun k vs h => h = ihc (meL l k) ∧ vs = [ls l r, iac (meL l k), I (k : Nat)] ∧ k ≤ 8) 8 ⟨rfl, rfl, by omega⟩ (by intro _ h; cases h) ?_
  rintro k vs h hk ⟨rfl, rfl, hle⟩
  have hlen := meL_len l k
  by_cases hz : (k : Int) < 8
  · have hz' : k < 8 := by omega
    have lpi := lp59i l r hc hr (meL l k) k hz'
    have ev0 : IntKind.i64.wrap ((k : Int) + 1) = ((k + 1 : Nat) : Int) := by
      have : (k : Int) + 1 = ((k + 1 : Nat) : Int) := by omega
      rw [this]; exact i_wrap (by omega)
    by_cases h0 : mtS l k l.length = 0
    · have h0' : ((mtS l k l.length : Nat) : Int) = 0 := by omega
      have e : meL l (k + 1) = meL l k := by rw [meL, if_pos h0]
      generalize meL l k = m at hlen lpi e
      refine ⟨[Ans.o (Orc.b true), Ans.loop [(0 : Nat), (3 : Nat), (4 : Nat), (5 : Nat), (8 : Nat), (11 : Nat), (12 : Nat), (13 : Nat)] [Out.mk Unit (AX.exit (2 : Nat)) [(0 : Nat), (3 : Nat), (5 : Nat), (8 : Nat)] (fun x => True) (fun x => [ls l r, iac m, I (↑(mtS l k l.length) : Int), I (↑k : Int)]) (fun x => ihc m) fun y => [Ans.o (Orc.b false), Ans.o (Orc.val 32 (I (↑(k + (1 : Nat)) : Int)) H.nil)]]], fun u => of_eq ((↑k : Int) < (8 : Int) ∧ LoopS (Env.mk Tryd.prog (Sof [c71.to]) (Pof (P := Tryd.prog) []) H.nil.base (300 : Nat)) (loopAt Tryd.f59 (1 : Nat)) (34 : Nat) [(0 : Nat), (3 : Nat), (4 : Nat), (5 : Nat), (8 : Nat), (11 : Nat), (12 : Nat), (13 : Nat)] [AV.sl (ints l) l.length r, AV.sl (ints m) m.length (rm (0 : Nat) m), I (↑k : Int), I 0, I (↑k : Int), AV.sl (ints l) l.length r, I (↑l.length : Int), I 0] (H.mk [] (tk m) []) [Out.mk Unit (AX.exit (2 : Nat)) [(0 : Nat), (3 : Nat), (5 : Nat), (8 : Nat)] (fun x => True) (fun x => [ls l r, iac m, I (↑(mtS l k l.length) : Int), I (↑k : Int)]) (fun x => ihc m) fun y => [Ans.o (Orc.b false), Ans.o (Orc.val 32 (I (↑(k + (1 : Nat)) : Int)) H.nil)]] ∧ (∀ (y : Unit), True → ∀ (u : Nat → AV), (↑(mtS l k l.length) : Int) = (0 : Int) ∧ aBin Tryd.prog BinOp.add (3 : Nat) (I (↑k : Int)) (I 1) = some (I (↑(k + (1 : Nat)) : Int)) ∧ (34 : Nat) = (34 : Nat) ∧ k < (8 : Nat) ∧ Keep (H.mk [] (tk m) [] = H.mk [] (tk (meL l (k + (1 : Nat)))) [] ∧ [AV.sl (ints l) l.length r, AV.sl (ints m) m.length (rm (0 : Nat) m), I (↑(k + (1 : Nat)) : Int)] = [AV.sl (ints l) l.length r, AV.sl (ints (meL l (k + (1 : Nat)))) (meL l (k + (1 : Nat))).length (rm (0 : Nat) (meL l (k + (1 : Nat)))), I (↑(k + (1 : Nat)) : Int)] ∧ k + (1 : Nat) ≤ (8 : Nat))) ∧ True) (by kernel_rfl) ?_⟩
      refine ⟨by first | with_reducible assumption | omega | assumption, ?_⟩
      refine ⟨lpi, ?_⟩
      refine And.intro ?_ ?_
      · skip
        intro y
        intro w1
        intro u
        refine ⟨by first | with_reducible assumption | omega | assumption, ?_⟩
        refine ⟨told_add (by with_reducible assumption), ?_⟩
        refine ⟨by first | with_reducible assumption | omega | assumption, ?_⟩
        refine ⟨by first | with_reducible assumption | omega | assumption, ?_⟩
        exact ⟨by rw [e], by rw [e]; try rfl, hz'⟩
      · skip
        trivial
    · have h0' : ((mtS l k l.length : Nat) : Int) ≠ 0 := by omega
      have e : meL l (k + 1) = meL l k ++ [((mtS l k l.length : Nat) : Int)] := by rw [meL, if_neg h0]
      generalize meL l k = m at hlen lpi e
      refine ⟨[Ans.o (Orc.b true), Ans.loop [(0 : Nat), (3 : Nat), (4 : Nat), (5 : Nat), (8 : Nat), (11 : Nat), (12 : Nat), (13 : Nat)] [Out.mk Unit (AX.exit (2 : Nat)) [(0 : Nat), (3 : Nat), (5 : Nat), (8 : Nat)] (fun x => True) (fun x => [ls l r, iac m, I (↑(mtS l k l.length) : Int), I (↑k : Int)]) (fun x => ihc m) fun y => [Ans.o (Orc.b true), Ans.o (Orc.val 31 (AV.sl (ints (m ++ [(↑(mtS l k l.length) : Int)])) (m ++ [(↑(mtS l k l.length) : Int)]).length (rm (0 : Nat) (m ++ [(↑(mtS l k l.length) : Int)]))) (H.mk [] (tk (m ++ [(↑(mtS l k l.length) : Int)])) [])), Ans.o (Orc.val 32 (I (↑(k + (1 : Nat)) : Int)) H.nil)]]], fun u => of_eq ((↑k : Int) < (8 : Int) ∧ LoopS (Env.mk Tryd.prog (Sof [c71.to]) (Pof (P := Tryd.prog) []) H.nil.base (300 : Nat)) (loopAt Tryd.f59 (1 : Nat)) (34 : Nat) [(0 : Nat), (3 : Nat), (4 : Nat), (5 : Nat), (8 : Nat), (11 : Nat), (12 : Nat), (13 : Nat)] [AV.sl (ints l) l.length r, AV.sl (ints m) m.length (rm (0 : Nat) m), I (↑k : Int), I 0, I (↑k : Int), AV.sl (ints l) l.length r, I (↑l.length : Int), I 0] (H.mk [] (tk m) []) [Out.mk Unit (AX.exit (2 : Nat)) [(0 : Nat), (3 : Nat), (5 : Nat), (8 : Nat)] (fun x => True) (fun x => [ls l r, iac m, I (↑(mtS l k l.length) : Int), I (↑k : Int)]) (fun x => ihc m) fun y => [Ans.o (Orc.b true), Ans.o (Orc.val 31 (AV.sl (ints (m ++ [(↑(mtS l k l.length) : Int)])) (m ++ [(↑(mtS l k l.length) : Int)]).length (rm (0 : Nat) (m ++ [(↑(mtS l k l.length) : Int)]))) (H.mk [] (tk (m ++ [(↑(mtS l k l.length) : Int)])) [])), Ans.o (Orc.val 32 (I (↑(k + (1 : Nat)) : Int)) H.nil)]] ∧ (∀ (y : Unit), True → ∀ (u : Nat → AV), (↑(mtS l k l.length) : Int) ≠ (0 : Int) ∧ aAppend Tryd.prog (22 : Nat) (22 : Nat) (AV.sl (ints m) m.length (rm (0 : Nat) m)) (AV.sl [I (↑(mtS l k l.length) : Int)] (1 : Nat) Room.full) (H.mk [] (tk m) []) = some (AV.sl (ints (m ++ [(↑(mtS l k l.length) : Int)])) (m ++ [(↑(mtS l k l.length) : Int)]).length (rm (0 : Nat) (m ++ [(↑(mtS l k l.length) : Int)])), H.mk [] (tk (m ++ [(↑(mtS l k l.length) : Int)])) []) ∧ aBin Tryd.prog BinOp.add (3 : Nat) (I (↑k : Int)) (I 1) = some (I (↑(k + (1 : Nat)) : Int)) ∧ (34 : Nat) = (34 : Nat) ∧ k < (8 : Nat) ∧ Keep (H.mk [] (tk (m ++ [(↑(mtS l k l.length) : Int)])) [] = H.mk [] (tk (meL l (k + (1 : Nat)))) [] ∧ [AV.sl (ints l) l.length r, AV.sl (ints (m ++ [(↑(mtS l k l.length) : Int)])) (m ++ [(↑(mtS l k l.length) : Int)]).length (rm (0 : Nat) (m ++ [(↑(mtS l k l.length) : Int)])), I (↑(k + (1 : Nat)) : Int)] = [AV.sl (ints l) l.length r, AV.sl (ints (meL l (k + (1 : Nat)))) (meL l (k + (1 : Nat))).length (rm (0 : Nat) (meL l (k + (1 : Nat)))), I (↑(k + (1 : Nat)) : Int)] ∧ k + (1 : Nat) ≤ (8 : Nat))) ∧ True) (by kernel_rfl) ?_⟩
      refine ⟨by first | with_reducible assumption | omega | assumption, ?_⟩
      refine ⟨lpi, ?_⟩
      refine And.intro ?_ ?_
      · skip
        intro y
        intro w1
        intro u
        refine ⟨by first | with_reducible assumption | omega | assumption, ?_⟩
        refine ⟨app_ints (by kernel_rfl) (by omega), ?_⟩
        refine ⟨told_add (by with_reducible assumption), ?_⟩
        refine ⟨by first | with_reducible assumption | omega | assumption, ?_⟩
        refine ⟨by first | with_reducible assumption | omega | assumption, ?_⟩
        exact ⟨by rw [e], by rw [e]; try rfl, hz'⟩
      · skip
        trivial
  · have hz : 8 ≤ (k : Int) := by omega
    have e : k = 8 := by omega
    have hV : meL l k = meV l := by rw [e]; rfl
    rw [hV]
    refine ⟨[Ans.o (Orc.b false)], fun u => of_eq ((8 : Int) ≤ (↑k : Int) ∧ (34 : Nat) = (34 : Nat) ∧ hits [Out.mk Unit (AX.exit (0 : Nat)) [(3 : Nat)] (fun x => True) (fun x => [iac (meV l)]) (fun x => ihc (meV l)) fun x => []] (AX.exit (0 : Nat)) [AV.sl (ints l) l.length r, u (1 : Nat), u (2 : Nat), AV.sl (ints (meV l)) (meV l).length (rm (0 : Nat) (meV l)), u (4 : Nat), u (5 : Nat), u (6 : Nat), u (7 : Nat), I (↑k : Int), AV.bool false, u (10 : Nat), u (11 : Nat), u (12 : Nat), u (13 : Nat), u (14 : Nat), u (15 : Nat), u (16 : Nat), u (17 : Nat), u (18 : Nat), u (19 : Nat), u (20 : Nat), u (21 : Nat), u (22 : Nat), u (23 : Nat), u (24 : Nat), u (25 : Nat), u (26 : Nat), u (27 : Nat), u (28 : Nat), u (29 : Nat), u (30 : Nat), u (31 : Nat), u (32 : Nat), u (33 : Nat)] (H.mk [] (tk (meV l)) [])) (by kernel_rfl) ?_⟩
    refine ⟨by first | with_reducible assumption | omega | assumption, ?_⟩
    refine ⟨by first | with_reducible assumption | omega | assumption, ?_⟩
    exact .inl ⟨(), trivial, rfl, rfl, rfl⟩
theorem ok59 : FokM Tryd.prog none1 59 Tryd.f59 := ⟨mixed, by kernel_rfl, by kernel_rfl, by kernel_rfl, by kernel_rfl⟩
theorem r59 (l : List Int) (r : Room) (hp : Chn l ∧ rok l r) : Body ⟨Tryd.prog, Sof (P := Tryd.prog) [c71.to], Pof (P := Tryd.prog) [], H.nil.base, 300⟩ none1 Tryd.f59 [ls l r] .nil (iac (meV l), ⟨[], tk (meV l), []⟩) := by
  refine body_s ([Ans.loop [(0 : Nat), (3 : Nat), (8 : Nat)] [Out.mk Unit (AX.exit (0 : Nat)) [(3 : Nat)] (fun x => True) (fun x => [iac (meV l)]) (fun x => ihc (meV l)) fun y => []]]) (LoopS (Env.mk Tryd.prog (Sof [c71.to]) (Pof (P := Tryd.prog) []) H.nil.base (300 : Nat)) (loopAt Tryd.f59 (0 : Nat)) (34 : Nat) [(0 : Nat), (3 : Nat), (8 : Nat)] [AV.sl (ints l) l.length r, AV.sl [] (0 : Nat) Room.nil, I 0] (H.mk [] [] []) [Out.mk Unit (AX.exit (0 : Nat)) [(3 : Nat)] (fun x => True) (fun x => [iac (meV l)]) (fun x => ihc (meV l)) fun y => []] ∧ (∀ (y : Unit), True → ∀ (u : Nat → AV), leave (Base.mk H.nil.blk.length H.nil.toks.length H.nil.maps.length) (AV.sl (ints (meV l)) (meV l).length (rm (0 : Nat) (meV l))) (H.mk [] (tk (meV l)) []) = (AV.sl (ints (meV l)) (meV l).length (rm (0 : Nat) (meV l)), H.mk [] (tk (meV l)) [])) ∧ True) (by kernel_rfl) ?_
  refine ⟨lp59 l r hp.1 hp.2, ?_⟩
  refine And.intro ?_ ?_
  · skip
    intro y
    intro w1
    intro u
    exact leave_intsa _
  · skip
    trivial
noncomputable def c59 : PCtr Tryd.prog := slctr ok59 (X := List Int × Room) (fun x => [ls x.1 x.2]) (fun x => Chn x.1 ∧ rok x.1 x.2) (fun x => ls (meV x.1) (rn (meV x.1))) (by intro x y e _ _; simp at e; simp [e]) (fun x => by simp [AV.bnds, AV.bnd, AV.wk, rm_wk_bnd]) (fun x => by first | rfl | (simp [AV.bnd, rm_wk_bnd]; done)  | (simp [AV.bnd, AV.bnds, rm_wk_bnd]; done) | simp [AV.bnd, AV.bnds, Room.bnd, rm_wk_bnd]) (fun x hx => ⟨_, _, _, iac (meV x.1), tk (meV x.1), .pure c71 (.nil), r59 (x.1) (x.2).wk (by first | exact hx | (simp only [rok_wk]; exact hx) | (simp only [rok_wk, lst_wk]; exact hx) | (simp only [rok_wk, lst_wk, lsn_wk]; exact hx)), by simp [AV.plain, AV.plains, plains_ints, plains_rows], by first | (simp only [AV.wkd, wkds_rows]; done) | (simp only [AV.wkd, wkds_ints]; done) | simp [AV.wkd, AV.wkds, Room.wk]⟩)
end Go.Proofs.Sur

