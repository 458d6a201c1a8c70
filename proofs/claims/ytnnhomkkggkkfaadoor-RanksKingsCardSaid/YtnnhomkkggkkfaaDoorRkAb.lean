/- Layer 2: the parts, by the reference. -/
import Derived.Test.YtnnhomkkggkkfaaDoorRkAa
import Derived.Test.YtnnhomkkggkkfaaDoorVm8
import Derived.KernelRfl
set_option linter.unusedSimpArgs false
set_option linter.unusedVariables false
set_option linter.unnecessarySimpa false
set_option maxHeartbeats 4000000
set_option maxRecDepth 100000
namespace Go.Proofs.Rnk
open Go Go.VM
open Go.Proofs.Sur (andn andn_bit andn_le i_wrap i_and i_or i_andn i_shl i_shr bit_01)

abbrev lA (l : List Int) : AV := .sl (ints l) l.length (rm 0 l)
abbrev lH (l : List Int) : H := ⟨[], tk l, []⟩
noncomputable abbrev cs35 : List (Ctr Tryd.prog) := [c73.to]
theorem ct35 : Ctrs Tryd.prog none1 cs35 := .pure _ .nil
abbrev o35c (t : List Int) (r : Room) (l : List Int) (S i : Nat) : List Out := [.mk Unit (.exit 4) [0, 3, 4, 6, 15, 16] (fun _ => True) (fun _ => [ls t r, lA l, I S, I (pp t S : Nat), I t.length, I i]) (fun _ => lH l) (fun _ => [])]
theorem simp35c : allSimpleM none1 (loopAt Tryd.f35 2) = true := by kernel_rfl
theorem lp35c (t : List Int) (r : Room) (h : Tn t) (hr : rok t r) (hrb : r.bnd 0 = true) (l : List Int) (S i : Nat) (hS : S < 256) :
    LoopS (En6 cs35) (loopAt Tryd.f35 2) 66 [0, 3, 4, 6, 15, 16, 34, 35] [ls t r, lA l, I S, I (pA t S 0 : Nat), I t.length, I i, I t.length, I 0] (lH l) (o35c t r l S i) := by
  have hRs : Rests (En6 cs35) none1 := rests mixed ct35
  have h8 := h.s.2
  refine loop_s hRs simp35c none (by intro _ h; cases h) (fun j vs H => H = lH l ∧ vs = [ls t r, lA l, I S, I (pA t S j : Nat), I t.length, I i, I t.length, I j]) t.length ⟨rfl, rfl⟩ (by intro _ h; cases h) ?_
  rintro j vs h' hj ⟨rfl, rfl⟩
  by_cases hz : (j : Int) < t.length
  · have hz' : j < t.length := by omega
    have ev0 := wj1 (j := j) (by omega)
    have hx : s8 ((S : Nat) : Int) := by simp only [s8]; omega
    have hbe : bi ((S : Nat) : Int) j = S.testBit j := by simp only [bi, Int.toNat_natCast]
    have p73 : (Tn t ∧ rok t r) ∧ j < t.length := ⟨⟨h, hr⟩, hz'⟩
    have hrl := rch_lt h hz'
    have ev3 := i_and (a := rch t j) (b := S) (by omega) (by omega)
    cases hb : S.testBit j
    · have hk : pA t S (j + 1) = pA t S j := by simp only [pA]; rw [if_neg (fun q => by have q1 := q.1; rw [hb] at q1; cases q1)]
      obtain ⟨ev1, ev2⟩ := i_bit0 hx (show j ≤ 64 by omega) (by rw [hbe]; exact hb)
      refine ⟨[Ans.o (Orc.b true), Ans.o (Orc.val 40 (I (↑((↑S : Int).toNat >>> j) : Int)) H.nil), Ans.o (Orc.val 41 (I 0) H.nil), Ans.o Orc.dflt, Ans.o (Orc.val 56 (I (↑(j + (1 : Nat)) : Int)) H.nil)], fun u => of_eq ((↑j : Int) < (↑t.length : Int) ∧ aBin Tryd.prog BinOp.shr (3 : Nat) (I (↑S : Int)) (I (↑j : Int)) = some (I (↑((↑S : Int).toNat >>> j) : Int)) ∧ aBin Tryd.prog BinOp.and (3 : Nat) (I (↑((↑S : Int).toNat >>> j) : Int)) (I 1) = some (I 0) ∧ aBin Tryd.prog BinOp.add (3 : Nat) (I (↑j : Int)) (I 1) = some (I (↑(j + (1 : Nat)) : Int)) ∧ (66 : Nat) = (66 : Nat) ∧ j < t.length ∧ Keep (H.mk [] (tk l) [] = H.mk [] (tk l) [] ∧ [AV.sl (ints t) t.length r, AV.sl (ints l) l.length (rm (0 : Nat) l), I (↑S : Int), I (↑(pA t S j) : Int), I (↑t.length : Int), I (↑i : Int), I (↑t.length : Int), I (↑(j + (1 : Nat)) : Int)] = [AV.sl (ints t) t.length r, AV.sl (ints l) l.length (rm (0 : Nat) l), I (↑S : Int), I (↑(pA t S (j + (1 : Nat))) : Int), I (↑t.length : Int), I (↑i : Int), I (↑t.length : Int), I (↑(j + (1 : Nat)) : Int)])) (by kernel_rfl) ?_⟩
      refine ⟨by first | with_reducible assumption | omega | assumption, ?_⟩
      refine ⟨by first | exact told_shr (by first | exact Int.natCast_nonneg _ | omega) (by with_reducible assumption) | exact told_shr (by omega) rfl, ?_⟩
      refine ⟨told_and (by with_reducible assumption), ?_⟩
      refine ⟨told_add (by with_reducible assumption), ?_⟩
      refine ⟨by first | with_reducible assumption | omega | assumption, ?_⟩
      refine ⟨by first | with_reducible assumption | omega | assumption, ?_⟩
      exact ⟨rfl, by rw [hk]⟩
    · obtain ⟨ev1, ev2⟩ := i_bit1 hx (show j ≤ 64 by omega) (by rw [hbe]; exact hb)
      by_cases c : rch t j &&& S = S
      · have hk : pA t S (j + 1) = pA t S j ||| 2 ^ j := by simp only [pA]; rw [if_pos ⟨hb, c⟩]
        have hc : ((rch t j &&& S : Nat) : Int) = ((S : Nat) : Int) := by rw [c]
        have hpl := @pA_lt t S j hS
        have h2 : 2 ^ j < 2 ^ 8 := Nat.pow_lt_pow_right (by decide) (by omega)
        have ev4 := pw_shl (n := j) (by omega)
        have ev5 := i_or (a := pA t S j) (b := 2 ^ j) (by omega) (by omega)
        refine ⟨[Ans.o (Orc.b true), Ans.o (Orc.val 40 (I (↑((↑S : Int).toNat >>> j) : Int)) H.nil), Ans.o (Orc.val 41 (I 1) H.nil), Ans.o Orc.dflt, Ans.o (Orc.val 46 (I (↑(rch t j) : Int)) (H.mk [] (tk l) [])), Ans.o (Orc.val 48 (I (↑(rch t j &&& S) : Int)) H.nil), Ans.o (Orc.b true), Ans.o (Orc.val 54 (I (↑((2 : Nat) ^ j) : Int)) H.nil), Ans.o (Orc.val 55 (I (↑(pA t S j ||| (2 : Nat) ^ j) : Int)) H.nil), Ans.o (Orc.val 56 (I (↑(j + (1 : Nat)) : Int)) H.nil)], fun u => of_eq ((↑j : Int) < (↑t.length : Int) ∧ aBin Tryd.prog BinOp.shr (3 : Nat) (I (↑S : Int)) (I (↑j : Int)) = some (I (↑((↑S : Int).toNat >>> j) : Int)) ∧ aBin Tryd.prog BinOp.and (3 : Nat) (I (↑((↑S : Int).toNat >>> j) : Int)) (I 1) = some (I 1) ∧ aCall (Sof cs35) (AV.fn (Fn.func (73 : Nat)) [] []) [AV.sl (ints t) t.length r, I (↑j : Int)] (H.mk [] (tk l) []) = some (I (↑(rch t j) : Int), H.mk [] (tk l) []) ∧ aBin Tryd.prog BinOp.and (3 : Nat) (I (↑(rch t j) : Int)) (I (↑S : Int)) = some (I (↑(rch t j &&& S) : Int)) ∧ (↑(rch t j &&& S) : Int) = (↑S : Int) ∧ aBin Tryd.prog BinOp.shl (3 : Nat) (I 1) (I (↑j : Int)) = some (I (↑((2 : Nat) ^ j) : Int)) ∧ aBin Tryd.prog BinOp.or (3 : Nat) (I (↑(pA t S j) : Int)) (I (↑((2 : Nat) ^ j) : Int)) = some (I (↑(pA t S j ||| (2 : Nat) ^ j) : Int)) ∧ aBin Tryd.prog BinOp.add (3 : Nat) (I (↑j : Int)) (I 1) = some (I (↑(j + (1 : Nat)) : Int)) ∧ (66 : Nat) = (66 : Nat) ∧ j < t.length ∧ Keep (H.mk [] (tk l) [] = H.mk [] (tk l) [] ∧ [AV.sl (ints t) t.length r, AV.sl (ints l) l.length (rm (0 : Nat) l), I (↑S : Int), I (↑(pA t S j ||| (2 : Nat) ^ j) : Int), I (↑t.length : Int), I (↑i : Int), I (↑t.length : Int), I (↑(j + (1 : Nat)) : Int)] = [AV.sl (ints t) t.length r, AV.sl (ints l) l.length (rm (0 : Nat) l), I (↑S : Int), I (↑(pA t S (j + (1 : Nat))) : Int), I (↑t.length : Int), I (↑i : Int), I (↑t.length : Int), I (↑(j + (1 : Nat)) : Int)])) (by kernel_rfl) ?_⟩
        refine ⟨by first | with_reducible assumption | omega | assumption, ?_⟩
        refine ⟨by first | exact told_shr (by first | exact Int.natCast_nonneg _ | omega) (by with_reducible assumption) | exact told_shr (by omega) rfl, ?_⟩
        refine ⟨told_and (by with_reducible assumption), ?_⟩
        refine ⟨acall_hit (c := c73.to) (t, r, j) _ rfl p73, ?_⟩
        refine ⟨told_and (by with_reducible assumption), ?_⟩
        refine ⟨by first | with_reducible assumption | omega | assumption, ?_⟩
        refine ⟨by first | exact told_shl (by first | exact Int.natCast_nonneg _ | omega) (by with_reducible assumption) | exact told_shl (by omega) rfl, ?_⟩
        refine ⟨told_or (by with_reducible assumption), ?_⟩
        refine ⟨told_add (by with_reducible assumption), ?_⟩
        refine ⟨by first | with_reducible assumption | omega | assumption, ?_⟩
        refine ⟨by first | with_reducible assumption | omega | assumption, ?_⟩
        exact ⟨rfl, by rw [hk]⟩
      · have hk : pA t S (j + 1) = pA t S j := by simp only [pA]; rw [if_neg (fun q => c q.2)]
        have hc : ((rch t j &&& S : Nat) : Int) ≠ ((S : Nat) : Int) := fun e => c (by omega)
        refine ⟨[Ans.o (Orc.b true), Ans.o (Orc.val 40 (I (↑((↑S : Int).toNat >>> j) : Int)) H.nil), Ans.o (Orc.val 41 (I 1) H.nil), Ans.o Orc.dflt, Ans.o (Orc.val 46 (I (↑(rch t j) : Int)) (H.mk [] (tk l) [])), Ans.o (Orc.val 48 (I (↑(rch t j &&& S) : Int)) H.nil), Ans.o (Orc.b false), Ans.o (Orc.val 56 (I (↑(j + (1 : Nat)) : Int)) H.nil)], fun u => of_eq ((↑j : Int) < (↑t.length : Int) ∧ aBin Tryd.prog BinOp.shr (3 : Nat) (I (↑S : Int)) (I (↑j : Int)) = some (I (↑((↑S : Int).toNat >>> j) : Int)) ∧ aBin Tryd.prog BinOp.and (3 : Nat) (I (↑((↑S : Int).toNat >>> j) : Int)) (I 1) = some (I 1) ∧ aCall (Sof cs35) (AV.fn (Fn.func (73 : Nat)) [] []) [AV.sl (ints t) t.length r, I (↑j : Int)] (H.mk [] (tk l) []) = some (I (↑(rch t j) : Int), H.mk [] (tk l) []) ∧ aBin Tryd.prog BinOp.and (3 : Nat) (I (↑(rch t j) : Int)) (I (↑S : Int)) = some (I (↑(rch t j &&& S) : Int)) ∧ (↑(rch t j &&& S) : Int) ≠ (↑S : Int) ∧ aBin Tryd.prog BinOp.add (3 : Nat) (I (↑j : Int)) (I 1) = some (I (↑(j + (1 : Nat)) : Int)) ∧ (66 : Nat) = (66 : Nat) ∧ j < t.length ∧ Keep (H.mk [] (tk l) [] = H.mk [] (tk l) [] ∧ [AV.sl (ints t) t.length r, AV.sl (ints l) l.length (rm (0 : Nat) l), I (↑S : Int), I (↑(pA t S j) : Int), I (↑t.length : Int), I (↑i : Int), I (↑t.length : Int), I (↑(j + (1 : Nat)) : Int)] = [AV.sl (ints t) t.length r, AV.sl (ints l) l.length (rm (0 : Nat) l), I (↑S : Int), I (↑(pA t S (j + (1 : Nat))) : Int), I (↑t.length : Int), I (↑i : Int), I (↑t.length : Int), I (↑(j + (1 : Nat)) : Int)])) (by kernel_rfl) ?_⟩
        refine ⟨by first | with_reducible assumption | omega | assumption, ?_⟩
        refine ⟨by first | exact told_shr (by first | exact Int.natCast_nonneg _ | omega) (by with_reducible assumption) | exact told_shr (by omega) rfl, ?_⟩
        refine ⟨told_and (by with_reducible assumption), ?_⟩
        refine ⟨acall_hit (c := c73.to) (t, r, j) _ rfl p73, ?_⟩
        refine ⟨told_and (by with_reducible assumption), ?_⟩
        refine ⟨by first | with_reducible assumption | omega | assumption, ?_⟩
        refine ⟨told_add (by with_reducible assumption), ?_⟩
        refine ⟨by first | with_reducible assumption | omega | assumption, ?_⟩
        refine ⟨by first | with_reducible assumption | omega | assumption, ?_⟩
        exact ⟨rfl, by rw [hk]⟩
  · have hz : (t.length : Int) ≤ j := by omega
    have e : j = t.length := by omega
    subst e
    refine ⟨[Ans.o (Orc.b false)], fun u => of_eq ((↑t.length : Int) ≤ (↑t.length : Int) ∧ (66 : Nat) = (66 : Nat) ∧ hits [Out.mk Unit (AX.exit (4 : Nat)) [(0 : Nat), (3 : Nat), (4 : Nat), (6 : Nat), (15 : Nat), (16 : Nat)] (fun x => True) (fun x => [ls t r, lA l, I (↑S : Int), I (↑(pp t S) : Int), I (↑t.length : Int), I (↑i : Int)]) (fun x => lH l) fun x => []] (AX.exit (4 : Nat)) [AV.sl (ints t) t.length r, u (1 : Nat), u (2 : Nat), AV.sl (ints l) l.length (rm (0 : Nat) l), I (↑S : Int), u (5 : Nat), I (↑(pA t S t.length) : Int), u (7 : Nat), u (8 : Nat), u (9 : Nat), u (10 : Nat), u (11 : Nat), u (12 : Nat), u (13 : Nat), u (14 : Nat), I (↑t.length : Int), I (↑i : Int), u (17 : Nat), u (18 : Nat), u (19 : Nat), u (20 : Nat), u (21 : Nat), u (22 : Nat), u (23 : Nat), u (24 : Nat), u (25 : Nat), u (26 : Nat), u (27 : Nat), u (28 : Nat), u (29 : Nat), u (30 : Nat), u (31 : Nat), u (32 : Nat), u (33 : Nat), I (↑t.length : Int), I (↑t.length : Int), AV.bool false, u (37 : Nat), u (38 : Nat), u (39 : Nat), u (40 : Nat), u (41 : Nat), u (42 : Nat), u (43 : Nat), u (44 : Nat), u (45 : Nat), u (46 : Nat), u (47 : Nat), u (48 : Nat), u (49 : Nat), u (50 : Nat), u (51 : Nat), u (52 : Nat), u (53 : Nat), u (54 : Nat), u (55 : Nat), u (56 : Nat), u (57 : Nat), u (58 : Nat), u (59 : Nat), u (60 : Nat), u (61 : Nat), u (62 : Nat), u (63 : Nat), u (64 : Nat), u (65 : Nat)] (H.mk [] (tk l) [])) (by kernel_rfl) ?_⟩
    refine ⟨by first | with_reducible assumption | omega | assumption, ?_⟩
    refine ⟨by first | with_reducible assumption | omega | assumption, ?_⟩
    exact .inl ⟨(), trivial, rfl, rfl, rfl⟩
abbrev o35b (t : List Int) (r : Room) (c : Nat) : List Out := [.mk Unit (.exit 2) [0, 3, 4] (fun _ => True) (fun _ => [ls t r, lA (pl t (cV t c t.length)), I (rst t (cV t c t.length) : Nat)]) (fun _ => lH (pl t (cV t c t.length))) (fun _ => [])]
theorem simp35b : allSimpleM none1 (loopAt Tryd.f35 1) = true := by kernel_rfl
theorem lp35b (t : List Int) (r : Room) (h : Tn t) (hr : rok t r) (hrb : r.bnd 0 = true) (c : Nat) (hc : c ≤ mP t) :
    LoopS (En6 cs35) (loopAt Tryd.f35 1) 66 [0, 3, 4, 15, 16] [ls t r, lA (pl t (cV t c 0)), I (rst t (cV t c 0) : Nat), I t.length, I 0] (lH (pl t (cV t c 0))) (o35b t r c) := by
  have hRs : Rests (En6 cs35) none1 := rests mixed ct35
  have h8 := h.s.2
  refine loop_s hRs simp35b none (by intro _ h; cases h) (fun j vs H => H = lH (pl t (cV t c j)) ∧ vs = [ls t r, lA (pl t (cV t c j)), I (rst t (cV t c j) : Nat), I t.length, I j]) t.length ⟨rfl, rfl⟩ (by intro _ h; cases h) ?_
  rintro j vs h' hj ⟨rfl, rfl⟩
  by_cases hz : (j : Int) < t.length
  · have hz' : j < t.length := by omega
    have ev0 := wj1 (j := j) (by omega)
    have hmx := cV_max h hc j
    have hml := (mP_spec h).1
    generalize hd : cV t c j = d at hmx
    have hS := rst_lt h d
    have hx : s8 ((rst t d : Nat) : Int) := by simp only [s8]; omega
    have hbe : bi ((rst t d : Nat) : Int) j = (rst t d).testBit j := by simp only [bi, Int.toNat_natCast]
    have p73 : (Tn t ∧ rok t r) ∧ j < t.length := ⟨⟨h, hr⟩, hz'⟩
    have hrl := rch_lt h hz'
    have ev3 := i_and (a := rch t j) (b := rst t d) (by omega) (by omega)
    cases hb : (rst t d).testBit j
    · have hk : cV t c (j + 1) = d := by simp only [cV]; rw [hd, if_neg (fun q => by have q1 := q.1; rw [hb] at q1; cases q1)]
      obtain ⟨ev1, ev2⟩ := i_bit0 hx (show j ≤ 64 by omega) (by rw [hbe]; exact hb)
      refine ⟨[Ans.o (Orc.b true), Ans.o (Orc.val 21 (I (↑((↑(rst t d) : Int).toNat >>> j) : Int)) H.nil), Ans.o (Orc.val 22 (I 0) H.nil), Ans.o Orc.dflt, Ans.o (Orc.val 64 (I (↑(j + (1 : Nat)) : Int)) H.nil)], fun u => of_eq ((↑j : Int) < (↑t.length : Int) ∧ aBin Tryd.prog BinOp.shr (3 : Nat) (I (↑(rst t d) : Int)) (I (↑j : Int)) = some (I (↑((↑(rst t d) : Int).toNat >>> j) : Int)) ∧ aBin Tryd.prog BinOp.and (3 : Nat) (I (↑((↑(rst t d) : Int).toNat >>> j) : Int)) (I 1) = some (I 0) ∧ aBin Tryd.prog BinOp.add (3 : Nat) (I (↑j : Int)) (I 1) = some (I (↑(j + (1 : Nat)) : Int)) ∧ (66 : Nat) = (66 : Nat) ∧ j < t.length ∧ Keep (H.mk [] (tk (pl t d)) [] = H.mk [] (tk (pl t (cV t c (j + (1 : Nat))))) [] ∧ [AV.sl (ints t) t.length r, AV.sl (ints (pl t d)) (pl t d).length (rm (0 : Nat) (pl t d)), I (↑(rst t d) : Int), I (↑t.length : Int), I (↑(j + (1 : Nat)) : Int)] = [AV.sl (ints t) t.length r, AV.sl (ints (pl t (cV t c (j + (1 : Nat))))) (pl t (cV t c (j + (1 : Nat)))).length (rm (0 : Nat) (pl t (cV t c (j + (1 : Nat))))), I (↑(rst t (cV t c (j + (1 : Nat)))) : Int), I (↑t.length : Int), I (↑(j + (1 : Nat)) : Int)])) (by kernel_rfl) ?_⟩
      refine ⟨by first | with_reducible assumption | omega | assumption, ?_⟩
      refine ⟨by first | exact told_shr (by first | exact Int.natCast_nonneg _ | omega) (by with_reducible assumption) | exact told_shr (by omega) rfl, ?_⟩
      refine ⟨told_and (by with_reducible assumption), ?_⟩
      refine ⟨told_add (by with_reducible assumption), ?_⟩
      refine ⟨by first | with_reducible assumption | omega | assumption, ?_⟩
      refine ⟨by first | with_reducible assumption | omega | assumption, ?_⟩
      exact ⟨by rw [hk], by rw [hk]⟩
    · obtain ⟨ev1, ev2⟩ := i_bit1 hx (show j ≤ 64 by omega) (by rw [hbe]; exact hb)
      by_cases cc : rch t j &&& rst t d = rst t d
      · have hk : cV t c (j + 1) = d + 1 := by simp only [cV]; rw [hd, if_pos ⟨hb, cc⟩]
        have hcc : ((rch t j &&& rst t d : Nat) : Int) = ((rst t d : Nat) : Int) := by rw [cc]
        have lp := lp35c t r h hr hrb (pl t d) (rst t d) j hS
        have hlen : (pl t d).length ≤ 1000000000 := by rw [pl_len]; omega
        have hap : aAppend Tryd.prog 22 22 (.sl (ints (pl t d)) (pl t d).length (rm 0 (pl t d))) (.sl [I (pp t (rst t d) : Nat)] 1 .full) ⟨[], tk (pl t d), []⟩ = some (.sl (ints (pl t (d + 1))) (pl t (d + 1)).length (rm 0 (pl t (d + 1))), ⟨[], tk (pl t (d + 1)), []⟩) := by
          rw [pl_succ]; exact app_ints (by kernel_rfl) hlen
        have ev4 : IntKind.i64.wrap ((BitVec.ofInt IntKind.i64.bits ((rst t d : Nat) : Int) &&& ~~~BitVec.ofInt IntKind.i64.bits ((pp t (rst t d) : Nat) : Int)).toNat : Int) = ((rst t (d + 1) : Nat) : Int) := i_andn (by omega)
        refine ⟨[Ans.o (Orc.b true), Ans.o (Orc.val 21 (I (↑((↑(rst t d) : Int).toNat >>> j) : Int)) H.nil), Ans.o (Orc.val 22 (I 1) H.nil), Ans.o Orc.dflt, Ans.o (Orc.val 27 (I (↑(rch t j) : Int)) (H.mk [] (tk (pl t d)) [])), Ans.o (Orc.val 29 (I (↑(rch t j &&& rst t d) : Int)) H.nil), Ans.o (Orc.b true), Ans.loop [(0 : Nat), (3 : Nat), (4 : Nat), (6 : Nat), (15 : Nat), (16 : Nat), (34 : Nat), (35 : Nat)] [Out.mk Unit (AX.exit (4 : Nat)) [(0 : Nat), (3 : Nat), (4 : Nat), (6 : Nat), (15 : Nat), (16 : Nat)] (fun x => True) (fun x => [ls t r, lA (pl t d), I (↑(rst t d) : Int), I (↑(pp t (rst t d)) : Int), I (↑t.length : Int), I (↑j : Int)]) (fun x => lH (pl t d)) fun y => [Ans.o (Orc.val 60 (AV.sl (ints (pl t (d + (1 : Nat)))) (pl t (d + (1 : Nat))).length (rm (0 : Nat) (pl t (d + (1 : Nat))))) (H.mk [] (tk (pl t (d + (1 : Nat)))) [])), Ans.o (Orc.val 63 (I (↑(rst t (d + (1 : Nat))) : Int)) H.nil), Ans.o (Orc.val 64 (I (↑(j + (1 : Nat)) : Int)) H.nil)]]], fun u => of_eq ((↑j : Int) < (↑t.length : Int) ∧ aBin Tryd.prog BinOp.shr (3 : Nat) (I (↑(rst t d) : Int)) (I (↑j : Int)) = some (I (↑((↑(rst t d) : Int).toNat >>> j) : Int)) ∧ aBin Tryd.prog BinOp.and (3 : Nat) (I (↑((↑(rst t d) : Int).toNat >>> j) : Int)) (I 1) = some (I 1) ∧ aCall (Sof cs35) (AV.fn (Fn.func (73 : Nat)) [] []) [AV.sl (ints t) t.length r, I (↑j : Int)] (H.mk [] (tk (pl t d)) []) = some (I (↑(rch t j) : Int), H.mk [] (tk (pl t d)) []) ∧ aBin Tryd.prog BinOp.and (3 : Nat) (I (↑(rch t j) : Int)) (I (↑(rst t d) : Int)) = some (I (↑(rch t j &&& rst t d) : Int)) ∧ (↑(rch t j &&& rst t d) : Int) = (↑(rst t d) : Int) ∧ LoopS (Env.mk Tryd.prog (Sof cs35) (Pof (P := Tryd.prog) []) H.nil.base (300 : Nat)) (loopAt Tryd.f35 (2 : Nat)) (66 : Nat) [(0 : Nat), (3 : Nat), (4 : Nat), (6 : Nat), (15 : Nat), (16 : Nat), (34 : Nat), (35 : Nat)] [AV.sl (ints t) t.length r, AV.sl (ints (pl t d)) (pl t d).length (rm (0 : Nat) (pl t d)), I (↑(rst t d) : Int), I 0, I (↑t.length : Int), I (↑j : Int), I (↑t.length : Int), I 0] (H.mk [] (tk (pl t d)) []) [Out.mk Unit (AX.exit (4 : Nat)) [(0 : Nat), (3 : Nat), (4 : Nat), (6 : Nat), (15 : Nat), (16 : Nat)] (fun x => True) (fun x => [ls t r, lA (pl t d), I (↑(rst t d) : Int), I (↑(pp t (rst t d)) : Int), I (↑t.length : Int), I (↑j : Int)]) (fun x => lH (pl t d)) fun y => [Ans.o (Orc.val 60 (AV.sl (ints (pl t (d + (1 : Nat)))) (pl t (d + (1 : Nat))).length (rm (0 : Nat) (pl t (d + (1 : Nat))))) (H.mk [] (tk (pl t (d + (1 : Nat)))) [])), Ans.o (Orc.val 63 (I (↑(rst t (d + (1 : Nat))) : Int)) H.nil), Ans.o (Orc.val 64 (I (↑(j + (1 : Nat)) : Int)) H.nil)]] ∧ (∀ (y : Unit), True → ∀ (u : Nat → AV), aAppend Tryd.prog (22 : Nat) (22 : Nat) (AV.sl (ints (pl t d)) (pl t d).length (rm (0 : Nat) (pl t d))) (AV.sl [I (↑(pp t (rst t d)) : Int)] (1 : Nat) Room.full) (H.mk [] (tk (pl t d)) []) = some (AV.sl (ints (pl t (d + (1 : Nat)))) (pl t (d + (1 : Nat))).length (rm (0 : Nat) (pl t (d + (1 : Nat)))), H.mk [] (tk (pl t (d + (1 : Nat)))) []) ∧ aBin Tryd.prog BinOp.andNot (3 : Nat) (I (↑(rst t d) : Int)) (I (↑(pp t (rst t d)) : Int)) = some (I (↑(rst t (d + (1 : Nat))) : Int)) ∧ aBin Tryd.prog BinOp.add (3 : Nat) (I (↑j : Int)) (I 1) = some (I (↑(j + (1 : Nat)) : Int)) ∧ (66 : Nat) = (66 : Nat) ∧ j < t.length ∧ Keep (H.mk [] (tk (pl t (d + (1 : Nat)))) [] = H.mk [] (tk (pl t (cV t c (j + (1 : Nat))))) [] ∧ [AV.sl (ints t) t.length r, AV.sl (ints (pl t (d + (1 : Nat)))) (pl t (d + (1 : Nat))).length (rm (0 : Nat) (pl t (d + (1 : Nat)))), I (↑(rst t (d + (1 : Nat))) : Int), I (↑t.length : Int), I (↑(j + (1 : Nat)) : Int)] = [AV.sl (ints t) t.length r, AV.sl (ints (pl t (cV t c (j + (1 : Nat))))) (pl t (cV t c (j + (1 : Nat)))).length (rm (0 : Nat) (pl t (cV t c (j + (1 : Nat))))), I (↑(rst t (cV t c (j + (1 : Nat)))) : Int), I (↑t.length : Int), I (↑(j + (1 : Nat)) : Int)])) ∧ True) (by kernel_rfl) ?_⟩
        refine ⟨by first | with_reducible assumption | omega | assumption, ?_⟩
        refine ⟨by first | exact told_shr (by first | exact Int.natCast_nonneg _ | omega) (by with_reducible assumption) | exact told_shr (by omega) rfl, ?_⟩
        refine ⟨told_and (by with_reducible assumption), ?_⟩
        refine ⟨acall_hit (c := c73.to) (t, r, j) _ rfl p73, ?_⟩
        refine ⟨told_and (by with_reducible assumption), ?_⟩
        refine ⟨by first | with_reducible assumption | omega | assumption, ?_⟩
        refine ⟨lp, ?_⟩
        refine And.intro ?_ ?_
        · skip
          intro y
          intro w1
          intro u
          refine ⟨hap, ?_⟩
          refine ⟨told_andn (by with_reducible assumption), ?_⟩
          refine ⟨told_add (by with_reducible assumption), ?_⟩
          refine ⟨by first | with_reducible assumption | omega | assumption, ?_⟩
          refine ⟨by first | with_reducible assumption | omega | assumption, ?_⟩
          exact ⟨by rw [hk], by rw [hk]⟩
        · skip
          trivial
      · have hk : cV t c (j + 1) = d := by simp only [cV]; rw [hd, if_neg (fun q => cc q.2)]
        have hcc : ((rch t j &&& rst t d : Nat) : Int) ≠ ((rst t d : Nat) : Int) := fun e => cc (by omega)
        refine ⟨[Ans.o (Orc.b true), Ans.o (Orc.val 21 (I (↑((↑(rst t d) : Int).toNat >>> j) : Int)) H.nil), Ans.o (Orc.val 22 (I 1) H.nil), Ans.o Orc.dflt, Ans.o (Orc.val 27 (I (↑(rch t j) : Int)) (H.mk [] (tk (pl t d)) [])), Ans.o (Orc.val 29 (I (↑(rch t j &&& rst t d) : Int)) H.nil), Ans.o (Orc.b false), Ans.o (Orc.val 64 (I (↑(j + (1 : Nat)) : Int)) H.nil)], fun u => of_eq ((↑j : Int) < (↑t.length : Int) ∧ aBin Tryd.prog BinOp.shr (3 : Nat) (I (↑(rst t d) : Int)) (I (↑j : Int)) = some (I (↑((↑(rst t d) : Int).toNat >>> j) : Int)) ∧ aBin Tryd.prog BinOp.and (3 : Nat) (I (↑((↑(rst t d) : Int).toNat >>> j) : Int)) (I 1) = some (I 1) ∧ aCall (Sof cs35) (AV.fn (Fn.func (73 : Nat)) [] []) [AV.sl (ints t) t.length r, I (↑j : Int)] (H.mk [] (tk (pl t d)) []) = some (I (↑(rch t j) : Int), H.mk [] (tk (pl t d)) []) ∧ aBin Tryd.prog BinOp.and (3 : Nat) (I (↑(rch t j) : Int)) (I (↑(rst t d) : Int)) = some (I (↑(rch t j &&& rst t d) : Int)) ∧ (↑(rch t j &&& rst t d) : Int) ≠ (↑(rst t d) : Int) ∧ aBin Tryd.prog BinOp.add (3 : Nat) (I (↑j : Int)) (I 1) = some (I (↑(j + (1 : Nat)) : Int)) ∧ (66 : Nat) = (66 : Nat) ∧ j < t.length ∧ Keep (H.mk [] (tk (pl t d)) [] = H.mk [] (tk (pl t (cV t c (j + (1 : Nat))))) [] ∧ [AV.sl (ints t) t.length r, AV.sl (ints (pl t d)) (pl t d).length (rm (0 : Nat) (pl t d)), I (↑(rst t d) : Int), I (↑t.length : Int), I (↑(j + (1 : Nat)) : Int)] = [AV.sl (ints t) t.length r, AV.sl (ints (pl t (cV t c (j + (1 : Nat))))) (pl t (cV t c (j + (1 : Nat)))).length (rm (0 : Nat) (pl t (cV t c (j + (1 : Nat))))), I (↑(rst t (cV t c (j + (1 : Nat)))) : Int), I (↑t.length : Int), I (↑(j + (1 : Nat)) : Int)])) (by kernel_rfl) ?_⟩
        refine ⟨by first | with_reducible assumption | omega | assumption, ?_⟩
        refine ⟨by first | exact told_shr (by first | exact Int.natCast_nonneg _ | omega) (by with_reducible assumption) | exact told_shr (by omega) rfl, ?_⟩
        refine ⟨told_and (by with_reducible assumption), ?_⟩
        refine ⟨acall_hit (c := c73.to) (t, r, j) _ rfl p73, ?_⟩
        refine ⟨told_and (by with_reducible assumption), ?_⟩
        refine ⟨by first | with_reducible assumption | omega | assumption, ?_⟩
        refine ⟨told_add (by with_reducible assumption), ?_⟩
        refine ⟨by first | with_reducible assumption | omega | assumption, ?_⟩
        refine ⟨by first | with_reducible assumption | omega | assumption, ?_⟩
        exact ⟨by rw [hk], by rw [hk]⟩
  · have hz : (t.length : Int) ≤ j := by omega
    have e : j = t.length := by omega
    subst e
    refine ⟨[Ans.o (Orc.b false)], fun u => of_eq ((↑t.length : Int) ≤ (↑t.length : Int) ∧ (66 : Nat) = (66 : Nat) ∧ hits [Out.mk Unit (AX.exit (2 : Nat)) [(0 : Nat), (3 : Nat), (4 : Nat)] (fun x => True) (fun x => [ls t r, lA (pl t (cV t c t.length)), I (↑(rst t (cV t c t.length)) : Int)]) (fun x => lH (pl t (cV t c t.length))) fun x => []] (AX.exit (2 : Nat)) [AV.sl (ints t) t.length r, u (1 : Nat), u (2 : Nat), AV.sl (ints (pl t (cV t c t.length))) (pl t (cV t c t.length)).length (rm (0 : Nat) (pl t (cV t c t.length))), I (↑(rst t (cV t c t.length)) : Int), u (5 : Nat), u (6 : Nat), u (7 : Nat), u (8 : Nat), u (9 : Nat), u (10 : Nat), u (11 : Nat), u (12 : Nat), u (13 : Nat), u (14 : Nat), I (↑t.length : Int), I (↑t.length : Int), AV.bool false, u (18 : Nat), u (19 : Nat), u (20 : Nat), u (21 : Nat), u (22 : Nat), u (23 : Nat), u (24 : Nat), u (25 : Nat), u (26 : Nat), u (27 : Nat), u (28 : Nat), u (29 : Nat), u (30 : Nat), u (31 : Nat), u (32 : Nat), u (33 : Nat), u (34 : Nat), u (35 : Nat), u (36 : Nat), u (37 : Nat), u (38 : Nat), u (39 : Nat), u (40 : Nat), u (41 : Nat), u (42 : Nat), u (43 : Nat), u (44 : Nat), u (45 : Nat), u (46 : Nat), u (47 : Nat), u (48 : Nat), u (49 : Nat), u (50 : Nat), u (51 : Nat), u (52 : Nat), u (53 : Nat), u (54 : Nat), u (55 : Nat), u (56 : Nat), u (57 : Nat), u (58 : Nat), u (59 : Nat), u (60 : Nat), u (61 : Nat), u (62 : Nat), u (63 : Nat), u (64 : Nat), u (65 : Nat)] (H.mk [] (tk (pl t (cV t c t.length))) [])) (by kernel_rfl) ?_⟩
    refine ⟨by first | with_reducible assumption | omega | assumption, ?_⟩
    refine ⟨by first | with_reducible assumption | omega | assumption, ?_⟩
    exact .inl ⟨(), trivial, rfl, rfl, rfl⟩
/-- the parts -/
noncomputable abbrev pts (t : List Int) : List Int := pl t (mP t)
noncomputable abbrev o35a (t : List Int) : List Out := [.mk Unit (.exit 0) [3] (fun _ => True) (fun _ => [lA (pts t)]) (fun _ => lH (pts t)) (fun _ => [])]
theorem simp35a : allSimpleM none1 (loopAt Tryd.f35 0) = true := by kernel_rfl
theorem lp35a (t : List Int) (r : Room) (h : Tn t) (hr : rok t r) (hrb : r.bnd 0 = true) :
    LoopS (En6 cs35) (loopAt Tryd.f35 0) 66 [0, 3, 4] [ls t r, .sl [] 0 .nil, I (alls t.length : Nat)] .nil (o35a t) := by
  have hRs : Rests (En6 cs35) none1 := rests mixed ct35
  have h8 := h.s.2
  have hm := mP_spec h
  refine loop_s hRs simp35a none (by intro _ h; cases h) (fun k vs H => H = lH (pl t (cN t k)) ∧ vs = [ls t r, lA (pl t (cN t k)), I (rst t (cN t k) : Nat)] ∧ k ≤ cN t k) (mP t) ⟨rfl, rfl, Nat.le_refl 0⟩ (by intro _ h; cases h) ?_
  rintro k vs h' hk ⟨rfl, rfl, hle⟩
  have hmx := cN_max h k
  by_cases hz : cN t k < mP t
  · have h0 := hm.2.2 _ hz
    have hp : (0 : Int) < ((rst t (cN t k) : Nat) : Int) := by omega
    have hg := cV_grow h hz
    have hle' : k + 1 ≤ cN t (k + 1) := by show k + 1 ≤ cV t (cN t k) t.length; omega
    have hkm : k < mP t := by omega
    have lp := lp35b t r h hr hrb (cN t k) hmx
    refine ⟨[Ans.o (Orc.b true), Ans.loop [(0 : Nat), (3 : Nat), (4 : Nat), (15 : Nat), (16 : Nat)] [Out.mk Unit (AX.exit (2 : Nat)) [(0 : Nat), (3 : Nat), (4 : Nat)] (fun x => True) (fun x => [ls t r, lA (pl t (cV t (cN t k) t.length)), I (↑(rst t (cV t (cN t k) t.length)) : Int)]) (fun x => lH (pl t (cV t (cN t k) t.length))) fun y => []]], fun u => of_eq ((0 : Int) < (↑(rst t (cN t k)) : Int) ∧ LoopS (Env.mk Tryd.prog (Sof cs35) (Pof (P := Tryd.prog) []) H.nil.base (300 : Nat)) (loopAt Tryd.f35 (1 : Nat)) (66 : Nat) [(0 : Nat), (3 : Nat), (4 : Nat), (15 : Nat), (16 : Nat)] [AV.sl (ints t) t.length r, AV.sl (ints (pl t (cN t k))) (pl t (cN t k)).length (rm (0 : Nat) (pl t (cN t k))), I (↑(rst t (cN t k)) : Int), I (↑t.length : Int), I 0] (H.mk [] (tk (pl t (cN t k))) []) [Out.mk Unit (AX.exit (2 : Nat)) [(0 : Nat), (3 : Nat), (4 : Nat)] (fun x => True) (fun x => [ls t r, lA (pl t (cV t (cN t k) t.length)), I (↑(rst t (cV t (cN t k) t.length)) : Int)]) (fun x => lH (pl t (cV t (cN t k) t.length))) fun y => []] ∧ (∀ (y : Unit), True → ∀ (u : Nat → AV), (66 : Nat) = (66 : Nat) ∧ k < mP t ∧ Keep (H.mk [] (tk (pl t (cV t (cN t k) t.length))) [] = H.mk [] (tk (pl t (cN t (k + (1 : Nat))))) [] ∧ [AV.sl (ints t) t.length r, AV.sl (ints (pl t (cV t (cN t k) t.length))) (pl t (cV t (cN t k) t.length)).length (rm (0 : Nat) (pl t (cV t (cN t k) t.length))), I (↑(rst t (cV t (cN t k) t.length)) : Int)] = [AV.sl (ints t) t.length r, AV.sl (ints (pl t (cN t (k + (1 : Nat))))) (pl t (cN t (k + (1 : Nat)))).length (rm (0 : Nat) (pl t (cN t (k + (1 : Nat))))), I (↑(rst t (cN t (k + (1 : Nat)))) : Int)] ∧ k + (1 : Nat) ≤ cN t (k + (1 : Nat)))) ∧ True) (by kernel_rfl) ?_⟩
    refine ⟨by first | with_reducible assumption | omega | assumption, ?_⟩
    refine ⟨lp, ?_⟩
    refine And.intro ?_ ?_
    · skip
      intro y
      intro w1
      intro u
      refine ⟨by first | with_reducible assumption | omega | assumption, ?_⟩
      refine ⟨by first | with_reducible assumption | omega | assumption, ?_⟩
      exact ⟨rfl, rfl, hle'⟩
    · skip
      trivial
  · have e : cN t k = mP t := by omega
    clear hz hle hmx
    generalize cN t k = d at e
    subst e
    have h0 : ((rst t (mP t) : Nat) : Int) ≤ 0 := by rw [hm.2.1]; exact Int.le_refl 0
    refine ⟨[Ans.o (Orc.b false)], fun u => of_eq ((↑(rst t (mP t)) : Int) ≤ (0 : Int) ∧ (66 : Nat) = (66 : Nat) ∧ hits [Out.mk Unit (AX.exit (0 : Nat)) [(3 : Nat)] (fun x => True) (fun x => [lA (pts t)]) (fun x => lH (pts t)) fun x => []] (AX.exit (0 : Nat)) [AV.sl (ints t) t.length r, u (1 : Nat), u (2 : Nat), AV.sl (ints (pl t (mP t))) (pl t (mP t)).length (rm (0 : Nat) (pl t (mP t))), I (↑(rst t (mP t)) : Int), u (5 : Nat), u (6 : Nat), u (7 : Nat), u (8 : Nat), u (9 : Nat), u (10 : Nat), u (11 : Nat), I (↑(rst t (mP t)) : Int), AV.bool false, u (14 : Nat), u (15 : Nat), u (16 : Nat), u (17 : Nat), u (18 : Nat), u (19 : Nat), u (20 : Nat), u (21 : Nat), u (22 : Nat), u (23 : Nat), u (24 : Nat), u (25 : Nat), u (26 : Nat), u (27 : Nat), u (28 : Nat), u (29 : Nat), u (30 : Nat), u (31 : Nat), u (32 : Nat), u (33 : Nat), u (34 : Nat), u (35 : Nat), u (36 : Nat), u (37 : Nat), u (38 : Nat), u (39 : Nat), u (40 : Nat), u (41 : Nat), u (42 : Nat), u (43 : Nat), u (44 : Nat), u (45 : Nat), u (46 : Nat), u (47 : Nat), u (48 : Nat), u (49 : Nat), u (50 : Nat), u (51 : Nat), u (52 : Nat), u (53 : Nat), u (54 : Nat), u (55 : Nat), u (56 : Nat), u (57 : Nat), u (58 : Nat), u (59 : Nat), u (60 : Nat), u (61 : Nat), u (62 : Nat), u (63 : Nat), u (64 : Nat), u (65 : Nat)] (H.mk [] (tk (pl t (mP t))) [])) (by kernel_rfl) ?_⟩
    refine ⟨by first | with_reducible assumption | omega | assumption, ?_⟩
    refine ⟨by first | with_reducible assumption | omega | assumption, ?_⟩
    exact .inl ⟨(), trivial, rfl, rfl, rfl⟩
theorem ok35 : FokM Tryd.prog none1 35 Tryd.f35 := ⟨mixed, by kernel_rfl, by kernel_rfl, by kernel_rfl, by kernel_rfl⟩
theorem r35 (t : List Int) (r : Room) (h : Tn t) (hr : rok t r) (hrb : r.bnd 0 = true) : Body (En6 cs35) none1 Tryd.f35 [ls t r] .nil (lA (pts t), lH (pts t)) := by
  have h8 := h.s.2
  have ev1 := pw_shl (n := t.length) (by omega)
  have ev2 := pw_alls (n := t.length) h8
  have lp := lp35a t r h hr hrb
  refine body_s ([Ans.o (Orc.val 10 (I (↑((2 : Nat) ^ t.length) : Int)) H.nil), Ans.o (Orc.val 11 (I (↑(alls t.length) : Int)) H.nil), Ans.loop [(0 : Nat), (3 : Nat), (4 : Nat)] [Out.mk Unit (AX.exit (0 : Nat)) [(3 : Nat)] (fun x => True) (fun x => [lA (pts t)]) (fun x => lH (pts t)) fun y => []]]) (aBin Tryd.prog BinOp.shl (3 : Nat) (I 1) (I (↑t.length : Int)) = some (I (↑((2 : Nat) ^ t.length) : Int)) ∧ aBin Tryd.prog BinOp.sub (3 : Nat) (I (↑((2 : Nat) ^ t.length) : Int)) (I 1) = some (I (↑(alls t.length) : Int)) ∧ LoopS (Env.mk Tryd.prog (Sof cs35) (Pof (P := Tryd.prog) []) H.nil.base (300 : Nat)) (loopAt Tryd.f35 (0 : Nat)) (66 : Nat) [(0 : Nat), (3 : Nat), (4 : Nat)] [AV.sl (ints t) t.length r, AV.sl [] (0 : Nat) Room.nil, I (↑(alls t.length) : Int)] (H.mk [] [] []) [Out.mk Unit (AX.exit (0 : Nat)) [(3 : Nat)] (fun x => True) (fun x => [lA (pts t)]) (fun x => lH (pts t)) fun y => []] ∧ (∀ (y : Unit), True → ∀ (u : Nat → AV), leave (Base.mk H.nil.blk.length H.nil.toks.length H.nil.maps.length) (AV.sl (ints (pts t)) (pts t).length (rm (0 : Nat) (pts t))) (H.mk [] (tk (pts t)) []) = (AV.sl (ints (pts t)) (pts t).length (rm (0 : Nat) (pts t)), H.mk [] (tk (pts t)) [])) ∧ True) (by kernel_rfl) ?_
  refine ⟨by first | exact told_shl (by first | exact Int.natCast_nonneg _ | omega) (by with_reducible assumption) | exact told_shl (by omega) rfl, ?_⟩
  refine ⟨told_sub (by with_reducible assumption), ?_⟩
  refine ⟨lp, ?_⟩
  refine And.intro ?_ ?_
  · skip
    intro y
    intro w1
    intro u
    exact leave_intsa _
  · skip
    trivial
/-- the room of the parts, forgotten -/
noncomputable abbrev pR (t : List Int) : Room := (rm 0 (pts t)).wk
noncomputable def c35 : PCtr Tryd.prog := slctr ok35 (X := List Int × Room) (fun x => [ls x.1 x.2]) (fun x => Tn x.1 ∧ rok x.1 x.2) (fun x => .sl (ints (pts x.1)) (pts x.1).length (pR x.1))
  (by rintro ⟨l, r⟩ ⟨m, s⟩ e _ _; simp at e; simp only [e.1]) (fun x => by simp [AV.bnds, AV.bnd, AV.wk, rm_wk_bnd]) (fun x => by simp [AV.bnd, rm_wk_bnd]) (fun x hx => ⟨_, _, _, lA (pts x.1), tk (pts x.1), ct35, r35 x.1 x.2.wk hx.1 (by simpa using hx.2) (rm_wk_bnd _), by show AV.plains (ints (pts x.1)) = true; exact plains_ints _, by simp only [AV.wkd, wkds_ints]⟩)
end Go.Proofs.Rnk

