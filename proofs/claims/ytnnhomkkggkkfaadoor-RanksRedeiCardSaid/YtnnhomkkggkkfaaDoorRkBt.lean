/- Layer 2: how many pairs an order goes against, and is it an order, by the reference. -/
import Derived.Test.YtnnhomkkggkkfaaDoorRkAb
import Derived.KernelRfl
set_option linter.unusedSimpArgs false
set_option linter.unusedVariables false
set_option linter.unnecessarySimpa false
set_option maxHeartbeats 4000000
set_option maxRecDepth 100000
namespace Go.Proofs.Rnk
open Go Go.VM
open Go.Proofs.Sur (andn andn_bit andn_le i_wrap i_and i_or i_xor i_andn i_shl i_shr bit_01)

/-! ### is it an order? -/
abbrev o39x (t : List Int) (r : Room) (o : List Int) (q : Room) : List Out := [.mk Unit .ret [4] (fun _ => ¬ OS t.length o) (fun _ => [.bool false]) (fun _ => .nil) (fun _ => []), .mk Unit (.exit 0) [0, 1] (fun _ => OS t.length o) (fun _ => [ls t r, ls o q]) (fun _ => .nil) (fun _ => [])]
theorem inj_of {n : Nat} {o : List Int} {k : Nat} (h : ∀ i, i < k → OD n o i) {i j : Nat} (hi : i < j) (hj : j < k) (hl : k ≤ o.length) : ofn o i ≠ ofn o j := fun e => by
  have hd := (h j hj).d
  have h1 := (h i (by omega)).a
  have h2 := (h j hj).a
  apply hd
  have hjl : i < o.length := by omega
  have e' : o.getD i i0 = o.getD j i0 := by simp only [ofn] at e; omega
  rw [← e']
  have : (o.take j)[i]? = some (o.getD i i0) := by
    rw [List.getElem?_take, if_pos hi, List.getD_eq_getElem?_getD, List.getElem?_eq_getElem hjl]; rfl
  exact List.mem_of_getElem? this
theorem mem_take_of {o : List Int} {x : Int} : ∀ {k : Nat}, x ∈ o.take k → ∃ i, i < k ∧ i < o.length ∧ o.getD i i0 = x := fun {k} h => by
  obtain ⟨i, hi, e⟩ := List.mem_iff_getElem.1 h
  rw [List.length_take] at hi
  refine ⟨i, by omega, by omega, ?_⟩
  rw [List.getElem_take] at e
  rw [← e, List.getD_eq_getElem?_getD, List.getElem?_eq_getElem (by omega)]; rfl
theorem lp39x (t : List Int) (r : Room) (h8 : t.length ≤ 8) (o : List Int) (q : Room) (hq : rok o q) (hl : lim o.length) :
    LoopS (En6 []) (loopAt Tryd.f39 0) 39 [0, 1, 5, 8, 9, 10] [ls t r, ls o q, I 0, ls o q, I o.length, I 0] .nil (o39x t r o q) := by
  have hR : Rests (En6 []) none1 := rests mixed .nil
  refine loop_s hR simp39 none (by intro _ h; cases h) (fun k vs H => H = .nil ∧ vs = [ls t r, ls o q, I (sO (ofn o) 0 k : Nat), ls o q, I o.length, I k] ∧ ∀ i, i < k → OD t.length o i) o.length ⟨rfl, rfl, fun i hi => absurd hi (by omega)⟩ (by intro _ h; cases h) ?_
  rintro k vs h' hk ⟨rfl, rfl, hall⟩
  by_cases hz : (k : Int) < o.length
  · have hz' : k < o.length := by omega
    have hri := rok_idx hq hz'
    have ev0 : IntKind.i64.wrap ((k : Int) + 1) = ((k + 1 : Nat) : Int) := by rw [wr _ (by omega) (by simp only [lim] at hl; omega)]; omega
    have bad : ∀ (h : ¬ OD t.length o k), ¬ OS t.length o := fun h q => h (q.h k hz')
    by_cases x0 : o.getD k i0 < 0
    · have hn := bad (fun h => by have := h.a; omega)
      refine ⟨[Ans.o (Orc.b true), Ans.o (Orc.val 12 (AV.cptr (ints (List.drop k o))) H.nil), Ans.o (Orc.val 13 (I (o.getD k i0)) H.nil), Ans.o (Orc.b true)], fun u => of_eq ((↑k : Int) < (↑o.length : Int) ∧ aIndexAddr Tryd.prog (22 : Nat) (AV.sl (ints o) o.length q) (I (↑k : Int)) = some (AV.cptr (ints (List.drop k o))) ∧ aLoad Tryd.prog (3 : Nat) (ints (List.drop k o)) = some (I (o.getD k i0)) ∧ o.getD k i0 < (0 : Int) ∧ (39 : Nat) = (39 : Nat) ∧ hits [Out.mk Unit AX.ret [(4 : Nat)] (fun x => ¬OS t.length o) (fun x => [AV.bool false]) (fun x => H.nil) fun x => [], Out.mk Unit (AX.exit (0 : Nat)) [(0 : Nat), (1 : Nat)] (fun x => OS t.length o) (fun x => [ls t r, ls o q]) (fun x => H.nil) fun x => []] AX.ret [AV.sl (ints t) t.length r, AV.sl (ints o) o.length q, u (2 : Nat), u (3 : Nat), AV.bool false, I (↑(sO (ofn o) (0 : Nat) k) : Int), u (6 : Nat), I (o.getD k i0), AV.sl (ints o) o.length q, I (↑o.length : Int), I (↑k : Int), AV.bool true, AV.cptr (ints (List.drop k o)), I (o.getD k i0), I (o.getD k i0), AV.bool true, AV.bool true, AV.tup [], AV.tup [], AV.tup [], AV.tup [], AV.bool true, AV.bool true, AV.tup [], AV.tup [], AV.tup [], AV.tup [], AV.tup [], AV.bool true, u (29 : Nat), u (30 : Nat), u (31 : Nat), u (32 : Nat), u (33 : Nat), u (34 : Nat), u (35 : Nat), u (36 : Nat), u (37 : Nat), u (38 : Nat)] (H.mk [] [] [])) (by kernel_rfl) ?_⟩
      refine ⟨by first | with_reducible assumption | omega | assumption, ?_⟩
      refine ⟨ix_ints (by kernel_rfl) hz' hri, ?_⟩
      refine ⟨ld_ints (by kernel_rfl) (by kernel_rfl) hz', ?_⟩
      refine ⟨by first | with_reducible assumption | omega | assumption, ?_⟩
      refine ⟨by first | with_reducible assumption | omega | assumption, ?_⟩
      exact .inl ⟨(), hn, rfl, rfl, rfl⟩
    have x0 : 0 ≤ o.getD k i0 := by omega
    by_cases x2 : (t.length : Int) ≤ o.getD k i0
    · have hn := bad (fun h => by have := h.b; omega)
      refine ⟨[Ans.o (Orc.b true), Ans.o (Orc.val 12 (AV.cptr (ints (List.drop k o))) H.nil), Ans.o (Orc.val 13 (I (o.getD k i0)) H.nil), Ans.o (Orc.b false), Ans.o (Orc.b true)], fun u => of_eq ((↑k : Int) < (↑o.length : Int) ∧ aIndexAddr Tryd.prog (22 : Nat) (AV.sl (ints o) o.length q) (I (↑k : Int)) = some (AV.cptr (ints (List.drop k o))) ∧ aLoad Tryd.prog (3 : Nat) (ints (List.drop k o)) = some (I (o.getD k i0)) ∧ (0 : Int) ≤ o.getD k i0 ∧ (↑t.length : Int) ≤ o.getD k i0 ∧ (39 : Nat) = (39 : Nat) ∧ hits [Out.mk Unit AX.ret [(4 : Nat)] (fun x => ¬OS t.length o) (fun x => [AV.bool false]) (fun x => H.nil) fun x => [], Out.mk Unit (AX.exit (0 : Nat)) [(0 : Nat), (1 : Nat)] (fun x => OS t.length o) (fun x => [ls t r, ls o q]) (fun x => H.nil) fun x => []] AX.ret [AV.sl (ints t) t.length r, AV.sl (ints o) o.length q, u (2 : Nat), u (3 : Nat), AV.bool false, I (↑(sO (ofn o) (0 : Nat) k) : Int), u (6 : Nat), I (o.getD k i0), AV.sl (ints o) o.length q, I (↑o.length : Int), I (↑k : Int), AV.bool true, AV.cptr (ints (List.drop k o)), I (o.getD k i0), I (o.getD k i0), AV.bool false, AV.bool false, I (o.getD k i0), AV.sl (ints t) t.length r, I (↑t.length : Int), AV.bool true, AV.bool true, AV.bool true, AV.tup [], AV.tup [], AV.tup [], AV.tup [], AV.tup [], AV.bool true, u (29 : Nat), u (30 : Nat), u (31 : Nat), u (32 : Nat), u (33 : Nat), u (34 : Nat), u (35 : Nat), u (36 : Nat), u (37 : Nat), u (38 : Nat)] (H.mk [] [] [])) (by kernel_rfl) ?_⟩
      refine ⟨by first | with_reducible assumption | omega | assumption, ?_⟩
      refine ⟨ix_ints (by kernel_rfl) hz' hri, ?_⟩
      refine ⟨ld_ints (by kernel_rfl) (by kernel_rfl) hz', ?_⟩
      refine ⟨by first | with_reducible assumption | omega | assumption, ?_⟩
      refine ⟨by first | with_reducible assumption | omega | assumption, ?_⟩
      refine ⟨by first | with_reducible assumption | omega | assumption, ?_⟩
      exact .inl ⟨(), hn, rfl, rfl, rfl⟩
    have x2 : o.getD k i0 < (t.length : Int) := by omega
    have hS : sO (ofn o) 0 k < 256 := sO_lt fun i hi => by
      rw [Nat.zero_add]
      have h1 := (hall i hi).a; have h2 := (hall i hi).b
      simp only [ofn]; omega
    have hs8 : s8 ((sO (ofn o) 0 k : Nat) : Int) := by simp only [s8]; omega
    have d3 : ((ofn o k : Nat) : Int) = o.getD k i0 := by simp only [ofn]; omega
    have hle : ofn o k ≤ 64 := by omega
    cases hc : (sO (ofn o) 0 k).testBit (ofn o k)
    · have hnb : bi ((sO (ofn o) 0 k : Nat) : Int) (ofn o k) = false := by simp only [bi, Int.toNat_natCast]; exact hc
      obtain ⟨ev1, ev2⟩ := i_bit0 hs8 hle hnb
      rw [d3] at ev1
      have ev3 := pw_shlO x0 (by omega)
      have h2 : 2 ^ (o.getD k i0).toNat < 2 ^ 8 := Nat.pow_lt_pow_right (by decide) (by omega)
      have ev4 : IntKind.i64.wrap ((BitVec.ofInt IntKind.i64.bits ((sO (ofn o) 0 k : Nat) : Int) ||| BitVec.ofInt IntKind.i64.bits ((2 ^ (o.getD k i0).toNat : Nat) : Int)).toNat : Int) = ((sO (ofn o) 0 (k + 1) : Nat) : Int) := by
        have := i_or (a := sO (ofn o) 0 k) (b := 2 ^ (o.getD k i0).toNat) (by omega) (by omega)
        rw [this, sO, Nat.zero_add]
      have hk2 := all_succ (q := OD t.length o) hall ⟨x0, x2, fun hm => by
        obtain ⟨i, h1, h3, h4⟩ := mem_take_of hm
        have : (sO (ofn o) 0 k).testBit (ofn o k) = true := (sO_bit k).2 ⟨i, h1, by rw [Nat.zero_add]; simp only [ofn]; rw [h4]⟩
        rw [hc] at this; cases this⟩
      refine ⟨[Ans.o (Orc.b true), Ans.o (Orc.val 12 (AV.cptr (ints (List.drop k o))) H.nil), Ans.o (Orc.val 13 (I (o.getD k i0)) H.nil), Ans.o (Orc.b false), Ans.o (Orc.b false), Ans.o (Orc.val 25 (I (↑((↑(sO (ofn o) (0 : Nat) k) : Int).toNat >>> ofn o k) : Int)) H.nil), Ans.o (Orc.val 26 (I 0) H.nil), Ans.o Orc.dflt, Ans.o (Orc.val 31 (I (↑((2 : Nat) ^ (o.getD k i0).toNat) : Int)) H.nil), Ans.o (Orc.val 32 (I (↑(sO (ofn o) (0 : Nat) (k + (1 : Nat))) : Int)) H.nil), Ans.o (Orc.val 33 (I (↑(k + (1 : Nat)) : Int)) H.nil)], fun u => of_eq ((↑k : Int) < (↑o.length : Int) ∧ aIndexAddr Tryd.prog (22 : Nat) (AV.sl (ints o) o.length q) (I (↑k : Int)) = some (AV.cptr (ints (List.drop k o))) ∧ aLoad Tryd.prog (3 : Nat) (ints (List.drop k o)) = some (I (o.getD k i0)) ∧ (0 : Int) ≤ o.getD k i0 ∧ o.getD k i0 < (↑t.length : Int) ∧ aBin Tryd.prog BinOp.shr (3 : Nat) (I (↑(sO (ofn o) (0 : Nat) k) : Int)) (I (o.getD k i0)) = some (I (↑((↑(sO (ofn o) (0 : Nat) k) : Int).toNat >>> ofn o k) : Int)) ∧ aBin Tryd.prog BinOp.and (3 : Nat) (I (↑((↑(sO (ofn o) (0 : Nat) k) : Int).toNat >>> ofn o k) : Int)) (I 1) = some (I 0) ∧ aBin Tryd.prog BinOp.shl (3 : Nat) (I 1) (I (o.getD k i0)) = some (I (↑((2 : Nat) ^ (o.getD k i0).toNat) : Int)) ∧ aBin Tryd.prog BinOp.or (3 : Nat) (I (↑(sO (ofn o) (0 : Nat) k) : Int)) (I (↑((2 : Nat) ^ (o.getD k i0).toNat) : Int)) = some (I (↑(sO (ofn o) (0 : Nat) (k + (1 : Nat))) : Int)) ∧ aBin Tryd.prog BinOp.add (3 : Nat) (I (↑k : Int)) (I 1) = some (I (↑(k + (1 : Nat)) : Int)) ∧ (39 : Nat) = (39 : Nat) ∧ k < o.length ∧ Keep (H.mk [] [] [] = H.mk [] [] [] ∧ [AV.sl (ints t) t.length r, AV.sl (ints o) o.length q, I (↑(sO (ofn o) (0 : Nat) (k + (1 : Nat))) : Int), AV.sl (ints o) o.length q, I (↑o.length : Int), I (↑(k + (1 : Nat)) : Int)] = [AV.sl (ints t) t.length r, AV.sl (ints o) o.length q, I (↑(sO (ofn o) (0 : Nat) (k + (1 : Nat))) : Int), AV.sl (ints o) o.length q, I (↑o.length : Int), I (↑(k + (1 : Nat)) : Int)] ∧ ∀ (i : Nat), i < k + (1 : Nat) → OD t.length o i)) (by kernel_rfl) ?_⟩
      refine ⟨by first | with_reducible assumption | omega | assumption, ?_⟩
      refine ⟨ix_ints (by kernel_rfl) hz' hri, ?_⟩
      refine ⟨ld_ints (by kernel_rfl) (by kernel_rfl) hz', ?_⟩
      refine ⟨by first | with_reducible assumption | omega | assumption, ?_⟩
      refine ⟨by first | with_reducible assumption | omega | assumption, ?_⟩
      refine ⟨by first | exact told_shr (by first | exact Int.natCast_nonneg _ | omega) (by with_reducible assumption) | exact told_shr (by omega) rfl, ?_⟩
      refine ⟨told_and (by with_reducible assumption), ?_⟩
      refine ⟨by first | exact told_shl (by first | exact Int.natCast_nonneg _ | omega) (by with_reducible assumption) | exact told_shl (by omega) rfl, ?_⟩
      refine ⟨told_or (by with_reducible assumption), ?_⟩
      refine ⟨told_add (by with_reducible assumption), ?_⟩
      refine ⟨by first | with_reducible assumption | omega | assumption, ?_⟩
      refine ⟨by first | with_reducible assumption | omega | assumption, ?_⟩
      exact ⟨rfl, rfl, hk2⟩
    · have hnb : bi ((sO (ofn o) 0 k : Nat) : Int) (ofn o k) = true := by simp only [bi, Int.toNat_natCast]; exact hc
      obtain ⟨ev1, ev2⟩ := i_bit1 hs8 hle hnb
      rw [d3] at ev1
      have hn := bad (fun h => by
        obtain ⟨i, h1, h2⟩ := (sO_bit k).1 hc
        rw [Nat.zero_add] at h2
        exact inj_of (k := k + 1) (all_succ (q := OD t.length o) hall h) h1 (by omega) (by omega) h2)
      refine ⟨[Ans.o (Orc.b true), Ans.o (Orc.val 12 (AV.cptr (ints (List.drop k o))) H.nil), Ans.o (Orc.val 13 (I (o.getD k i0)) H.nil), Ans.o (Orc.b false), Ans.o (Orc.b false), Ans.o (Orc.val 25 (I (↑((↑(sO (ofn o) (0 : Nat) k) : Int).toNat >>> ofn o k) : Int)) H.nil), Ans.o (Orc.val 26 (I 1) H.nil), Ans.o Orc.dflt], fun u => of_eq ((↑k : Int) < (↑o.length : Int) ∧ aIndexAddr Tryd.prog (22 : Nat) (AV.sl (ints o) o.length q) (I (↑k : Int)) = some (AV.cptr (ints (List.drop k o))) ∧ aLoad Tryd.prog (3 : Nat) (ints (List.drop k o)) = some (I (o.getD k i0)) ∧ (0 : Int) ≤ o.getD k i0 ∧ o.getD k i0 < (↑t.length : Int) ∧ aBin Tryd.prog BinOp.shr (3 : Nat) (I (↑(sO (ofn o) (0 : Nat) k) : Int)) (I (o.getD k i0)) = some (I (↑((↑(sO (ofn o) (0 : Nat) k) : Int).toNat >>> ofn o k) : Int)) ∧ aBin Tryd.prog BinOp.and (3 : Nat) (I (↑((↑(sO (ofn o) (0 : Nat) k) : Int).toNat >>> ofn o k) : Int)) (I 1) = some (I 1) ∧ (39 : Nat) = (39 : Nat) ∧ hits [Out.mk Unit AX.ret [(4 : Nat)] (fun x => ¬OS t.length o) (fun x => [AV.bool false]) (fun x => H.nil) fun x => [], Out.mk Unit (AX.exit (0 : Nat)) [(0 : Nat), (1 : Nat)] (fun x => OS t.length o) (fun x => [ls t r, ls o q]) (fun x => H.nil) fun x => []] AX.ret [AV.sl (ints t) t.length r, AV.sl (ints o) o.length q, u (2 : Nat), u (3 : Nat), AV.bool false, I (↑(sO (ofn o) (0 : Nat) k) : Int), u (6 : Nat), I (o.getD k i0), AV.sl (ints o) o.length q, I (↑o.length : Int), I (↑k : Int), AV.bool true, AV.cptr (ints (List.drop k o)), I (o.getD k i0), I (o.getD k i0), AV.bool false, AV.bool false, I (o.getD k i0), AV.sl (ints t) t.length r, I (↑t.length : Int), AV.bool false, AV.bool false, AV.bool false, I (↑(sO (ofn o) (0 : Nat) k) : Int), I (o.getD k i0), I (↑((↑(sO (ofn o) (0 : Nat) k) : Int).toNat >>> ofn o k) : Int), I 1, AV.bool true, AV.bool true, u (29 : Nat), u (30 : Nat), u (31 : Nat), u (32 : Nat), u (33 : Nat), u (34 : Nat), u (35 : Nat), u (36 : Nat), u (37 : Nat), u (38 : Nat)] (H.mk [] [] [])) (by kernel_rfl) ?_⟩
      refine ⟨by first | with_reducible assumption | omega | assumption, ?_⟩
      refine ⟨ix_ints (by kernel_rfl) hz' hri, ?_⟩
      refine ⟨ld_ints (by kernel_rfl) (by kernel_rfl) hz', ?_⟩
      refine ⟨by first | with_reducible assumption | omega | assumption, ?_⟩
      refine ⟨by first | with_reducible assumption | omega | assumption, ?_⟩
      refine ⟨by first | exact told_shr (by first | exact Int.natCast_nonneg _ | omega) (by with_reducible assumption) | exact told_shr (by omega) rfl, ?_⟩
      refine ⟨told_and (by with_reducible assumption), ?_⟩
      refine ⟨by first | with_reducible assumption | omega | assumption, ?_⟩
      exact .inl ⟨(), hn, rfl, rfl, rfl⟩
  · have hz : (o.length : Int) ≤ k := by omega
    have e : k = o.length := by omega
    subst e
    refine ⟨[Ans.o (Orc.b false)], fun u => of_eq ((↑o.length : Int) ≤ (↑o.length : Int) ∧ (39 : Nat) = (39 : Nat) ∧ hits [Out.mk Unit AX.ret [(4 : Nat)] (fun x => ¬OS t.length o) (fun x => [AV.bool false]) (fun x => H.nil) fun x => [], Out.mk Unit (AX.exit (0 : Nat)) [(0 : Nat), (1 : Nat)] (fun x => OS t.length o) (fun x => [ls t r, ls o q]) (fun x => H.nil) fun x => []] (AX.exit (0 : Nat)) [AV.sl (ints t) t.length r, AV.sl (ints o) o.length q, u (2 : Nat), u (3 : Nat), u (4 : Nat), I (↑(sO (ofn o) (0 : Nat) o.length) : Int), u (6 : Nat), u (7 : Nat), AV.sl (ints o) o.length q, I (↑o.length : Int), I (↑o.length : Int), AV.bool false, u (12 : Nat), u (13 : Nat), u (14 : Nat), u (15 : Nat), u (16 : Nat), u (17 : Nat), u (18 : Nat), u (19 : Nat), u (20 : Nat), u (21 : Nat), u (22 : Nat), u (23 : Nat), u (24 : Nat), u (25 : Nat), u (26 : Nat), u (27 : Nat), u (28 : Nat), u (29 : Nat), u (30 : Nat), u (31 : Nat), u (32 : Nat), u (33 : Nat), u (34 : Nat), u (35 : Nat), u (36 : Nat), u (37 : Nat), u (38 : Nat)] (H.mk [] [] [])) (by kernel_rfl) ?_⟩
    refine ⟨by first | with_reducible assumption | omega | assumption, ?_⟩
    refine ⟨by first | with_reducible assumption | omega | assumption, ?_⟩
    exact .inr (.inl ⟨(), ⟨hall⟩, rfl, rfl, rfl⟩)
theorem r39x (t : List Int) (r : Room) (h8 : t.length ≤ 8) (o : List Int) (q : Room) (hq : rok o q) (hl : lim o.length) : Body (En6 []) none1 Tryd.f39 [ls t r, ls o q] .nil (.bool (odB t.length o), .nil) := by
  have lp := lp39x t r h8 o q hq hl
  by_cases c0 : (o.length : Int) = t.length
  · refine body_s ([Ans.loop [(0 : Nat), (1 : Nat), (5 : Nat), (8 : Nat), (9 : Nat), (10 : Nat)] [Out.mk Unit AX.ret [(4 : Nat)] (fun x => ¬OS t.length o) (fun x => [AV.bool false]) (fun x => H.nil) fun y => [], Out.mk Unit (AX.exit (0 : Nat)) [(0 : Nat), (1 : Nat)] (fun x => OS t.length o) (fun x => [ls t r, ls o q]) (fun x => H.nil) fun y => [Ans.o (Orc.b true)]]]) (LoopS (Env.mk Tryd.prog (Sof (P := Tryd.prog) []) (Pof (P := Tryd.prog) []) H.nil.base (300 : Nat)) (loopAt Tryd.f39 (0 : Nat)) (39 : Nat) [(0 : Nat), (1 : Nat), (5 : Nat), (8 : Nat), (9 : Nat), (10 : Nat)] [AV.sl (ints t) t.length r, AV.sl (ints o) o.length q, I 0, AV.sl (ints o) o.length q, I (↑o.length : Int), I 0] (H.mk [] [] []) [Out.mk Unit AX.ret [(4 : Nat)] (fun x => ¬OS t.length o) (fun x => [AV.bool false]) (fun x => H.nil) fun y => [], Out.mk Unit (AX.exit (0 : Nat)) [(0 : Nat), (1 : Nat)] (fun x => OS t.length o) (fun x => [ls t r, ls o q]) (fun x => H.nil) fun y => [Ans.o (Orc.b true)]] ∧ (∀ (y : Unit), ¬OS t.length o → ∀ (u : Nat → AV), (AV.bool false, H.mk [] [] []) = (AV.bool (odB t.length o), H.mk [] [] [])) ∧ (∀ (y : Unit), OS t.length o → ∀ (u : Nat → AV), (↑o.length : Int) = (↑t.length : Int) ∧ (AV.bool true, H.mk [] [] []) = (AV.bool (odB t.length o), H.mk [] [] [])) ∧ True) (by kernel_rfl) ?_
    refine ⟨lp, ?_⟩
    refine And.intro ?_ ?_
    · skip
      intro y
      intro w1
      intro u
      first | rw [odB_t ⟨by omega, by assumption⟩] | rw [odB_f (fun q => w1 q.h)]
    · skip
      refine And.intro ?_ ?_
      · skip
        intro y
        intro w1
        intro u
        refine ⟨by first | with_reducible assumption | omega | assumption, ?_⟩
        first | rw [odB_t ⟨by omega, by assumption⟩] | rw [odB_f (fun q => w1 q.h)]
      · skip
        trivial
  · have c0 : (o.length : Int) ≠ t.length := c0
    have e : odB t.length o = false := odB_f fun q => by have := q.le; omega
    rw [e]
    refine body_s ([Ans.loop [(0 : Nat), (1 : Nat), (5 : Nat), (8 : Nat), (9 : Nat), (10 : Nat)] [Out.mk Unit AX.ret [(4 : Nat)] (fun x => ¬OS t.length o) (fun x => [AV.bool false]) (fun x => H.nil) fun y => [], Out.mk Unit (AX.exit (0 : Nat)) [(0 : Nat), (1 : Nat)] (fun x => OS t.length o) (fun x => [ls t r, ls o q]) (fun x => H.nil) fun y => [Ans.o (Orc.b false)]]]) (LoopS (Env.mk Tryd.prog (Sof (P := Tryd.prog) []) (Pof (P := Tryd.prog) []) H.nil.base (300 : Nat)) (loopAt Tryd.f39 (0 : Nat)) (39 : Nat) [(0 : Nat), (1 : Nat), (5 : Nat), (8 : Nat), (9 : Nat), (10 : Nat)] [AV.sl (ints t) t.length r, AV.sl (ints o) o.length q, I 0, AV.sl (ints o) o.length q, I (↑o.length : Int), I 0] (H.mk [] [] []) [Out.mk Unit AX.ret [(4 : Nat)] (fun x => ¬OS t.length o) (fun x => [AV.bool false]) (fun x => H.nil) fun y => [], Out.mk Unit (AX.exit (0 : Nat)) [(0 : Nat), (1 : Nat)] (fun x => OS t.length o) (fun x => [ls t r, ls o q]) (fun x => H.nil) fun y => [Ans.o (Orc.b false)]] ∧ (∀ (y : Unit), ¬OS t.length o → ∀ (u : Nat → AV), (AV.bool false, H.mk [] [] []) = (AV.bool false, H.mk [] [] [])) ∧ (∀ (y : Unit), OS t.length o → ∀ (u : Nat → AV), (↑o.length : Int) ≠ (↑t.length : Int) ∧ (AV.bool false, H.mk [] [] []) = (AV.bool false, H.mk [] [] [])) ∧ True) (by kernel_rfl) ?_
    refine ⟨lp, ?_⟩
    refine And.intro ?_ ?_
    · skip
      intro y
      intro w1
      intro u
      first | with_reducible rfl | (refine bleaf_t ?_; omega) | (refine bleaf_f ?_; omega) | (refine ileaf ?_; omega) | rfl | (exfalso; omega)
    · skip
      refine And.intro ?_ ?_
      · skip
        intro y
        intro w1
        intro u
        refine ⟨by first | with_reducible assumption | omega | assumption, ?_⟩
        first | with_reducible rfl | (refine bleaf_t ?_; omega) | (refine bleaf_f ?_; omega) | (refine ileaf ?_; omega) | rfl | (exfalso; omega)
      · skip
        trivial
/-- 'IsOrder' of any list -/
noncomputable def c39x : PCtr Tryd.prog := sctr ok39 (X := (List Int × Room) × List Int × Room) (fun x => [ls x.1.1 x.1.2, ls x.2.1 x.2.2]) (fun x => x.1.1.length ≤ 8 ∧ rok x.2.1 x.2.2 ∧ lim x.2.1.length) (fun x => .bool (odB x.1.1.length x.2.1))
  (by
    rintro ⟨⟨t, r⟩, o, q⟩ ⟨⟨t', r'⟩, o', q'⟩ e _ _
    simp only [List.cons.injEq, AV.sl.injEq, and_true] at e
    obtain ⟨⟨e1, _, _⟩, e2, _, _⟩ := e
    rw [ints_inj e1, ints_inj e2]) (fun x => by simp [AV.bnds, AV.bnd, AV.wk, rm_wk_bnd]) (fun x => rfl) (fun x hx => ⟨_, _, _, .nil, r39x x.1.1 x.1.2.wk hx.1 x.2.1 x.2.2.wk (by simpa using hx.2.1) hx.2.2⟩)
end Go.Proofs.Rnk

