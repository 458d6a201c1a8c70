/- Layer 9: what there is after a race, by the program and by the reference. -/
import Derived.Test.YthodoagjojmliaaBtY
import Derived.KernelRfl
set_option linter.unusedSimpArgs false
set_option linter.unusedVariables false
set_option linter.unnecessarySimpa false
set_option maxHeartbeats 4000000
set_option maxRecDepth 100000
namespace Go.Proofs.Bts
open Go Go.VM
open Go.Proofs.Sur (i_and i_shl i_shr bit_01)

/-- the sum of the stakes; what is kept; what there is -/
abbrev stT (s : List Pr) : Int := sI (ia (nums s)) s.length
abbrev stD (s : List Pr) : Int := ((dn s s.length : Nat) : Int)
def woF (od : List Int) (s : List Pr) (i : Nat) : Int := (stD s - stT s) + ia (nums s) i * ia od i
def woN (od : List Int) (s : List Pr) (j : Nat) : List Int := (List.range j).map (woF od s)
theorem woN_len (od : List Int) (s : List Pr) (j : Nat) : (woN od s j).length = j := by simp [woN]
theorem woN_succ (od : List Int) (s : List Pr) (j : Nat) : woN od s (j + 1) = woN od s j ++ [woF od s j] := by simp [woN, List.range_succ]
theorem woN_get {od : List Int} {s : List Pr} {i j : Nat} (h : i < j) : ia (woN od s j) i = woF od s i := by simp [woN, ia, List.getD_eq_getElem?_getD, h]
abbrev woL (od : List Int) (s : List Pr) : List Pr := spl (woN od s s.length) (stD s) s.length
abbrev pWo (od : List Int) (s : List Pr) : Prop := ((od.length = s.length ∧ s.length ≤ 5) ∧ wiL 1 12 od) ∧ jOK s ∧ stT s ≤ stD s
theorem wo_b {od : List Int} {s : List Pr} (h : pWo od s) : (1 ≤ stD s ∧ stD s ≤ 10000000000) ∧ (0 ≤ stT s) ∧ ∀ i, i < s.length → (0 ≤ ia (nums s) i ∧ ia (nums s) i ≤ stD s) ∧ (0 ≤ ia (nums s) i * ia od i ∧ ia (nums s) i * ia od i ≤ 120000000000) ∧ 0 ≤ woF od s i ∧ woF od s i ≤ 130000000000 := by
  obtain ⟨⟨⟨h1, h5⟩, h2⟩, h3, h4⟩ := h
  have hp := dn_pos h3.1 (j := s.length) (Nat.le_refl _)
  have hd := h3.2
  have hb := nums_b h3
  have el : (nums s).length = s.length := nmL_len _ _
  have ht : 0 ≤ stT s := (sI_b (f := ia (nums s)) (B := stD s) (n := s.length) (fun i hi => hb i (by omega))).1
  refine ⟨⟨by show (1 : Int) ≤ ((dn s s.length : Nat) : Int); omega, by show ((dn s s.length : Nat) : Int) ≤ _; omega⟩, ht, fun i hi => ?_⟩
  have q1 := hb i (by omega)
  have q2 := h2 i (by omega)
  have q3 := mul_b (x := ia (nums s) i) (y := ia od i) (X := 10000000000) (Y := 12) ⟨q1.1, by omega⟩ ⟨by have := q2.1; omega, q2.2⟩
  have q3 : 0 ≤ ia (nums s) i * ia od i ∧ ia (nums s) i * ia od i ≤ 120000000000 := ⟨q3.1, by have := q3.2; omega⟩
  refine ⟨q1, q3, ?_, ?_⟩
  · simp only [woF]; omega
  · simp only [woF]
    have : stD s ≤ 10000000000 := by show ((dn s s.length : Nat) : Int) ≤ _; omega
    omega
theorem sS_one (a : List Int) (k : Nat) : ∀ {j : Nat}, sS a (2 ^ k) j = if k < j then ia a k else 0
  | 0 => rfl
  | j + 1 => by
    have e : sS a (2 ^ k) (j + 1) = sS a (2 ^ k) j + ia a j * (((2 ^ k).testBit j).toNat : Int) := rfl
    rw [e, sS_one a k, Nat.testBit_two_pow]
    by_cases h : k = j
    · subst h; simp
    · by_cases h2 : k < j
      · rw [if_pos h2, if_pos (by omega)]; simp [h]
      · rw [if_neg h2, if_neg (by omega)]; simp [h]
abbrev hz1 (L : List Pr) : H := ⟨[], tkz L, []⟩
abbrev o46 (od : List Int) (s : List Pr) : List Out := [.mk Unit (.exit 0) [7] (fun _ => True) (fun _ => [pg (woL od s)]) (fun _ => hz1 (woL od s)) (fun _ => [])]
theorem simp46 : allSimpleM none1 (loopAt Try.f46 0) = true := by kernel_rfl
theorem spl_wo (od : List Int) (s : List Pr) {j : Nat} (hj : j < s.length) : spl (woN od s s.length) (stD s) (j + 1) = spl (woN od s s.length) (stD s) j ++ [(lwN (woF od s j) (stD s), lwD (woF od s j) (stD s))] := by
  rw [spl_succ, woN_get hj]
theorem lp46 (od : List Int) (q : Room) (s : List Pr) (r : Room) (hp : pWo od s) (hM : pM s r.wk) (hq : rok od q) :
    LoopS (En6 [c54d.to, c78.to, c94.to]) (loopAt Try.f46 0) 42 [0, 1, 5, 6, 7, 19, 20, 21] [ls od q, pz s r.wk, I (stD s), I (stD s - stT s), .sl [] 0 .nil, pz s r.wk, I s.length, I 0] .nil (o46 od s) := by
  have hR : Rests (En6 [c54d.to, c78.to, c94.to]) none1 := rests mixed (.pure _ (.pure _ (.pure _ .nil)))
  obtain ⟨⟨b1, b2⟩, b3, b4⟩ := wo_b hp
  obtain ⟨⟨⟨h1, h5⟩, h2⟩, h3, h4⟩ := hp
  refine loop_s hR simp46 none (by intro _ h; cases h) (fun j vs h => h = hz1 (spl (woN od s s.length) (stD s) j) ∧ vs = [ls od q, pz s r.wk, I (stD s), I (stD s - stT s), pg (spl (woN od s s.length) (stD s) j), pz s r.wk, I s.length, I (j : Nat)]) s.length ⟨rfl, rfl⟩ (by intro _ h; cases h) ?_
  rintro j vs h hj ⟨rfl, rfl⟩
  by_cases hz : (j : Int) < s.length
  · have hz' : j < s.length := by omega
    have hzo : j < od.length := by omega
    have hzo' : (j : Int) < od.length := by omega
    have hr := rok_idx hq hzo
    have ev0 := wj1 (j := j) (by omega)
    have hj0 : (0 : Int) ≤ j := by omega
    obtain ⟨q1, q2, q3, q4⟩ := b4 j hz'
    have h2p : 2 ^ j ≤ 2 ^ 60 := Nat.pow_le_pow_right (by decide) (by omega)
    have ev1 : IntKind.i64.wrap (1 * 2 ^ min ((j : Int)).toNat IntKind.i64.bits) = ((2 ^ j : Nat) : Int) := by
      have := i_shl (a := 1) (n := j) (by omega) (by omega)
      rw [Nat.one_mul] at this
      exact this
    have es : sS (nums s) (2 ^ j) s.length = ia (nums s) j := by rw [sS_one, if_pos hz']
    have p78 : pQ s r.wk (2 ^ j) := ⟨⟨hM, by omega⟩, h3, by omega⟩
    have em := Int.mul_comm (ia od j) (ia (nums s) j)
    have ev2 : IntKind.i64.wrap (ia od j * sS (nums s) (2 ^ j) s.length) = ia (nums s) j * ia od j := by rw [es, em]; exact wr _ (by omega) (by omega)
    have ev3 : IntKind.i64.wrap (stD s - stT s + ia (nums s) j * ia od j) = woF od s j := wr _ (by show _ ≤ woF od s j; omega) (by show woF od s j ≤ _; omega)
    have p94 : (-9223372036854775807 ≤ woF od s j ∧ woF od s j ≤ 9223372036854775807) ∧ 1 ≤ stD s ∧ stD s ≤ 9223372036854775807 := ⟨⟨by omega, by omega⟩, by omega, by omega⟩
    have hlen := spl_len (woN od s s.length) (stD s) j
    have hap := app_pr (P := Try.prog) (t := 23) (by kernel_rfl) (l := spl (woN od s s.length) (stD s) j) (x := lwN (woF od s j) (stD s)) (y := lwD (woF od s j) (stD s)) (bs := []) (by omega)
    rw [← spl_wo od s hz'] at hap
    refine ⟨[Ans.o (Orc.b true), Ans.o (Orc.val 28 (AV.cptr (ints (List.drop j od))) H.nil), Ans.o (Orc.val 29 (I (od.getD j i0)) H.nil), Ans.o (Orc.val 32 (I (↑((2 : Nat) ^ j) : Int)) H.nil), Ans.o (Orc.val 33 (I (sS (nums s) ((2 : Nat) ^ j) s.length)) (H.mk [] (tkz (spl (woN od s s.length) (stD s) j)) [])), Ans.o (Orc.val 34 (I (ia (nums s) j * ia od j)) H.nil), Ans.o (Orc.val 35 (I (woF od s j)) H.nil), Ans.o (Orc.val 37 (AV.agg [I (lwN (woF od s j) (stD s)), I (lwD (woF od s j) (stD s))]) (H.mk [] (tkz (spl (woN od s s.length) (stD s) j)) [])), Ans.o (Orc.val 39 (AV.sl (pairsA (spl (woN od s s.length) (stD s) (j + (1 : Nat)))) (spl (woN od s s.length) (stD s) (j + (1 : Nat))).length (rmz (2 : Nat) (spl (woN od s s.length) (stD s) (j + (1 : Nat))))) (H.mk [] (tkz (spl (woN od s s.length) (stD s) (j + (1 : Nat)))) [])), Ans.o (Orc.val 40 (I (↑(j + (1 : Nat)) : Int)) H.nil)], fun u => of_eq ((↑j : Int) < (↑s.length : Int) ∧ aIndexAddr Try.prog (36 : Nat) (AV.sl (ints od) od.length q) (I (↑j : Int)) = some (AV.cptr (ints (List.drop j od))) ∧ aLoad Try.prog (3 : Nat) (ints (List.drop j od)) = some (I (od.getD j i0)) ∧ aBin Try.prog BinOp.shl (3 : Nat) (I 1) (I (↑j : Int)) = some (I (↑((2 : Nat) ^ j) : Int)) ∧ aCall (Sof [c54d.to, c78.to, c94.to]) (AV.fn (Fn.func (78 : Nat)) [] []) [AV.sl (pairsA s) s.length r.wk, I (↑((2 : Nat) ^ j) : Int)] (H.mk [] (tkz (spl (woN od s s.length) (stD s) j)) []) = some (I (sS (nums s) ((2 : Nat) ^ j) s.length), H.mk [] (tkz (spl (woN od s s.length) (stD s) j)) []) ∧ aBin Try.prog BinOp.mul (3 : Nat) (I (od.getD j i0)) (I (sS (nums s) ((2 : Nat) ^ j) s.length)) = some (I (ia (nums s) j * ia od j)) ∧ aBin Try.prog BinOp.add (3 : Nat) (I (stD s - stT s)) (I (ia (nums s) j * ia od j)) = some (I (woF od s j)) ∧ aCall (Sof [c54d.to, c78.to, c94.to]) (AV.fn (Fn.func (94 : Nat)) [] []) [I (woF od s j), I (stD s)] (H.mk [] (tkz (spl (woN od s s.length) (stD s) j)) []) = some (AV.agg [I (lwN (woF od s j) (stD s)), I (lwD (woF od s j) (stD s))], H.mk [] (tkz (spl (woN od s s.length) (stD s) j)) []) ∧ aAppend Try.prog (23 : Nat) (23 : Nat) (AV.sl (pairsA (spl (woN od s s.length) (stD s) j)) (spl (woN od s s.length) (stD s) j).length (rmz (2 : Nat) (spl (woN od s s.length) (stD s) j))) (AV.sl [I (lwN (woF od s j) (stD s)), I (lwD (woF od s j) (stD s))] (1 : Nat) Room.full) (H.mk [] (tkz (spl (woN od s s.length) (stD s) j)) []) = some (AV.sl (pairsA (spl (woN od s s.length) (stD s) (j + (1 : Nat)))) (spl (woN od s s.length) (stD s) (j + (1 : Nat))).length (rmz (2 : Nat) (spl (woN od s s.length) (stD s) (j + (1 : Nat)))), H.mk [] (tkz (spl (woN od s s.length) (stD s) (j + (1 : Nat)))) []) ∧ aBin Try.prog BinOp.add (3 : Nat) (I (↑j : Int)) (I 1) = some (I (↑(j + (1 : Nat)) : Int)) ∧ (42 : Nat) = (42 : Nat) ∧ j < s.length ∧ Keep (H.mk [] (tkz (spl (woN od s s.length) (stD s) (j + (1 : Nat)))) [] = H.mk [] (tkz (spl (woN od s s.length) (stD s) (j + (1 : Nat)))) [] ∧ [AV.sl (ints od) od.length q, AV.sl (pairsA s) s.length r.wk, I (stD s), I (stD s - stT s), AV.sl (pairsA (spl (woN od s s.length) (stD s) (j + (1 : Nat)))) (spl (woN od s s.length) (stD s) (j + (1 : Nat))).length (rmz (2 : Nat) (spl (woN od s s.length) (stD s) (j + (1 : Nat)))), AV.sl (pairsA s) s.length r.wk, I (↑s.length : Int), I (↑(j + (1 : Nat)) : Int)] = [AV.sl (ints od) od.length q, AV.sl (pairsA s) s.length r.wk, I (stD s), I (stD s - stT s), AV.sl (pairsA (spl (woN od s s.length) (stD s) (j + (1 : Nat)))) (spl (woN od s s.length) (stD s) (j + (1 : Nat))).length (rmz (2 : Nat) (spl (woN od s s.length) (stD s) (j + (1 : Nat)))), AV.sl (pairsA s) s.length r.wk, I (↑s.length : Int), I (↑(j + (1 : Nat)) : Int)])) (by kernel_rfl) ?_⟩
    refine ⟨by first | with_reducible assumption | omega | assumption, ?_⟩
    refine ⟨ix_ints (by kernel_rfl) hzo hr, ?_⟩
    refine ⟨ld_ints (by kernel_rfl) (by kernel_rfl) hzo, ?_⟩
    refine ⟨by first | exact told_shl (by first | exact Int.natCast_nonneg _ | omega) (by with_reducible assumption) | exact told_shl (by omega) rfl, ?_⟩
    refine ⟨acall_hit (c := c78.to) (s, r.wk, 2 ^ j) _ rfl p78, ?_⟩
    refine ⟨told_mul (by with_reducible assumption), ?_⟩
    refine ⟨told_add (by with_reducible assumption), ?_⟩
    refine ⟨acall_hit (c := c94.to) (woF od s j, stD s) _ rfl p94, ?_⟩
    refine ⟨hap, ?_⟩
    refine ⟨told_add (by with_reducible assumption), ?_⟩
    refine ⟨by first | with_reducible assumption | omega | assumption, ?_⟩
    refine ⟨by first | with_reducible assumption | omega | assumption, ?_⟩
    exact ⟨rfl, rfl⟩
  · have hz : (s.length : Int) ≤ j := by omega
    have e : j = s.length := by omega
    subst e
    refine ⟨[Ans.o (Orc.b false)], fun u => of_eq ((↑s.length : Int) ≤ (↑s.length : Int) ∧ (42 : Nat) = (42 : Nat) ∧ hits [Out.mk Unit (AX.exit (0 : Nat)) [(7 : Nat)] (fun x => True) (fun x => [pg (woL od s)]) (fun x => hz1 (woL od s)) fun x => []] (AX.exit (0 : Nat)) [AV.sl (ints od) od.length q, AV.sl (pairsA s) s.length r.wk, u (2 : Nat), u (3 : Nat), u (4 : Nat), I (stD s), I (stD s - stT s), AV.sl (pairsA (spl (woN od s s.length) (stD s) s.length)) (spl (woN od s s.length) (stD s) s.length).length (rmz (2 : Nat) (spl (woN od s s.length) (stD s) s.length)), u (8 : Nat), u (9 : Nat), u (10 : Nat), u (11 : Nat), u (12 : Nat), u (13 : Nat), u (14 : Nat), u (15 : Nat), u (16 : Nat), u (17 : Nat), u (18 : Nat), AV.sl (pairsA s) s.length r.wk, I (↑s.length : Int), I (↑s.length : Int), AV.bool false, u (23 : Nat), u (24 : Nat), u (25 : Nat), u (26 : Nat), u (27 : Nat), u (28 : Nat), u (29 : Nat), u (30 : Nat), u (31 : Nat), u (32 : Nat), u (33 : Nat), u (34 : Nat), u (35 : Nat), u (36 : Nat), u (37 : Nat), u (38 : Nat), u (39 : Nat), u (40 : Nat), u (41 : Nat)] (H.mk [] (tkz (spl (woN od s s.length) (stD s) s.length)) [])) (by kernel_rfl) ?_⟩
    refine ⟨by first | with_reducible assumption | omega | assumption, ?_⟩
    refine ⟨by first | with_reducible assumption | omega | assumption, ?_⟩
    exact .inl ⟨(), trivial, rfl, rfl, rfl⟩
theorem ok46 : FokM Try.prog none1 46 Try.f46 := ⟨mixed, by kernel_rfl, by kernel_rfl, by kernel_rfl, by kernel_rfl⟩
theorem r46 (od : List Int) (q : Room) (s : List Pr) (r : Room) (hp : pWo od s) (hM : pM s r.wk) (hq : rok od q) : Body (En6 [c54d.to, c78.to, c94.to]) none1 Try.f46 [ls od q, pz s r.wk] .nil (pg (woL od s), ⟨[], tkz (woL od s), []⟩) := by
  have hl := lp46 od q s r hp hM hq
  obtain ⟨⟨b1, b2⟩, b3, b4⟩ := wo_b hp
  have h3 := hp.2.1
  have hle := hp.2.2
  have h5 := hp.1.1.2
  have h2 : 2 ^ s.length ≤ 2 ^ 60 := Nat.pow_le_pow_right (by decide) (by omega)
  have h0 : 1 ≤ 2 ^ s.length := Nat.one_le_two_pow
  have ev0 : IntKind.i64.wrap (1 * 2 ^ min ((s.length : Int)).toNat IntKind.i64.bits) = ((2 ^ s.length : Nat) : Int) := by
    have := i_shl (a := 1) (n := s.length) (by omega) (by omega)
    rw [Nat.one_mul] at this
    exact this
  have ev1 : IntKind.i64.wrap (((2 ^ s.length : Nat) : Int) - 1) = ((2 ^ s.length - 1 : Nat) : Int) := by rw [wr _ (by omega) (by omega)]; omega
  have p78 : pQ s r.wk (2 ^ s.length - 1) := ⟨⟨hM, by omega⟩, h3, by omega⟩
  have es : sS (nums s) (2 ^ s.length - 1) s.length = stT s := sS_all (nums s) s.length (Nat.le_refl s.length)
  have ev2 : IntKind.i64.wrap (((dn s s.length : Nat) : Int) - sS (nums s) (2 ^ s.length - 1) s.length) = stD s - stT s := by rw [es]; exact wr _ (by show _ ≤ stD s - stT s; omega) (by show stD s - stT s ≤ _; omega)
  refine body_s ([Ans.o (Orc.val 10 (I (↑(dn s s.length) : Int)) (H.mk [] [] [])), Ans.o (Orc.val 15 (I (↑((2 : Nat) ^ s.length) : Int)) H.nil), Ans.o (Orc.val 16 (I (↑((2 : Nat) ^ s.length - (1 : Nat)) : Int)) H.nil), Ans.o (Orc.val 17 (I (sS (nums s) ((2 : Nat) ^ s.length - (1 : Nat)) s.length)) (H.mk [] [] [])), Ans.o (Orc.val 18 (I (stD s - stT s)) H.nil), Ans.loop [(0 : Nat), (1 : Nat), (5 : Nat), (6 : Nat), (7 : Nat), (19 : Nat), (20 : Nat), (21 : Nat)] [Out.mk Unit (AX.exit (0 : Nat)) [(7 : Nat)] (fun x => True) (fun x => [pg (woL od s)]) (fun x => hz1 (woL od s)) fun y => []]]) (aCall (Sof [c54d.to, c78.to, c94.to]) (AV.fn (Fn.func (54 : Nat)) [] []) [AV.sl (pairsA s) s.length r.wk] (H.mk [] [] []) = some (I (↑(dn s s.length) : Int), H.mk [] [] []) ∧ aBin Try.prog BinOp.shl (3 : Nat) (I 1) (I (↑s.length : Int)) = some (I (↑((2 : Nat) ^ s.length) : Int)) ∧ aBin Try.prog BinOp.sub (3 : Nat) (I (↑((2 : Nat) ^ s.length) : Int)) (I 1) = some (I (↑((2 : Nat) ^ s.length - (1 : Nat)) : Int)) ∧ aCall (Sof [c54d.to, c78.to, c94.to]) (AV.fn (Fn.func (78 : Nat)) [] []) [AV.sl (pairsA s) s.length r.wk, I (↑((2 : Nat) ^ s.length - (1 : Nat)) : Int)] (H.mk [] [] []) = some (I (sS (nums s) ((2 : Nat) ^ s.length - (1 : Nat)) s.length), H.mk [] [] []) ∧ aBin Try.prog BinOp.sub (3 : Nat) (I (↑(dn s s.length) : Int)) (I (sS (nums s) ((2 : Nat) ^ s.length - (1 : Nat)) s.length)) = some (I (stD s - stT s)) ∧ LoopS (Env.mk Try.prog (Sof [c54d.to, c78.to, c94.to]) (Pof (P := Try.prog) []) H.nil.base (300 : Nat)) (loopAt Try.f46 (0 : Nat)) (42 : Nat) [(0 : Nat), (1 : Nat), (5 : Nat), (6 : Nat), (7 : Nat), (19 : Nat), (20 : Nat), (21 : Nat)] [AV.sl (ints od) od.length q, AV.sl (pairsA s) s.length r.wk, I (↑(dn s s.length) : Int), I (stD s - stT s), AV.sl [] (0 : Nat) Room.nil, AV.sl (pairsA s) s.length r.wk, I (↑s.length : Int), I 0] (H.mk [] [] []) [Out.mk Unit (AX.exit (0 : Nat)) [(7 : Nat)] (fun x => True) (fun x => [pg (woL od s)]) (fun x => hz1 (woL od s)) fun y => []] ∧ (∀ (y : Unit), True → ∀ (u : Nat → AV), leave (Base.mk H.nil.blk.length H.nil.toks.length H.nil.maps.length) (AV.sl (pairsA (woL od s)) (woL od s).length (rmz (2 : Nat) (woL od s))) (H.mk [] (tkz (woL od s)) []) = (AV.sl (pairsA (woL od s)) (woL od s).length (rmz (2 : Nat) (woL od s)), H.mk [] (tkz (woL od s)) [])) ∧ True) (by kernel_rfl) ?_
  refine ⟨acall_hit (c := c54d.to) (s, r.wk) _ rfl ⟨hM, h3⟩, ?_⟩
  refine ⟨by first | exact told_shl (by first | exact Int.natCast_nonneg _ | omega) (by with_reducible assumption) | exact told_shl (by omega) rfl, ?_⟩
  refine ⟨told_sub (by with_reducible assumption), ?_⟩
  refine ⟨acall_hit (c := c78.to) (s, r.wk, 2 ^ s.length - 1) _ rfl p78, ?_⟩
  refine ⟨told_sub (by with_reducible assumption), ?_⟩
  refine ⟨hl, ?_⟩
  refine And.intro ?_ ?_
  · skip
    intro y
    intro w1
    intro u
    exact leave_pg _ _
  · skip
    trivial
end Go.Proofs.Bts

