/- Layer 7: the average index. -/
import Derived.Test.YtmgbglnljnlapaaOrAf
import Derived.KernelRfl
set_option linter.unusedSimpArgs false
set_option linter.unusedVariables false
set_option linter.unnecessarySimpa false
set_option maxHeartbeats 4000000
set_option maxRecDepth 100000
namespace Go.Proofs.Ord
open Go Go.VM
open Go.Proofs.Sur (andn andn_bit andn_le i_wrap i_and i_or i_andn i_shl i_shr bit_01)

/-- the sum of the indices of i, from the first k others -/
abbrev nS (o : List Int) (i k : Nat) : Nat := sumN (fun j => if j ≠ i then nb (rel o) o.length (alls o.length) j i else 0) k
theorem nS_le {o : List Int} (h6 : o.length ≤ 6) (i : Nat) {k : Nat} (hk : k ≤ 6) : nS o i k ≤ 279936 := by
  refine Nat.le_trans (sumN_le (g := fun _ => 46656) fun j _ => ?_) ?_
  · split
    · exact nb_le h6 j i
    · exact Nat.zero_le _
  · rw [sumN_const]; omega
/-- the average index -/
abbrev heO (o : List Int) (i : Nat) : AV := fr (nS o i o.length) (ctO o)
abbrev h35 (o : List Int) : H := ⟨[[I 0, I 0], ints (o7 o.length (rel o))], [], []⟩
abbrev o35 (o : List Int) (i : Nat) : List Out := [.mk Unit (.exit 0) [4, 5, 6, 8] (fun _ => True) (fun _ => [.ptr 0 0, I 0, .ptr 1 0, I (nS o i o.length : Nat)]) (fun _ => h35 o) (fun _ => [])]
theorem simp35 : allSimpleM none1 (loopAt Try.f35 0) = true := by kernel_rfl
theorem lp35 (o : List Int) (i : Nat) (h : OrdL o) (hi : el o i) : LoopS (En6 [c69t.to, c65.to, c79g.to, c75.to, c78.to]) (loopAt Try.f35 0) 44 [1, 4, 5, 6, 8, 26, 27] [I i, .ptr 0 0, I 0, .ptr 1 0, I 0, I o.length, I 0] (h35 o) (o35 o i) := by
  have hR : Rests (En6 [c69t.to, c65.to, c79g.to, c75.to, c78.to]) none1 := rests mixed (.pure _ (.pure _ (.pure _ (.pure _ (.pure _ .nil)))))
  have hp := h.p
  have h6 := h.s.2
  refine loop_s hR simp35 none (by intro _ h; cases h) (fun k vs H => H = h35 o ∧ vs = [I i, .ptr 0 0, I 0, .ptr 1 0, I (nS o i k : Nat), I o.length, I k]) o.length ⟨rfl, rfl⟩ (by intro _ h; cases h) ?_
  rintro k vs H hk ⟨rfl, rfl⟩
  have hs := nS_le h6 i (k := k) (by omega)
  by_cases hz : (k : Int) < o.length
  · have hz' : k < o.length := by omega
    have hb := nb_le (A := rel o) h6 k i
    have ev0 := wj1 (j := k) (by omega)
    by_cases hki : k = i
    · have hv : nS o i (k + 1) = nS o i k := by rw [nS, sumN, if_neg (fun q => q hki)]; rfl
      have c1 : (k : Int) = i := by omega
      refine ⟨[Ans.o (Orc.b true), Ans.o (Orc.b false), Ans.o (Orc.val 39 (I (↑(k + (1 : Nat)) : Int)) H.nil)], fun u => of_eq ((↑k : Int) < (↑o.length : Int) ∧ (↑k : Int) = (↑i : Int) ∧ aBin Try.prog BinOp.add (3 : Nat) (I (↑k : Int)) (I 1) = some (I (↑(k + (1 : Nat)) : Int)) ∧ (44 : Nat) = (44 : Nat) ∧ k < o.length ∧ Keep (H.mk [[I 0, I 0], ints (o7 o.length (rel o))] [] [] = H.mk [[I 0, I 0], ints (o7 o.length (rel o))] [] [] ∧ [I (↑i : Int), AV.ptr 0 0, I 0, AV.ptr 1 0, I (↑(nS o i k) : Int), I (↑o.length : Int), I (↑(k + (1 : Nat)) : Int)] = [I (↑i : Int), AV.ptr 0 0, I 0, AV.ptr 1 0, I (↑(nS o i (k + (1 : Nat))) : Int), I (↑o.length : Int), I (↑(k + (1 : Nat)) : Int)])) (by kernel_rfl) ?_⟩
      refine ⟨by first | with_reducible assumption | omega | assumption, ?_⟩
      refine ⟨by first | with_reducible assumption | omega | assumption, ?_⟩
      refine ⟨told_add (by with_reducible assumption), ?_⟩
      refine ⟨by first | with_reducible assumption | omega | assumption, ?_⟩
      refine ⟨by first | with_reducible assumption | omega | assumption, ?_⟩
      exact ⟨rfl, by rw [hv]⟩
    · have hv : nS o i (k + 1) = nS o i k + nb (rel o) o.length (alls o.length) k i := by rw [nS, sumN, if_pos hki]
      have c1 : (k : Int) ≠ i := by omega
      have ev1 : IntKind.i64.wrap (((nS o i k : Nat) : Int) + ((nb (rel o) o.length (alls o.length) k i : Nat) : Int)) = ((nS o i k + nb (rel o) o.length (alls o.length) k i : Nat) : Int) := by rw [wr _ (by omega) (by omega)]; omega
      refine ⟨[Ans.o (Orc.b true), Ans.o (Orc.b true), Ans.o (Orc.val 37 (I (↑(nb (rel o) o.length (alls o.length) k i) : Int)) (H.mk [[I 0, I 0], ints (o7 o.length (rel o))] [] [])), Ans.o (Orc.val 38 (I (↑(nS o i k + nb (rel o) o.length (alls o.length) k i) : Int)) H.nil), Ans.o (Orc.val 39 (I (↑(k + (1 : Nat)) : Int)) H.nil)], fun u => of_eq ((↑k : Int) < (↑o.length : Int) ∧ (↑k : Int) ≠ (↑i : Int) ∧ aCall (Sof [c69t.to, c65.to, c79g.to, c75.to, c78.to]) (AV.fn (Fn.func (79 : Nat)) [] []) [AV.agg [I (↑o.length : Int), I (↑(rel o (nat_lit 0)) : Int), I (↑(rel o (nat_lit 1)) : Int), I (↑(rel o (nat_lit 2)) : Int), I (↑(rel o (nat_lit 3)) : Int), I (↑(rel o (nat_lit 4)) : Int), I (↑(rel o (nat_lit 5)) : Int)], I (↑k : Int), I (↑i : Int)] (H.mk [[I 0, I 0], ints (o7 o.length (rel o))] [] []) = some (I (↑(nb (rel o) o.length (alls o.length) k i) : Int), H.mk [[I 0, I 0], ints (o7 o.length (rel o))] [] []) ∧ aBin Try.prog BinOp.add (3 : Nat) (I (↑(nS o i k) : Int)) (I (↑(nb (rel o) o.length (alls o.length) k i) : Int)) = some (I (↑(nS o i k + nb (rel o) o.length (alls o.length) k i) : Int)) ∧ aBin Try.prog BinOp.add (3 : Nat) (I (↑k : Int)) (I 1) = some (I (↑(k + (1 : Nat)) : Int)) ∧ (44 : Nat) = (44 : Nat) ∧ k < o.length ∧ Keep (H.mk [[I 0, I 0], ints (o7 o.length (rel o))] [] [] = H.mk [[I 0, I 0], ints (o7 o.length (rel o))] [] [] ∧ [I (↑i : Int), AV.ptr 0 0, I 0, AV.ptr 1 0, I (↑(nS o i k + nb (rel o) o.length (alls o.length) k i) : Int), I (↑o.length : Int), I (↑(k + (1 : Nat)) : Int)] = [I (↑i : Int), AV.ptr 0 0, I 0, AV.ptr 1 0, I (↑(nS o i (k + (1 : Nat))) : Int), I (↑o.length : Int), I (↑(k + (1 : Nat)) : Int)])) (by kernel_rfl) ?_⟩
      refine ⟨by first | with_reducible assumption | omega | assumption, ?_⟩
      refine ⟨by first | with_reducible assumption | omega | assumption, ?_⟩
      refine ⟨acall_hit (c := c79g.to) ((o.length, rel o), k, i) _ rfl ⟨hp, hz', hi⟩, ?_⟩
      refine ⟨told_add (by with_reducible assumption), ?_⟩
      refine ⟨told_add (by with_reducible assumption), ?_⟩
      refine ⟨by first | with_reducible assumption | omega | assumption, ?_⟩
      refine ⟨by first | with_reducible assumption | omega | assumption, ?_⟩
      exact ⟨rfl, by rw [hv]⟩
  · have hz : (o.length : Int) ≤ k := by omega
    have hk' : k = o.length := by omega
    subst hk'
    refine ⟨[Ans.o (Orc.b false)], fun u => of_eq ((↑o.length : Int) ≤ (↑o.length : Int) ∧ (44 : Nat) = (44 : Nat) ∧ hits [Out.mk Unit (AX.exit (0 : Nat)) [(4 : Nat), (5 : Nat), (6 : Nat), (8 : Nat)] (fun x => True) (fun x => [AV.ptr 0 0, I 0, AV.ptr 1 0, I (↑(nS o i o.length) : Int)]) (fun x => h35 o) fun x => []] (AX.exit (0 : Nat)) [u (0 : Nat), I (↑i : Int), u (2 : Nat), u (3 : Nat), AV.ptr 0 0, I 0, AV.ptr 1 0, u (7 : Nat), I (↑(nS o i o.length) : Int), u (9 : Nat), u (10 : Nat), u (11 : Nat), u (12 : Nat), u (13 : Nat), u (14 : Nat), u (15 : Nat), u (16 : Nat), u (17 : Nat), u (18 : Nat), u (19 : Nat), u (20 : Nat), u (21 : Nat), u (22 : Nat), u (23 : Nat), u (24 : Nat), u (25 : Nat), I (↑o.length : Int), I (↑o.length : Int), AV.bool false, u (29 : Nat), u (30 : Nat), u (31 : Nat), u (32 : Nat), u (33 : Nat), u (34 : Nat), u (35 : Nat), u (36 : Nat), u (37 : Nat), u (38 : Nat), u (39 : Nat), u (40 : Nat), u (41 : Nat), u (42 : Nat), u (43 : Nat)] (H.mk [[I 0, I 0], ints (o7 o.length (rel o))] [] [])) (by kernel_rfl) ?_⟩
    refine ⟨by first | with_reducible assumption | omega | assumption, ?_⟩
    refine ⟨by first | with_reducible assumption | omega | assumption, ?_⟩
    exact .inl ⟨(), trivial, rfl, rfl, rfl⟩
theorem ok35 : FokM Try.prog none1 35 Try.f35 := ⟨mixed, by kernel_rfl, by kernel_rfl, by kernel_rfl, by kernel_rfl⟩
theorem r35t (o : List Int) (r : Room) (i : Nat) (h : pI o r ∧ OrdL o) (hi : el o i) : Body (En6 [c69t.to, c65.to, c79g.to, c75.to, c78.to]) none1 Try.f35 [ls o r, I i] .nil (.tup [heO o i, I 0], .nil) := by
  have hp := h.2.p
  have hl := lp35 o i h.2 hi
  have b65 : decide ((0 ≤ (i : Int) ∧ (i : Int) < o.length) ∧ 0 ≤ (i : Int) ∧ (i : Int) < o.length) = true := by rw [decide_eq_true_eq]; simp only [el] at hi; omega
  have hle : ctO o ≤ 46656 := ct_le h.2.s.2 (alls_lt _)
  have h1 : 1 ≤ ctO o := ct1 h.2.od h.2.s.2
  have hb := nS_le h.2.s.2 i (k := o.length) h.2.s.2
  refine body_s ([Ans.o (Orc.val 12 (AV.tup [AV.agg (ints (o7 o.length (rel o))), AV.bool true]) (H.mk [[I 0, I 0]] [] [])), Ans.o (Orc.val 21 (AV.bool true) (H.mk [[I 0, I 0], [I (↑o.length : Int), I (↑(rel o (nat_lit 0)) : Int), I (↑(rel o (nat_lit 1)) : Int), I (↑(rel o (nat_lit 2)) : Int), I (↑(rel o (nat_lit 3)) : Int), I (↑(rel o (nat_lit 4)) : Int), I (↑(rel o (nat_lit 5)) : Int)]] [] [])), Ans.loop [(1 : Nat), (4 : Nat), (5 : Nat), (6 : Nat), (8 : Nat), (26 : Nat), (27 : Nat)] [Out.mk Unit (AX.exit (0 : Nat)) [(4 : Nat), (5 : Nat), (6 : Nat), (8 : Nat)] (fun x => True) (fun x => [AV.ptr 0 0, I 0, AV.ptr 1 0, I (↑(nS o i o.length) : Int)]) (fun x => h35 o) fun y => [Ans.o (Orc.val 42 (I (↑(ct (rel o) o.length (alls o.length)) : Int)) (H.mk [[I 0, I 0], ints (o7 o.length (rel o))] [] [])), Ans.o (Orc.val 43 (AV.agg [I (↑(nS o i o.length / (nS o i o.length).gcd (ct (rel o) o.length (alls o.length))) : Int), I (↑(ct (rel o) o.length (alls o.length) / (nS o i o.length).gcd (ct (rel o) o.length (alls o.length))) : Int)]) (H.mk [[I 0, I 0], ints (o7 o.length (rel o))] [] []))]]]) (aCall (Sof [c69t.to, c65.to, c79g.to, c75.to, c78.to]) (AV.fn (Fn.func (69 : Nat)) [] []) [AV.sl (ints o) o.length r] (H.mk [[I 0, I 0]] [] []) = some (AV.tup [AV.agg (ints (o7 o.length (rel o))), AV.bool true], H.mk [[I 0, I 0]] [] []) ∧ aCall (Sof [c69t.to, c65.to, c79g.to, c75.to, c78.to]) (AV.fn (Fn.func (65 : Nat)) [] []) [AV.agg [I (↑o.length : Int), I (↑(rel o (nat_lit 0)) : Int), I (↑(rel o (nat_lit 1)) : Int), I (↑(rel o (nat_lit 2)) : Int), I (↑(rel o (nat_lit 3)) : Int), I (↑(rel o (nat_lit 4)) : Int), I (↑(rel o (nat_lit 5)) : Int)], I (↑i : Int), I (↑i : Int)] (H.mk [[I 0, I 0], [I (↑o.length : Int), I (↑(rel o (nat_lit 0)) : Int), I (↑(rel o (nat_lit 1)) : Int), I (↑(rel o (nat_lit 2)) : Int), I (↑(rel o (nat_lit 3)) : Int), I (↑(rel o (nat_lit 4)) : Int), I (↑(rel o (nat_lit 5)) : Int)]] [] []) = some (AV.bool true, H.mk [[I 0, I 0], [I (↑o.length : Int), I (↑(rel o (nat_lit 0)) : Int), I (↑(rel o (nat_lit 1)) : Int), I (↑(rel o (nat_lit 2)) : Int), I (↑(rel o (nat_lit 3)) : Int), I (↑(rel o (nat_lit 4)) : Int), I (↑(rel o (nat_lit 5)) : Int)]] [] []) ∧ LoopS (Env.mk Try.prog (Sof [c69t.to, c65.to, c79g.to, c75.to, c78.to]) (Pof (P := Try.prog) []) H.nil.base (300 : Nat)) (loopAt Try.f35 (0 : Nat)) (44 : Nat) [(1 : Nat), (4 : Nat), (5 : Nat), (6 : Nat), (8 : Nat), (26 : Nat), (27 : Nat)] [I (↑i : Int), AV.ptr 0 0, I 0, AV.ptr 1 0, I 0, I (↑o.length : Int), I 0] (H.mk [[I 0, I 0], [I (↑o.length : Int), I (↑(rel o (nat_lit 0)) : Int), I (↑(rel o (nat_lit 1)) : Int), I (↑(rel o (nat_lit 2)) : Int), I (↑(rel o (nat_lit 3)) : Int), I (↑(rel o (nat_lit 4)) : Int), I (↑(rel o (nat_lit 5)) : Int)]] [] []) [Out.mk Unit (AX.exit (0 : Nat)) [(4 : Nat), (5 : Nat), (6 : Nat), (8 : Nat)] (fun x => True) (fun x => [AV.ptr 0 0, I 0, AV.ptr 1 0, I (↑(nS o i o.length) : Int)]) (fun x => h35 o) fun y => [Ans.o (Orc.val 42 (I (↑(ct (rel o) o.length (alls o.length)) : Int)) (H.mk [[I 0, I 0], ints (o7 o.length (rel o))] [] [])), Ans.o (Orc.val 43 (AV.agg [I (↑(nS o i o.length / (nS o i o.length).gcd (ct (rel o) o.length (alls o.length))) : Int), I (↑(ct (rel o) o.length (alls o.length) / (nS o i o.length).gcd (ct (rel o) o.length (alls o.length))) : Int)]) (H.mk [[I 0, I 0], ints (o7 o.length (rel o))] [] []))]] ∧ (∀ (y : Unit), True → ∀ (u : Nat → AV), aCall (Sof [c69t.to, c65.to, c79g.to, c75.to, c78.to]) (AV.fn (Fn.func (75 : Nat)) [] []) [AV.agg [I (↑o.length : Int), I (↑(rel o (nat_lit 0)) : Int), I (↑(rel o (nat_lit 1)) : Int), I (↑(rel o (nat_lit 2)) : Int), I (↑(rel o (nat_lit 3)) : Int), I (↑(rel o (nat_lit 4)) : Int), I (↑(rel o (nat_lit 5)) : Int)]] (H.mk [[I 0, I 0], ints (o7 o.length (rel o))] [] []) = some (I (↑(ct (rel o) o.length (alls o.length)) : Int), H.mk [[I 0, I 0], ints (o7 o.length (rel o))] [] []) ∧ aCall (Sof [c69t.to, c65.to, c79g.to, c75.to, c78.to]) (AV.fn (Fn.func (78 : Nat)) [] []) [I (↑(nS o i o.length) : Int), I (↑(ct (rel o) o.length (alls o.length)) : Int)] (H.mk [[I 0, I 0], ints (o7 o.length (rel o))] [] []) = some (AV.agg [I (↑(nS o i o.length / (nS o i o.length).gcd (ct (rel o) o.length (alls o.length))) : Int), I (↑(ct (rel o) o.length (alls o.length) / (nS o i o.length).gcd (ct (rel o) o.length (alls o.length))) : Int)], H.mk [[I 0, I 0], ints (o7 o.length (rel o))] [] []) ∧ (AV.tup [AV.agg [I (↑(nS o i o.length / (nS o i o.length).gcd (ct (rel o) o.length (alls o.length))) : Int), I (↑(ct (rel o) o.length (alls o.length) / (nS o i o.length).gcd (ct (rel o) o.length (alls o.length))) : Int)], I 0], H.mk [] [] []) = (AV.tup [AV.agg [I (↑(nS o i o.length / (nS o i o.length).gcd (ctO o)) : Int), I (↑(ctO o / (nS o i o.length).gcd (ctO o)) : Int)], I 0], H.mk [] [] [])) ∧ True) (by kernel_rfl) ?_
  refine ⟨acall_hit (c := c69t.to) ((o, r) : List Int × Room) _ rfl h, ?_⟩
  refine ⟨acall_b (acall_hit (c := c65.to) ((o.length, rel o), (i : Int), (i : Int)) _ rfl hp) b65, ?_⟩
  refine ⟨hl, ?_⟩
  refine And.intro ?_ ?_
  · skip
    intro y
    intro w1
    intro u
    refine ⟨acall_hit (c := c75.to) (o.length, rel o) _ rfl hp, ?_⟩
    refine ⟨acall_hit (c := c78.to) (nS o i o.length, ctO o) _ rfl ⟨Nat.le_trans hb (by decide), h1, Nat.le_trans hle (by decide)⟩, ?_⟩
    rfl
  · skip
    trivial
end Go.Proofs.Ord

