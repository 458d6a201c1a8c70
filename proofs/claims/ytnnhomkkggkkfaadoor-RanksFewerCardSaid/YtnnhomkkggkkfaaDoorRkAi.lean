/- Layer 2: pairs that can be turned, by the program and by the reference; pairs copied. -/
import Derived.Test.YtnnhomkkggkkfaaDoorRkAh
import Derived.KernelRfl
set_option linter.unusedSimpArgs false
set_option linter.unusedVariables false
set_option linter.unnecessarySimpa false
set_option maxHeartbeats 4000000
set_option maxRecDepth 100000
namespace Go.Proofs.Rnk
open Go Go.VM
open Go.Proofs.Sur (andn andn_bit andn_le i_wrap i_and i_or i_andn i_shl i_shr bit_01)

/-- what is asked of a pair -/
structure PK (n : Nat) (l : List Pr) (k : Nat) : Prop where
  a : 0 ≤ (l.getD k pair0).1
  b : (l.getD k pair0).1 < (l.getD k pair0).2
  c : (l.getD k pair0).2 < (n : Int)
structure PD (n : Nat) (l : List Pr) (k : Nat) : Prop where
  p : PK n l k
  d : l.getD k pair0 ∉ l.take k
structure PS (n : Nat) (l : List Pr) : Prop where
  h : ∀ k, k < l.length → PD n l k
structure PB (n : Nat) (l : List Pr) : Prop where
  le : l.length ≤ 28
  h : PS n l
open Classical in
noncomputable def pB (n : Nat) (l : List Pr) : Bool := decide (PB n l)
theorem pB_t {n : Nat} {l : List Pr} (h : PB n l) : pB n l = true := by simp only [pB, decide_eq_true_eq]; exact h
theorem pB_f {n : Nat} {l : List Pr} (h : ¬ PB n l) : pB n l = false := by simp only [pB, decide_eq_false_iff_not]; exact h
theorem inB_t {l : List Pr} {p : Pr} (h : inB l p = true) : p ∈ l := by simpa [inB] using h
theorem inB_f {l : List Pr} {p : Pr} (h : inB l p = false) : p ∉ l := by simpa [inB] using h
abbrev o81 (n : Nat) (l : List Pr) : List Out :=
  [.mk (List (List AV)) .ret [4] (fun _ => ¬ PS n l) (fun _ => [.bool false]) (fun bs => ⟨bs, [], []⟩) (fun _ => []), .mk Unit (.exit 0) [] (fun _ => PS n l) (fun _ => []) (fun _ => .nil) (fun _ => [])]
theorem simp81 : allSimpleM none1 (loopAt Tryd.f81 0) = true := by kernel_rfl
theorem lp81 (n : Nat) (l : List Pr) (h1 : l.length ≤ 28) :
    LoopS (En6 [c101.to]) (loopAt Tryd.f81 0) 41 [0, 1, 10, 11, 12] [pz l .no, I n, pz l .no, I l.length, I 0] .nil (o81 n l) := by
  have hR : Rests (En6 [c101.to]) none1 := rests mixed (.pure _ .nil)
  refine loop_s hR simp81 (some 0) (by intro nb h; cases h; exact ⟨Nat.zero_le _, Nat.le_refl 0⟩) (fun k vs H => H = .nil ∧ vs = [pz l .no, I n, pz l .no, I l.length, I k] ∧ ∀ i, i < k → PD n l i) l.length ⟨rfl, rfl, fun i hi => absurd hi (by omega)⟩ (by rintro nb h j vs h' ⟨rfl, _⟩; cases h; exact Nat.le_refl 0) ?_
  rintro k vs H hk ⟨rfl, rfl, ha⟩
  by_cases hz : (k : Int) < l.length
  · have hz' : k < l.length := by omega
    have ev0 := wj1 (j := k) (by omega)
    have hcl : AV.bnds 0 0 0 [pz l .no, I n, pz l .no, I l.length, I (k + 1 : Nat)] = true := by simp [AV.bnds, AV.bnd, Room.bnd]
    have hcn : ∀ z, (H.mk [z] [] []).clean 0 := fun z cs hcs => by cases hcs
    have bad : ∀ (h : ¬ PD n l k), ¬ PS n l := fun h q => h (q.h k hz')
    have hk0 : (0 : Int) ≤ k := by omega
    have hkl : (k : Int) ≤ l.length := by omega
    have hlt : (l.take k).length = k := by simp; omega
    have p101 : (l.take k).length = k ∧ lim k ∧ rok (l.take k) .no := ⟨hlt, by simp only [lim]; omega, fun _ => no_ne⟩
    by_cases x0 : (l.getD k pair0).1 < 0
    · have hn := bad (fun h => by have := h.p.a; omega)
      refine ⟨[Ans.o (Orc.b true), Ans.o (Orc.val 15 (AV.cptr (pairsA (List.drop k l))) H.nil), Ans.o (Orc.val 16 (AV.agg [I (l.getD k pair0).fst, I (l.getD k pair0).snd]) H.nil), Ans.o (Orc.b true)], fun u => of_eq ((↑k : Int) < (↑l.length : Int) ∧ aIndexAddr Tryd.prog (45 : Nat) (AV.sl (pairsA l) l.length Room.no) (I (↑k : Int)) = some (AV.cptr (pairsA (List.drop k l))) ∧ aLoad Tryd.prog (54 : Nat) (pairsA (List.drop k l)) = some (AV.agg [I (l.getD k pair0).fst, I (l.getD k pair0).snd]) ∧ (l.getD k pair0).fst < (0 : Int) ∧ (41 : Nat) = (41 : Nat) ∧ hits [Out.mk (List (List AV)) AX.ret [(4 : Nat)] (fun x => ¬PS n l) (fun x => [AV.bool false]) (fun bs => H.mk bs [] []) fun x => [], Out.mk Unit (AX.exit (0 : Nat)) [] (fun x => PS n l) (fun x => []) (fun x => H.nil) fun x => []] AX.ret [AV.sl (pairsA l) l.length Room.no, I (↑n : Int), u (2 : Nat), u (3 : Nat), AV.bool false, I (↑k : Int), AV.ptr 0 0, u (7 : Nat), u (8 : Nat), u (9 : Nat), AV.sl (pairsA l) l.length Room.no, I (↑l.length : Int), I (↑k : Int), AV.bool true, I (↑k : Int), AV.cptr (pairsA (List.drop k l)), AV.agg [I (l.getD k pair0).fst, I (l.getD k pair0).snd], AV.ptr 0 0, I (l.getD k pair0).fst, AV.bool true, AV.bool true, AV.tup [], AV.tup [], AV.tup [], AV.tup [], AV.tup [], AV.bool true, AV.bool true, AV.tup [], AV.tup [], AV.tup [], AV.tup [], AV.bool true, AV.bool true, AV.tup [], AV.tup [], AV.tup [], AV.tup [], AV.tup [], AV.bool true, u (40 : Nat)] (H.mk [[I (l.getD k pair0).fst, I (l.getD k pair0).snd]] [] [])) (by kernel_rfl) ?_⟩
      refine ⟨by first | with_reducible assumption | omega | assumption, ?_⟩
      refine ⟨ix_pairs (by kernel_rfl) hz' no_ne, ?_⟩
      refine ⟨ld_pairs (by kernel_rfl) (by kernel_rfl) (by kernel_rfl) (by omega), ?_⟩
      refine ⟨by first | with_reducible assumption | omega | assumption, ?_⟩
      refine ⟨by first | with_reducible assumption | omega | assumption, ?_⟩
      exact .inl ⟨_, hn, rfl, rfl, rfl⟩
    have x0 : 0 ≤ (l.getD k pair0).1 := by omega
    by_cases x1 : (l.getD k pair0).2 ≤ (l.getD k pair0).1
    · have hn := bad (fun h => by have := h.p.b; omega)
      refine ⟨[Ans.o (Orc.b true), Ans.o (Orc.val 15 (AV.cptr (pairsA (List.drop k l))) H.nil), Ans.o (Orc.val 16 (AV.agg [I (l.getD k pair0).fst, I (l.getD k pair0).snd]) H.nil), Ans.o (Orc.b false), Ans.o (Orc.b true)], fun u => of_eq ((↑k : Int) < (↑l.length : Int) ∧ aIndexAddr Tryd.prog (45 : Nat) (AV.sl (pairsA l) l.length Room.no) (I (↑k : Int)) = some (AV.cptr (pairsA (List.drop k l))) ∧ aLoad Tryd.prog (54 : Nat) (pairsA (List.drop k l)) = some (AV.agg [I (l.getD k pair0).fst, I (l.getD k pair0).snd]) ∧ (0 : Int) ≤ (l.getD k pair0).fst ∧ (l.getD k pair0).snd ≤ (l.getD k pair0).fst ∧ (41 : Nat) = (41 : Nat) ∧ hits [Out.mk (List (List AV)) AX.ret [(4 : Nat)] (fun x => ¬PS n l) (fun x => [AV.bool false]) (fun bs => H.mk bs [] []) fun x => [], Out.mk Unit (AX.exit (0 : Nat)) [] (fun x => PS n l) (fun x => []) (fun x => H.nil) fun x => []] AX.ret [AV.sl (pairsA l) l.length Room.no, I (↑n : Int), u (2 : Nat), u (3 : Nat), AV.bool false, I (↑k : Int), AV.ptr 0 0, u (7 : Nat), u (8 : Nat), u (9 : Nat), AV.sl (pairsA l) l.length Room.no, I (↑l.length : Int), I (↑k : Int), AV.bool true, I (↑k : Int), AV.cptr (pairsA (List.drop k l)), AV.agg [I (l.getD k pair0).fst, I (l.getD k pair0).snd], AV.ptr 0 0, I (l.getD k pair0).fst, AV.bool false, AV.bool false, AV.ptr 0 0, I (l.getD k pair0).fst, AV.ptr 0 1, I (l.getD k pair0).snd, AV.bool true, AV.bool true, AV.bool true, AV.tup [], AV.tup [], AV.tup [], AV.tup [], AV.bool true, AV.bool true, AV.tup [], AV.tup [], AV.tup [], AV.tup [], AV.tup [], AV.bool true, u (40 : Nat)] (H.mk [[I (l.getD k pair0).fst, I (l.getD k pair0).snd]] [] [])) (by kernel_rfl) ?_⟩
      refine ⟨by first | with_reducible assumption | omega | assumption, ?_⟩
      refine ⟨ix_pairs (by kernel_rfl) hz' no_ne, ?_⟩
      refine ⟨ld_pairs (by kernel_rfl) (by kernel_rfl) (by kernel_rfl) (by omega), ?_⟩
      refine ⟨by first | with_reducible assumption | omega | assumption, ?_⟩
      refine ⟨by first | with_reducible assumption | omega | assumption, ?_⟩
      refine ⟨by first | with_reducible assumption | omega | assumption, ?_⟩
      exact .inl ⟨_, hn, rfl, rfl, rfl⟩
    have x1 : (l.getD k pair0).1 < (l.getD k pair0).2 := by omega
    by_cases x2 : (n : Int) ≤ (l.getD k pair0).2
    · have hn := bad (fun h => by have := h.p.c; omega)
      refine ⟨[Ans.o (Orc.b true), Ans.o (Orc.val 15 (AV.cptr (pairsA (List.drop k l))) H.nil), Ans.o (Orc.val 16 (AV.agg [I (l.getD k pair0).fst, I (l.getD k pair0).snd]) H.nil), Ans.o (Orc.b false), Ans.o (Orc.b false), Ans.o (Orc.b true)], fun u => of_eq ((↑k : Int) < (↑l.length : Int) ∧ aIndexAddr Tryd.prog (45 : Nat) (AV.sl (pairsA l) l.length Room.no) (I (↑k : Int)) = some (AV.cptr (pairsA (List.drop k l))) ∧ aLoad Tryd.prog (54 : Nat) (pairsA (List.drop k l)) = some (AV.agg [I (l.getD k pair0).fst, I (l.getD k pair0).snd]) ∧ (0 : Int) ≤ (l.getD k pair0).fst ∧ (l.getD k pair0).fst < (l.getD k pair0).snd ∧ (↑n : Int) ≤ (l.getD k pair0).snd ∧ (41 : Nat) = (41 : Nat) ∧ hits [Out.mk (List (List AV)) AX.ret [(4 : Nat)] (fun x => ¬PS n l) (fun x => [AV.bool false]) (fun bs => H.mk bs [] []) fun x => [], Out.mk Unit (AX.exit (0 : Nat)) [] (fun x => PS n l) (fun x => []) (fun x => H.nil) fun x => []] AX.ret [AV.sl (pairsA l) l.length Room.no, I (↑n : Int), u (2 : Nat), u (3 : Nat), AV.bool false, I (↑k : Int), AV.ptr 0 0, u (7 : Nat), u (8 : Nat), u (9 : Nat), AV.sl (pairsA l) l.length Room.no, I (↑l.length : Int), I (↑k : Int), AV.bool true, I (↑k : Int), AV.cptr (pairsA (List.drop k l)), AV.agg [I (l.getD k pair0).fst, I (l.getD k pair0).snd], AV.ptr 0 0, I (l.getD k pair0).fst, AV.bool false, AV.bool false, AV.ptr 0 0, I (l.getD k pair0).fst, AV.ptr 0 1, I (l.getD k pair0).snd, AV.bool false, AV.bool false, AV.bool false, AV.ptr 0 1, I (l.getD k pair0).snd, I (↑n : Int), AV.bool true, AV.bool true, AV.bool true, AV.tup [], AV.tup [], AV.tup [], AV.tup [], AV.tup [], AV.bool true, u (40 : Nat)] (H.mk [[I (l.getD k pair0).fst, I (l.getD k pair0).snd]] [] [])) (by kernel_rfl) ?_⟩
      refine ⟨by first | with_reducible assumption | omega | assumption, ?_⟩
      refine ⟨ix_pairs (by kernel_rfl) hz' no_ne, ?_⟩
      refine ⟨ld_pairs (by kernel_rfl) (by kernel_rfl) (by kernel_rfl) (by omega), ?_⟩
      refine ⟨by first | with_reducible assumption | omega | assumption, ?_⟩
      refine ⟨by first | with_reducible assumption | omega | assumption, ?_⟩
      refine ⟨by first | with_reducible assumption | omega | assumption, ?_⟩
      refine ⟨by first | with_reducible assumption | omega | assumption, ?_⟩
      exact .inl ⟨_, hn, rfl, rfl, rfl⟩
    have x2 : (l.getD k pair0).2 < (n : Int) := by omega
    cases hb : inB (l.take k) ((l.getD k pair0).1, (l.getD k pair0).2)
    · have hk2 := all_succ (q := PD n l) ha ⟨⟨x0, x1, x2⟩, inB_f hb⟩
      refine ⟨[Ans.o (Orc.b true), Ans.o (Orc.val 15 (AV.cptr (pairsA (List.drop k l))) H.nil), Ans.o (Orc.val 16 (AV.agg [I (l.getD k pair0).fst, I (l.getD k pair0).snd]) H.nil), Ans.o (Orc.b false), Ans.o (Orc.b false), Ans.o (Orc.b false), Ans.o (Orc.val 36 (AV.sl (pairsA (List.take k l)) k Room.no) H.nil), Ans.o (Orc.val 38 (AV.bool false) (H.mk [[I (l.getD k pair0).fst, I (l.getD k pair0).snd]] [] [])), Ans.o (Orc.val 40 (I (↑(k + (1 : Nat)) : Int)) H.nil)], fun u => of_eq ((↑k : Int) < (↑l.length : Int) ∧ aIndexAddr Tryd.prog (45 : Nat) (AV.sl (pairsA l) l.length Room.no) (I (↑k : Int)) = some (AV.cptr (pairsA (List.drop k l))) ∧ aLoad Tryd.prog (54 : Nat) (pairsA (List.drop k l)) = some (AV.agg [I (l.getD k pair0).fst, I (l.getD k pair0).snd]) ∧ (0 : Int) ≤ (l.getD k pair0).fst ∧ (l.getD k pair0).fst < (l.getD k pair0).snd ∧ (l.getD k pair0).snd < (↑n : Int) ∧ aSlice Tryd.prog (45 : Nat) (AV.sl (pairsA l) l.length Room.no) none (some (I (↑k : Int))) none (H.mk [[I (l.getD k pair0).fst, I (l.getD k pair0).snd]] [] []) = some (AV.sl (pairsA (List.take k l)) k Room.no) ∧ aCall (Sof [c101.to]) (AV.fn (Fn.func (101 : Nat)) [] []) [AV.sl (pairsA (List.take k l)) k Room.no, AV.agg [I (l.getD k pair0).fst, I (l.getD k pair0).snd]] (H.mk [[I (l.getD k pair0).fst, I (l.getD k pair0).snd]] [] []) = some (AV.bool false, H.mk [[I (l.getD k pair0).fst, I (l.getD k pair0).snd]] [] []) ∧ aBin Tryd.prog BinOp.add (3 : Nat) (I (↑k : Int)) (I 1) = some (I (↑(k + (1 : Nat)) : Int)) ∧ (41 : Nat) = (41 : Nat) ∧ k < l.length ∧ Keep (AV.bnds (0 : Nat) (0 : Nat) (0 : Nat) [AV.sl (pairsA l) l.length Room.no, I (↑n : Int), AV.sl (pairsA l) l.length Room.no, I (↑l.length : Int), I (↑(k + (1 : Nat)) : Int)] = true ∧ (H.mk [[I (l.getD k pair0).fst, I (l.getD k pair0).snd]] [] []).clean (0 : Nat) ∧ H.mk [] [] [] = H.mk [] [] [] ∧ [AV.sl (pairsA l) l.length Room.no, I (↑n : Int), AV.sl (pairsA l) l.length Room.no, I (↑l.length : Int), I (↑(k + (1 : Nat)) : Int)] = [AV.sl (pairsA l) l.length Room.no, I (↑n : Int), AV.sl (pairsA l) l.length Room.no, I (↑l.length : Int), I (↑(k + (1 : Nat)) : Int)] ∧ ∀ (i : Nat), i < k + (1 : Nat) → PD n l i)) (by kernel_rfl) ?_⟩
      refine ⟨by first | with_reducible assumption | omega | assumption, ?_⟩
      refine ⟨ix_pairs (by kernel_rfl) hz' no_ne, ?_⟩
      refine ⟨ld_pairs (by kernel_rfl) (by kernel_rfl) (by kernel_rfl) (by omega), ?_⟩
      refine ⟨by first | with_reducible assumption | omega | assumption, ?_⟩
      refine ⟨by first | with_reducible assumption | omega | assumption, ?_⟩
      refine ⟨by first | with_reducible assumption | omega | assumption, ?_⟩
      refine ⟨sl_pairs (by kernel_rfl) hk0 hkl, ?_⟩
      refine ⟨acall_b (acall_hit (c := c101.to) ((l.take k, .no, k), (l.getD k pair0).1, (l.getD k pair0).2) _ rfl p101) hb, ?_⟩
      refine ⟨told_add (by with_reducible assumption), ?_⟩
      refine ⟨by first | with_reducible assumption | omega | assumption, ?_⟩
      refine ⟨by first | with_reducible assumption | omega | assumption, ?_⟩
      exact ⟨hcl, hcn _, rfl, rfl, hk2⟩
    · have hn := bad (fun h => h.d (inB_t hb))
      refine ⟨[Ans.o (Orc.b true), Ans.o (Orc.val 15 (AV.cptr (pairsA (List.drop k l))) H.nil), Ans.o (Orc.val 16 (AV.agg [I (l.getD k pair0).fst, I (l.getD k pair0).snd]) H.nil), Ans.o (Orc.b false), Ans.o (Orc.b false), Ans.o (Orc.b false), Ans.o (Orc.val 36 (AV.sl (pairsA (List.take k l)) k Room.no) H.nil), Ans.o (Orc.val 38 (AV.bool true) (H.mk [[I (l.getD k pair0).fst, I (l.getD k pair0).snd]] [] []))], fun u => of_eq ((↑k : Int) < (↑l.length : Int) ∧ aIndexAddr Tryd.prog (45 : Nat) (AV.sl (pairsA l) l.length Room.no) (I (↑k : Int)) = some (AV.cptr (pairsA (List.drop k l))) ∧ aLoad Tryd.prog (54 : Nat) (pairsA (List.drop k l)) = some (AV.agg [I (l.getD k pair0).fst, I (l.getD k pair0).snd]) ∧ (0 : Int) ≤ (l.getD k pair0).fst ∧ (l.getD k pair0).fst < (l.getD k pair0).snd ∧ (l.getD k pair0).snd < (↑n : Int) ∧ aSlice Tryd.prog (45 : Nat) (AV.sl (pairsA l) l.length Room.no) none (some (I (↑k : Int))) none (H.mk [[I (l.getD k pair0).fst, I (l.getD k pair0).snd]] [] []) = some (AV.sl (pairsA (List.take k l)) k Room.no) ∧ aCall (Sof [c101.to]) (AV.fn (Fn.func (101 : Nat)) [] []) [AV.sl (pairsA (List.take k l)) k Room.no, AV.agg [I (l.getD k pair0).fst, I (l.getD k pair0).snd]] (H.mk [[I (l.getD k pair0).fst, I (l.getD k pair0).snd]] [] []) = some (AV.bool true, H.mk [[I (l.getD k pair0).fst, I (l.getD k pair0).snd]] [] []) ∧ (41 : Nat) = (41 : Nat) ∧ hits [Out.mk (List (List AV)) AX.ret [(4 : Nat)] (fun x => ¬PS n l) (fun x => [AV.bool false]) (fun bs => H.mk bs [] []) fun x => [], Out.mk Unit (AX.exit (0 : Nat)) [] (fun x => PS n l) (fun x => []) (fun x => H.nil) fun x => []] AX.ret [AV.sl (pairsA l) l.length Room.no, I (↑n : Int), u (2 : Nat), u (3 : Nat), AV.bool false, I (↑k : Int), AV.ptr 0 0, u (7 : Nat), u (8 : Nat), u (9 : Nat), AV.sl (pairsA l) l.length Room.no, I (↑l.length : Int), I (↑k : Int), AV.bool true, I (↑k : Int), AV.cptr (pairsA (List.drop k l)), AV.agg [I (l.getD k pair0).fst, I (l.getD k pair0).snd], AV.ptr 0 0, I (l.getD k pair0).fst, AV.bool false, AV.bool false, AV.ptr 0 0, I (l.getD k pair0).fst, AV.ptr 0 1, I (l.getD k pair0).snd, AV.bool false, AV.bool false, AV.bool false, AV.ptr 0 1, I (l.getD k pair0).snd, I (↑n : Int), AV.bool false, AV.bool false, AV.bool false, AV.sl (pairsA l) l.length Room.no, I (↑k : Int), AV.sl (pairsA (List.take k l)) k Room.no, AV.agg [I (l.getD k pair0).fst, I (l.getD k pair0).snd], AV.bool true, AV.bool true, u (40 : Nat)] (H.mk [[I (l.getD k pair0).fst, I (l.getD k pair0).snd]] [] [])) (by kernel_rfl) ?_⟩
      refine ⟨by first | with_reducible assumption | omega | assumption, ?_⟩
      refine ⟨ix_pairs (by kernel_rfl) hz' no_ne, ?_⟩
      refine ⟨ld_pairs (by kernel_rfl) (by kernel_rfl) (by kernel_rfl) (by omega), ?_⟩
      refine ⟨by first | with_reducible assumption | omega | assumption, ?_⟩
      refine ⟨by first | with_reducible assumption | omega | assumption, ?_⟩
      refine ⟨by first | with_reducible assumption | omega | assumption, ?_⟩
      refine ⟨sl_pairs (by kernel_rfl) hk0 hkl, ?_⟩
      refine ⟨acall_b (acall_hit (c := c101.to) ((l.take k, .no, k), (l.getD k pair0).1, (l.getD k pair0).2) _ rfl p101) hb, ?_⟩
      refine ⟨by first | with_reducible assumption | omega | assumption, ?_⟩
      exact .inl ⟨_, hn, rfl, rfl, rfl⟩
  · have hz : (l.length : Int) ≤ k := by omega
    have hk' : k = l.length := by omega
    subst hk'
    refine ⟨[Ans.o (Orc.b false)], fun u => of_eq ((↑l.length : Int) ≤ (↑l.length : Int) ∧ (41 : Nat) = (41 : Nat) ∧ hits [Out.mk (List (List AV)) AX.ret [(4 : Nat)] (fun x => ¬PS n l) (fun x => [AV.bool false]) (fun bs => H.mk bs [] []) fun x => [], Out.mk Unit (AX.exit (0 : Nat)) [] (fun x => PS n l) (fun x => []) (fun x => H.nil) fun x => []] (AX.exit (0 : Nat)) [AV.sl (pairsA l) l.length Room.no, I (↑n : Int), u (2 : Nat), u (3 : Nat), u (4 : Nat), u (5 : Nat), u (6 : Nat), u (7 : Nat), u (8 : Nat), u (9 : Nat), AV.sl (pairsA l) l.length Room.no, I (↑l.length : Int), I (↑l.length : Int), AV.bool false, u (14 : Nat), u (15 : Nat), u (16 : Nat), u (17 : Nat), u (18 : Nat), u (19 : Nat), u (20 : Nat), u (21 : Nat), u (22 : Nat), u (23 : Nat), u (24 : Nat), u (25 : Nat), u (26 : Nat), u (27 : Nat), u (28 : Nat), u (29 : Nat), u (30 : Nat), u (31 : Nat), u (32 : Nat), u (33 : Nat), u (34 : Nat), u (35 : Nat), u (36 : Nat), u (37 : Nat), u (38 : Nat), u (39 : Nat), u (40 : Nat)] (H.mk [] [] [])) (by kernel_rfl) ?_⟩
    refine ⟨by first | with_reducible assumption | omega | assumption, ?_⟩
    refine ⟨by first | with_reducible assumption | omega | assumption, ?_⟩
    exact .inr (.inl ⟨(), ⟨ha⟩, rfl, rfl, rfl⟩)
theorem ok81 : FokM Tryd.prog none1 81 Tryd.f81 := ⟨mixed, by kernel_rfl, by kernel_rfl, by kernel_rfl, by kernel_rfl⟩
theorem r81 (n : Nat) (l : List Pr) (hb : lim l.length) : Body (En6 [c101.to]) none1 Tryd.f81 [pz l .no, I n] .nil (.bool (pB n l), .nil) := by
  by_cases h1 : (28 : Int) < l.length
  · have e : pB n l = false := pB_f fun q => by have := q.le; omega
    rw [e]
    refine body_s ([Ans.o (Orc.b true)]) ((28 : Int) < (↑l.length : Int) ∧ (AV.bool false, H.mk [] [] []) = (AV.bool false, H.mk [] [] [])) (by kernel_rfl) ?_
    refine ⟨by first | with_reducible assumption | omega | assumption, ?_⟩
    first | with_reducible rfl | (refine bleaf_t ?_; omega) | (refine bleaf_f ?_; omega) | (refine ileaf ?_; omega) | rfl | (exfalso; omega)
  · have h1 : (l.length : Int) ≤ 28 := by omega
    have hl := lp81 n l (by omega)
    refine body_s ([Ans.o (Orc.b false), Ans.loop [(0 : Nat), (1 : Nat), (10 : Nat), (11 : Nat), (12 : Nat)] [Out.mk (List (List AV)) AX.ret [(4 : Nat)] (fun x => ¬PS n l) (fun x => [AV.bool false]) (fun bs => H.mk bs [] []) fun y => [], Out.mk Unit (AX.exit (0 : Nat)) [] (fun x => PS n l) (fun x => []) (fun x => H.nil) fun y => []]]) ((↑l.length : Int) ≤ (28 : Int) ∧ LoopS (Env.mk Tryd.prog (Sof [c101.to]) (Pof (P := Tryd.prog) []) H.nil.base (300 : Nat)) (loopAt Tryd.f81 (0 : Nat)) (41 : Nat) [(0 : Nat), (1 : Nat), (10 : Nat), (11 : Nat), (12 : Nat)] [AV.sl (pairsA l) l.length Room.no, I (↑n : Int), AV.sl (pairsA l) l.length Room.no, I (↑l.length : Int), I 0] (H.mk [] [] []) [Out.mk (List (List AV)) AX.ret [(4 : Nat)] (fun x => ¬PS n l) (fun x => [AV.bool false]) (fun bs => H.mk bs [] []) fun y => [], Out.mk Unit (AX.exit (0 : Nat)) [] (fun x => PS n l) (fun x => []) (fun x => H.nil) fun y => []] ∧ (∀ (y : List (List AV)), ¬PS n l → ∀ (u : Nat → AV), (AV.bool false, H.mk [] [] []) = (AV.bool (pB n l), H.mk [] [] [])) ∧ (∀ (y : Unit), PS n l → ∀ (u : Nat → AV), (AV.bool true, H.mk [] [] []) = (AV.bool (pB n l), H.mk [] [] [])) ∧ True) (by kernel_rfl) ?_
    refine ⟨by first | with_reducible assumption | omega | assumption, ?_⟩
    refine ⟨hl, ?_⟩
    refine And.intro ?_ ?_
    · skip
      intro y
      intro w1
      intro u
      first | rw [pB_t ⟨by omega, by assumption⟩] | rw [pB_f (fun q => w1 q.h)]
    · skip
      refine And.intro ?_ ?_
      · skip
        intro y
        intro w1
        intro u
        first | rw [pB_t ⟨by omega, by assumption⟩] | rw [pB_f (fun q => w1 q.h)]
      · skip
        trivial
theorem r81n (n : Nat) : Body (En6 [c101.to]) none1 Tryd.f81 [pz [] .nil, I n] .nil (.bool true, .nil) := by
  refine body_s ([Ans.o Orc.dflt, Ans.o Orc.dflt]) ((AV.bool true, H.mk [] [] []) = (AV.bool true, H.mk [] [] [])) (by kernel_rfl) ?_
  first | with_reducible rfl | (refine bleaf_t ?_; omega) | (refine bleaf_f ?_; omega) | (refine ileaf ?_; omega) | rfl | (exfalso; omega)
theorem r81e (n : Nat) : Body (En6 [c101.to]) none1 Tryd.f81 [pz [] .e, I n] .nil (.bool true, .nil) := by
  refine body_s ([Ans.o Orc.dflt, Ans.o Orc.dflt]) ((AV.bool true, H.mk [] [] []) = (AV.bool true, H.mk [] [] [])) (by kernel_rfl) ?_
  first | with_reducible rfl | (refine bleaf_t ?_; omega) | (refine bleaf_f ?_; omega) | (refine ileaf ?_; omega) | rfl | (exfalso; omega)
theorem pB_nil (n : Nat) : pB n [] = true := pB_t ⟨by simp, ⟨fun k hk => absurd hk (by simp)⟩⟩
abbrev emp (l : List Pr) (r : Room) : Prop := r = .e → l = []
/-- 'arePairs' -/
noncomputable def c81 : PCtr Tryd.prog where
  f := 81
  X := (List Pr × Room) × Nat
  args x := [pz x.1.1 x.1.2, I x.2]
  pre x := lim x.1.1.length ∧ rok x.1.1 x.1.2 ∧ emp x.1.1 x.1.2
  v x := .bool (pB x.2 x.1.1)
  det := by
    rintro ⟨⟨l, r⟩, n⟩ ⟨⟨l', r'⟩, n'⟩ e _ _
    simp only [List.cons.injEq, AV.int.injEq, AV.sl.injEq, true_and, and_true, Int.natCast_inj] at e
    obtain ⟨⟨e, _, _⟩, rfl⟩ := e
    rw [pairsA_inj e]
  ok := by
    rintro ⟨⟨l, r⟩, n⟩ ⟨hb, hr, he⟩
    refine ⟨ok81.call, fun H => ?_⟩
    have hno : CallOk Tryd.prog 81 [pz l .no, I n] H (.bool (pB n l)) H := pure_call ((r81 n l hb).run ok81 (.pure _ .nil) rfl) (by simp [AV.bnds, AV.bnd, Room.bnd]) rfl H
    cases r with
    | nil =>
      have : l = [] := Classical.byContradiction fun h => hr h rfl
      subst this
      have := pure_call ((r81n n).run ok81 (.pure _ .nil) rfl) (by simp [AV.bnds, AV.bnd, Room.bnd]) rfl H
      rw [pB_nil]; exact this
    | e =>
      have := he rfl
      subst this
      have := pure_call ((r81e n).run ok81 (.pure _ .nil) rfl) (by simp [AV.bnds, AV.bnd, Room.bnd]) rfl H
      rw [pB_nil]; exact this
    | no => exact hno
    | full => exact CallOk.wk (args := [pz l .full, I n]) hno
    | tok t z => exact CallOk.wk (args := [pz l (.tok t z), I n]) hno
/-! ### by the reference -/
end Go.Proofs.Rnk

