/- Layer 7: the reference's Height. -/
import Derived.Test.YtmgbglnljnlapaaOrAk
import Derived.KernelRfl
set_option linter.unusedSimpArgs false
set_option linter.unusedVariables false
set_option linter.unnecessarySimpa false
set_option maxHeartbeats 4000000
set_option maxRecDepth 100000
namespace Go.Proofs.Ord
open Go Go.VM
open Go.Proofs.Sur (andn andn_bit andn_le i_wrap i_and i_or i_andn i_shl i_shr bit_01)

abbrev h37 : H := ⟨[[I 0, I 0]], [], []⟩
abbrev o37b (i S : Nat) (va : AV) (n k : Nat) (b : List Nat) : List Out := [.mk Unit (.exit 2) [1, 4, 5, 6, 13, 14, 15] (fun _ => True) (fun _ => [I i, .ptr 0 0, I (S + idx i 0 (b.take (ic b).length) : Nat), va, va, I n, I k]) (fun _ => h37) (fun _ => [])]
theorem simp37b : allSimpleM none1 (loopAt Try.f37 1) = true := by kernel_rfl
theorem lp37b (i S : Nat) (va : AV) (n k : Nat) (b : List Nat) (hb : b.length ≤ 6) (hS : S ≤ 5000000) :
    LoopS (En6 [c32.to, c80.to]) (loopAt Try.f37 1) 38 [1, 4, 5, 6, 13, 14, 15, 19, 20, 21] [I i, .ptr 0 0, I S, va, va, I n, I k, bg b .no, I (ic b).length, I 0] h37 (o37b i S va n k b) := by
  have hR : Rests (En6 [c32.to, c80.to]) none1 := rests mixed (.pure _ (.pure _ .nil))
  have hlen : (ic b).length = b.length := List.length_map _
  refine loop_s hR simp37b none (by intro _ h; cases h) (fun q vs H => H = h37 ∧ vs = [I i, .ptr 0 0, I (S + idx i 0 (b.take q) : Nat), va, va, I n, I k, bg b .no, I (ic b).length, I q]) (ic b).length ⟨rfl, rfl⟩ (by intro _ h; cases h) ?_
  rintro q vs H hq ⟨rfl, rfl⟩
  by_cases hz : (q : Int) < (ic b).length
  · have hz' : q < b.length := by omega
    have ev0 := wj1 (j := q) (by omega)
    have ht := idx_take i b hz'
    have hle := idx_le i (b.take q) 0
    have hle2 : (b.take q).length * (0 + (b.take q).length) ≤ 6 * 6 := by
      have : (b.take q).length ≤ 6 := by rw [List.length_take]; omega
      rw [Nat.zero_add]; exact Nat.mul_le_mul this this
    have hg : (ic b).getD q i0 = ((b.getD q 0 : Nat) : Int) := by
      simp [List.getD, List.getElem?_eq_getElem hz']
    by_cases hi : b.getD q 0 = i
    · have c1 : (ic b).getD q i0 = (i : Int) := by rw [hg, hi]
      rw [if_pos hi] at ht
      have ev1 : IntKind.i64.wrap (((S + idx i 0 (b.take q) : Nat) : Int) + (q : Int)) = ((S + idx i 0 (b.take (q + 1)) : Nat) : Int) := by rw [wr _ (by omega) (by omega), ht]; omega
      refine ⟨[Ans.o (Orc.b true), Ans.o (Orc.val 24 (AV.cptr (ints (List.drop q (ic b)))) H.nil), Ans.o (Orc.val 25 (I ((ic b).getD q i0)) H.nil), Ans.o (Orc.b true), Ans.o (Orc.val 31 (I (↑(S + idx i (0 : Nat) (List.take (q + (1 : Nat)) b)) : Int)) H.nil), Ans.o (Orc.val 32 (I (↑(q + (1 : Nat)) : Int)) H.nil)], fun u => of_eq ((↑q : Int) < (↑(ic b).length : Int) ∧ aIndexAddr Try.prog (23 : Nat) (AV.sl (ints (ic b)) (ic b).length Room.no) (I (↑q : Int)) = some (AV.cptr (ints (List.drop q (ic b)))) ∧ aLoad Try.prog (3 : Nat) (ints (List.drop q (ic b))) = some (I ((ic b).getD q i0)) ∧ (ic b).getD q i0 = (↑i : Int) ∧ aBin Try.prog BinOp.add (3 : Nat) (I (↑(S + idx i (0 : Nat) (List.take q b)) : Int)) (I (↑q : Int)) = some (I (↑(S + idx i (0 : Nat) (List.take (q + (1 : Nat)) b)) : Int)) ∧ aBin Try.prog BinOp.add (3 : Nat) (I (↑q : Int)) (I 1) = some (I (↑(q + (1 : Nat)) : Int)) ∧ (38 : Nat) = (38 : Nat) ∧ q < (ic b).length ∧ Keep (H.mk [[I 0, I 0]] [] [] = H.mk [[I 0, I 0]] [] [] ∧ [I (↑i : Int), AV.ptr 0 0, I (↑(S + idx i (0 : Nat) (List.take (q + (1 : Nat)) b)) : Int), va, va, I (↑n : Int), I (↑k : Int), AV.sl (ints (ic b)) (ic b).length Room.no, I (↑(ic b).length : Int), I (↑(q + (1 : Nat)) : Int)] = [I (↑i : Int), AV.ptr 0 0, I (↑(S + idx i (0 : Nat) (List.take (q + (1 : Nat)) b)) : Int), va, va, I (↑n : Int), I (↑k : Int), AV.sl (ints (ic b)) (ic b).length Room.no, I (↑(ic b).length : Int), I (↑(q + (1 : Nat)) : Int)])) (by kernel_rfl) ?_⟩
      refine ⟨by first | with_reducible assumption | omega | assumption, ?_⟩
      refine ⟨ix_ints (by kernel_rfl) (by omega) (by decide), ?_⟩
      refine ⟨ld_ints (by kernel_rfl) (by kernel_rfl) (by omega), ?_⟩
      refine ⟨by first | with_reducible assumption | omega | assumption, ?_⟩
      refine ⟨told_add (by with_reducible assumption), ?_⟩
      refine ⟨told_add (by with_reducible assumption), ?_⟩
      refine ⟨by first | with_reducible assumption | omega | assumption, ?_⟩
      refine ⟨by first | with_reducible assumption | omega | assumption, ?_⟩
      exact ⟨rfl, rfl⟩
    · have c1 : (ic b).getD q i0 ≠ (i : Int) := by rw [hg]; omega
      rw [if_neg hi] at ht
      have ht : idx i 0 (b.take (q + 1)) = idx i 0 (b.take q) := ht
      refine ⟨[Ans.o (Orc.b true), Ans.o (Orc.val 24 (AV.cptr (ints (List.drop q (ic b)))) H.nil), Ans.o (Orc.val 25 (I ((ic b).getD q i0)) H.nil), Ans.o (Orc.b false), Ans.o (Orc.val 32 (I (↑(q + (1 : Nat)) : Int)) H.nil)], fun u => of_eq ((↑q : Int) < (↑(ic b).length : Int) ∧ aIndexAddr Try.prog (23 : Nat) (AV.sl (ints (ic b)) (ic b).length Room.no) (I (↑q : Int)) = some (AV.cptr (ints (List.drop q (ic b)))) ∧ aLoad Try.prog (3 : Nat) (ints (List.drop q (ic b))) = some (I ((ic b).getD q i0)) ∧ (ic b).getD q i0 ≠ (↑i : Int) ∧ aBin Try.prog BinOp.add (3 : Nat) (I (↑q : Int)) (I 1) = some (I (↑(q + (1 : Nat)) : Int)) ∧ (38 : Nat) = (38 : Nat) ∧ q < (ic b).length ∧ Keep (H.mk [[I 0, I 0]] [] [] = H.mk [[I 0, I 0]] [] [] ∧ [I (↑i : Int), AV.ptr 0 0, I (↑(S + idx i (0 : Nat) (List.take q b)) : Int), va, va, I (↑n : Int), I (↑k : Int), AV.sl (ints (ic b)) (ic b).length Room.no, I (↑(ic b).length : Int), I (↑(q + (1 : Nat)) : Int)] = [I (↑i : Int), AV.ptr 0 0, I (↑(S + idx i (0 : Nat) (List.take (q + (1 : Nat)) b)) : Int), va, va, I (↑n : Int), I (↑k : Int), AV.sl (ints (ic b)) (ic b).length Room.no, I (↑(ic b).length : Int), I (↑(q + (1 : Nat)) : Int)])) (by kernel_rfl) ?_⟩
      refine ⟨by first | with_reducible assumption | omega | assumption, ?_⟩
      refine ⟨ix_ints (by kernel_rfl) (by omega) (by decide), ?_⟩
      refine ⟨ld_ints (by kernel_rfl) (by kernel_rfl) (by omega), ?_⟩
      refine ⟨by first | with_reducible assumption | omega | assumption, ?_⟩
      refine ⟨told_add (by with_reducible assumption), ?_⟩
      refine ⟨by first | with_reducible assumption | omega | assumption, ?_⟩
      refine ⟨by first | with_reducible assumption | omega | assumption, ?_⟩
      exact ⟨rfl, by rw [ht]⟩
  · have hz : ((ic b).length : Int) ≤ q := by omega
    have hq' : q = (ic b).length := by omega
    subst hq'
    refine ⟨[Ans.o (Orc.b false)], fun u => of_eq ((↑(ic b).length : Int) ≤ (↑(ic b).length : Int) ∧ (38 : Nat) = (38 : Nat) ∧ hits [Out.mk Unit (AX.exit (2 : Nat)) [(1 : Nat), (4 : Nat), (5 : Nat), (6 : Nat), (13 : Nat), (14 : Nat), (15 : Nat)] (fun x => True) (fun x => [I (↑i : Int), AV.ptr 0 0, I (↑(S + idx i (0 : Nat) (List.take (ic b).length b)) : Int), va, va, I (↑n : Int), I (↑k : Int)]) (fun x => h37) fun x => []] (AX.exit (2 : Nat)) [u (0 : Nat), I (↑i : Int), u (2 : Nat), u (3 : Nat), AV.ptr 0 0, I (↑(S + idx i (0 : Nat) (List.take (ic b).length b)) : Int), va, u (7 : Nat), u (8 : Nat), u (9 : Nat), u (10 : Nat), u (11 : Nat), u (12 : Nat), va, I (↑n : Int), I (↑k : Int), u (16 : Nat), u (17 : Nat), u (18 : Nat), AV.sl (ints (ic b)) (ic b).length Room.no, I (↑(ic b).length : Int), I (↑(ic b).length : Int), AV.bool false, u (23 : Nat), u (24 : Nat), u (25 : Nat), u (26 : Nat), u (27 : Nat), u (28 : Nat), u (29 : Nat), u (30 : Nat), u (31 : Nat), u (32 : Nat), u (33 : Nat), u (34 : Nat), u (35 : Nat), u (36 : Nat), u (37 : Nat)] (H.mk [[I 0, I 0]] [] [])) (by kernel_rfl) ?_⟩
    refine ⟨by first | with_reducible assumption | omega | assumption, ?_⟩
    refine ⟨by first | with_reducible assumption | omega | assumption, ?_⟩
    exact .inl ⟨(), trivial, rfl, rfl, rfl⟩
abbrev o37 (i : Nat) (L : List (List Nat)) : List Out := [.mk Unit (.exit 0) [4, 5, 6] (fun _ => True) (fun _ => [.ptr 0 0, I (tot i (L.take (lr L).length) : Nat), rwl L .no]) (fun _ => h37) (fun _ => [])]
theorem simp37 : allSimpleM none1 (loopAt Try.f37 0) = true := by kernel_rfl
theorem lp37 (i : Nat) (L : List (List Nat)) (hL : L.length ≤ 50000) (hb : ∀ b ∈ L, b.length ≤ 6 ∧ b ≠ []) :
    LoopS (En6 [c32.to, c80.to]) (loopAt Try.f37 0) 38 [1, 4, 5, 6, 13, 14, 15] [I i, .ptr 0 0, I 0, rwl L .no, rwl L .no, I (lr L).length, I 0] h37 (o37 i L) := by
  have hR : Rests (En6 [c32.to, c80.to]) none1 := rests mixed (.pure _ (.pure _ .nil))
  have hlen : (lr L).length = L.length := List.length_map _
  refine loop_s hR simp37 none (by intro _ h; cases h) (fun k vs H => H = h37 ∧ vs = [I i, .ptr 0 0, I (tot i (L.take k) : Nat), rwl L .no, rwl L .no, I (lr L).length, I k]) (lr L).length ⟨rfl, rfl⟩ (by intro _ h; cases h) ?_
  rintro k vs H hk ⟨rfl, rfl⟩
  by_cases hz : (k : Int) < (lr L).length
  · have hz' : k < L.length := by omega
    have ev0 : IntKind.i64.wrap ((k : Int) + 1) = ((k + 1 : Nat) : Int) := by rw [wr _ (by omega) (by omega)]; omega
    have ht := tot_take i L hz'
    have hmem : L.getD k [] ∈ L := by simp [List.getD, hz']
    have hbk := hb _ hmem
    have hload : aLoad Try.prog 23 (rowsA ((lr L).drop k)) = some (bg (L.getD k []) .no) := by
      rw [ld_rows (by kernel_rfl) (by kernel_rfl) (by omega)]
      have e : (lr L).getD k row0 = (ic (L.getD k []), kr (L.getD k [])) := by simp [List.getD, hz']
      rw [e]
      cases hq : L.getD k [] with
      | nil => exact absurd hq hbk.2
      | cons x b => rfl
    generalize L.getD k [] = b at ht hbk hload
    have hsum : tot i (L.take k) ≤ 5000000 := by
      have := tot_le i (L.take k) fun c hc => (hb c (List.mem_of_mem_take hc)).1
      rw [List.length_take] at this; omega
    have hl := lp37b i (tot i (L.take k)) (rwl L .no) (lr L).length k b hbk.1 hsum
    have hfull : b.take (ic b).length = b := by rw [List.length_map]; exact List.take_length
    refine ⟨[Ans.o (Orc.b true), Ans.o (Orc.val 17 (AV.cptr (rowsA (List.drop k (lr L)))) H.nil), Ans.o (Orc.val 18 (bg b Room.no) H.nil), Ans.loop [(1 : Nat), (4 : Nat), (5 : Nat), (6 : Nat), (13 : Nat), (14 : Nat), (15 : Nat), (19 : Nat), (20 : Nat), (21 : Nat)] [Out.mk Unit (AX.exit (2 : Nat)) [(1 : Nat), (4 : Nat), (5 : Nat), (6 : Nat), (13 : Nat), (14 : Nat), (15 : Nat)] (fun x => True) (fun x => [I (↑i : Int), AV.ptr 0 0, I (↑(tot i (List.take k L) + idx i (0 : Nat) (List.take (ic b).length b)) : Int), rwl L Room.no, rwl L Room.no, I (↑(lr L).length : Int), I (↑k : Int)]) (fun x => h37) fun y => [Ans.o (Orc.val 33 (I (↑(k + (1 : Nat)) : Int)) H.nil)]]], fun u => of_eq ((↑k : Int) < (↑(lr L).length : Int) ∧ aIndexAddr Try.prog (38 : Nat) (AV.sl (rowsA (lr L)) (lr L).length Room.no) (I (↑k : Int)) = some (AV.cptr (rowsA (List.drop k (lr L)))) ∧ aLoad Try.prog (23 : Nat) (rowsA (List.drop k (lr L))) = some (AV.sl (ints (ic b)) (ic b).length Room.no) ∧ LoopS (Env.mk Try.prog (Sof [c32.to, c80.to]) (Pof (P := Try.prog) []) H.nil.base (300 : Nat)) (loopAt Try.f37 (1 : Nat)) (38 : Nat) [(1 : Nat), (4 : Nat), (5 : Nat), (6 : Nat), (13 : Nat), (14 : Nat), (15 : Nat), (19 : Nat), (20 : Nat), (21 : Nat)] [I (↑i : Int), AV.ptr 0 0, I (↑(tot i (List.take k L)) : Int), AV.sl (rowsA (lr L)) (lr L).length Room.no, AV.sl (rowsA (lr L)) (lr L).length Room.no, I (↑(lr L).length : Int), I (↑k : Int), AV.sl (ints (ic b)) (ic b).length Room.no, I (↑(ic b).length : Int), I 0] (H.mk [[I 0, I 0]] [] []) [Out.mk Unit (AX.exit (2 : Nat)) [(1 : Nat), (4 : Nat), (5 : Nat), (6 : Nat), (13 : Nat), (14 : Nat), (15 : Nat)] (fun x => True) (fun x => [I (↑i : Int), AV.ptr 0 0, I (↑(tot i (List.take k L) + idx i (0 : Nat) (List.take (ic b).length b)) : Int), rwl L Room.no, rwl L Room.no, I (↑(lr L).length : Int), I (↑k : Int)]) (fun x => h37) fun y => [Ans.o (Orc.val 33 (I (↑(k + (1 : Nat)) : Int)) H.nil)]] ∧ (∀ (y : Unit), True → ∀ (u : Nat → AV), aBin Try.prog BinOp.add (3 : Nat) (I (↑k : Int)) (I 1) = some (I (↑(k + (1 : Nat)) : Int)) ∧ (38 : Nat) = (38 : Nat) ∧ k < (lr L).length ∧ Keep (H.mk [[I 0, I 0]] [] [] = H.mk [[I 0, I 0]] [] [] ∧ [I (↑i : Int), AV.ptr 0 0, I (↑(tot i (List.take k L) + idx i (0 : Nat) (List.take (ic b).length b)) : Int), AV.sl (rowsA (lr L)) (lr L).length Room.no, AV.sl (rowsA (lr L)) (lr L).length Room.no, I (↑(lr L).length : Int), I (↑(k + (1 : Nat)) : Int)] = [I (↑i : Int), AV.ptr 0 0, I (↑(tot i (List.take (k + (1 : Nat)) L)) : Int), AV.sl (rowsA (lr L)) (lr L).length Room.no, AV.sl (rowsA (lr L)) (lr L).length Room.no, I (↑(lr L).length : Int), I (↑(k + (1 : Nat)) : Int)])) ∧ True) (by kernel_rfl) ?_⟩
    refine ⟨by first | with_reducible assumption | omega | assumption, ?_⟩
    refine ⟨ix_rows (by kernel_rfl) (by omega) (by decide), ?_⟩
    refine ⟨hload, ?_⟩
    refine ⟨hl, ?_⟩
    refine And.intro ?_ ?_
    · skip
      intro y
      intro w1
      intro u
      refine ⟨told_add (by with_reducible assumption), ?_⟩
      refine ⟨by first | with_reducible assumption | omega | assumption, ?_⟩
      refine ⟨by first | with_reducible assumption | omega | assumption, ?_⟩
      exact ⟨rfl, by rw [hfull, ht]⟩
    · skip
      trivial
  · have hz : ((lr L).length : Int) ≤ k := by omega
    have hk' : k = (lr L).length := by omega
    subst hk'
    refine ⟨[Ans.o (Orc.b false)], fun u => of_eq ((↑(lr L).length : Int) ≤ (↑(lr L).length : Int) ∧ (38 : Nat) = (38 : Nat) ∧ hits [Out.mk Unit (AX.exit (0 : Nat)) [(4 : Nat), (5 : Nat), (6 : Nat)] (fun x => True) (fun x => [AV.ptr 0 0, I (↑(tot i (List.take (lr L).length L)) : Int), rwl L Room.no]) (fun x => h37) fun x => []] (AX.exit (0 : Nat)) [u (0 : Nat), I (↑i : Int), u (2 : Nat), u (3 : Nat), AV.ptr 0 0, I (↑(tot i (List.take (lr L).length L)) : Int), AV.sl (rowsA (lr L)) (lr L).length Room.no, u (7 : Nat), u (8 : Nat), u (9 : Nat), u (10 : Nat), u (11 : Nat), u (12 : Nat), AV.sl (rowsA (lr L)) (lr L).length Room.no, I (↑(lr L).length : Int), I (↑(lr L).length : Int), AV.bool false, u (17 : Nat), u (18 : Nat), u (19 : Nat), u (20 : Nat), u (21 : Nat), u (22 : Nat), u (23 : Nat), u (24 : Nat), u (25 : Nat), u (26 : Nat), u (27 : Nat), u (28 : Nat), u (29 : Nat), u (30 : Nat), u (31 : Nat), u (32 : Nat), u (33 : Nat), u (34 : Nat), u (35 : Nat), u (36 : Nat), u (37 : Nat)] (H.mk [[I 0, I 0]] [] [])) (by kernel_rfl) ?_⟩
    refine ⟨by first | with_reducible assumption | omega | assumption, ?_⟩
    refine ⟨by first | with_reducible assumption | omega | assumption, ?_⟩
    exact .inl ⟨(), trivial, rfl, rfl, rfl⟩
theorem ok37 : FokM Try.prog none1 37 Try.f37 := ⟨mixed, by kernel_rfl, by kernel_rfl, by kernel_rfl, by kernel_rfl⟩
theorem r37 (o : List Int) (r : Room) (i : Nat) (h : OrdL o ∧ rok o r) (hi : el o i) : Body (En6 [c32.to, c80.to]) none1 Try.f37 [ls o r, I i] .nil (heO o i, .nil) := by
  have h6 := h.1.s.2
  have hod := h.1.od
  have hlen : (lr (LL o)).length = (LL o).length := List.length_map _
  have hct : (LL o).length = ctO o := lns_all hod h6
  have htt : tot i ((LL o).take (lr (LL o)).length) = nS o i o.length := by
    rw [hlen, List.take_length]; exact tot_all hod h6 hi
  have hle : ctO o ≤ 46656 := ct_le h6 (alls_lt _)
  have h1 : 1 ≤ ctO o := ct1 hod h6
  have hnS := nS_le h6 i (k := o.length) h6
  have hl := lp37 i (LL o) (by omega) (fun b hb => by
    have e := lns_bl _ _ _ _ hb
    rw [List.length_nil, Nat.zero_add] at e
    refine ⟨by omega, fun q => ?_⟩
    rw [q, List.length_nil] at e
    have := h.1.s.1; omega)
  have hv : heO o i = fr (tot i ((LL o).take (lr (LL o)).length)) (lr (LL o)).length := by rw [htt, hlen, hct]
  rw [hv]
  have hp1 : tot i ((LL o).take (lr (LL o)).length) ≤ 1000000 := by rw [htt]; omega
  have hp2 : 1 ≤ (lr (LL o)).length ∧ (lr (LL o)).length ≤ 1000000 := by omega
  refine body_s ([Ans.o (Orc.val 12 (AV.sl (rowsA (lr (LL o))) (lr (LL o)).length Room.no) (H.mk [[I 0, I 0]] [] [])), Ans.loop [(1 : Nat), (4 : Nat), (5 : Nat), (6 : Nat), (13 : Nat), (14 : Nat), (15 : Nat)] [Out.mk Unit (AX.exit (0 : Nat)) [(4 : Nat), (5 : Nat), (6 : Nat)] (fun x => True) (fun x => [AV.ptr 0 0, I (↑(tot i (List.take (lr (LL o)).length (LL o))) : Int), rwl (LL o) Room.no]) (fun x => h37) fun y => [Ans.o (Orc.val 37 (AV.agg [I (↑(tot i (List.take (lr (LL o)).length (LL o)) / (tot i (List.take (lr (LL o)).length (LL o))).gcd (lr (LL o)).length) : Int), I (↑((lr (LL o)).length / (tot i (List.take (lr (LL o)).length (LL o))).gcd (lr (LL o)).length) : Int)]) (H.mk [[I 0, I 0]] [] []))]]]) (aCall (Sof [c32.to, c80.to]) (AV.fn (Fn.func (32 : Nat)) [] []) [AV.sl (ints o) o.length r] (H.mk [[I 0, I 0]] [] []) = some (AV.sl (rowsA (lr (LL o))) (lr (LL o)).length Room.no, H.mk [[I 0, I 0]] [] []) ∧ LoopS (Env.mk Try.prog (Sof [c32.to, c80.to]) (Pof (P := Try.prog) []) H.nil.base (300 : Nat)) (loopAt Try.f37 (0 : Nat)) (38 : Nat) [(1 : Nat), (4 : Nat), (5 : Nat), (6 : Nat), (13 : Nat), (14 : Nat), (15 : Nat)] [I (↑i : Int), AV.ptr 0 0, I 0, AV.sl (rowsA (lr (LL o))) (lr (LL o)).length Room.no, AV.sl (rowsA (lr (LL o))) (lr (LL o)).length Room.no, I (↑(lr (LL o)).length : Int), I 0] (H.mk [[I 0, I 0]] [] []) [Out.mk Unit (AX.exit (0 : Nat)) [(4 : Nat), (5 : Nat), (6 : Nat)] (fun x => True) (fun x => [AV.ptr 0 0, I (↑(tot i (List.take (lr (LL o)).length (LL o))) : Int), rwl (LL o) Room.no]) (fun x => h37) fun y => [Ans.o (Orc.val 37 (AV.agg [I (↑(tot i (List.take (lr (LL o)).length (LL o)) / (tot i (List.take (lr (LL o)).length (LL o))).gcd (lr (LL o)).length) : Int), I (↑((lr (LL o)).length / (tot i (List.take (lr (LL o)).length (LL o))).gcd (lr (LL o)).length) : Int)]) (H.mk [[I 0, I 0]] [] []))]] ∧ (∀ (y : Unit), True → ∀ (u : Nat → AV), aCall (Sof [c32.to, c80.to]) (AV.fn (Fn.func (80 : Nat)) [] []) [I (↑(tot i (List.take (lr (LL o)).length (LL o))) : Int), I (↑(lr (LL o)).length : Int)] (H.mk [[I 0, I 0]] [] []) = some (AV.agg [I (↑(tot i (List.take (lr (LL o)).length (LL o)) / (tot i (List.take (lr (LL o)).length (LL o))).gcd (lr (LL o)).length) : Int), I (↑((lr (LL o)).length / (tot i (List.take (lr (LL o)).length (LL o))).gcd (lr (LL o)).length) : Int)], H.mk [[I 0, I 0]] [] []) ∧ (AV.agg [I (↑(tot i (List.take (lr (LL o)).length (LL o)) / (tot i (List.take (lr (LL o)).length (LL o))).gcd (lr (LL o)).length) : Int), I (↑((lr (LL o)).length / (tot i (List.take (lr (LL o)).length (LL o))).gcd (lr (LL o)).length) : Int)], H.mk [] [] []) = (AV.agg [I (↑(tot i (List.take (lr (LL o)).length (LL o)) / (tot i (List.take (lr (LL o)).length (LL o))).gcd (lr (LL o)).length) : Int), I (↑((lr (LL o)).length / (tot i (List.take (lr (LL o)).length (LL o))).gcd (lr (LL o)).length) : Int)], H.mk [] [] [])) ∧ True) (by kernel_rfl) ?_
  refine ⟨acall_hit (c := c32.to) ((o, r) : List Int × Room) _ rfl h, ?_⟩
  refine ⟨hl, ?_⟩
  refine And.intro ?_ ?_
  · skip
    intro y
    intro w1
    intro u
    refine ⟨acall_hit (c := c80.to) (tot i ((LL o).take (lr (LL o)).length), (lr (LL o)).length) _ rfl ⟨hp1, hp2⟩, ?_⟩
    rfl
  · skip
    trivial
end Go.Proofs.Ord

