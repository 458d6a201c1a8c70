/- Layer 7: the most even pair, by the program. -/
import Derived.Test.YtmgbglnljnlapaaOrAb
import Derived.KernelRfl
set_option linter.unusedSimpArgs false
set_option linter.unusedVariables false
set_option linter.unnecessarySimpa false
set_option maxHeartbeats 4000000
set_option maxRecDepth 100000
namespace Go.Proofs.Ord
open Go Go.VM
open Go.Proofs.Sur (andn andn_bit andn_le i_wrap i_and i_or i_andn i_shl i_shr bit_01)

theorem ok82 : FokM Try.prog none1 82 Try.f82 := ⟨mixed, by kernel_rfl, by kernel_rfl, by kernel_rfl, by kernel_rfl⟩
abbrev pL (n : Nat) (A : Rel) (L : List Pr) : Prop := (1 ≤ L.length ∧ L.length ≤ 40) ∧ ∀ k, k < L.length → okp A n (L.getD k pair0)
abbrev mnA (n : Nat) (A : Rel) (L : List Pr) : Pr := mnL (bsP A n) L (L.length - 1)
theorem r82 (n : Nat) (A : Rel) (h : pD n A) (L : List Pr) (r : Room) (hr : rok L r) (hp : pL n A L) : Body (EnE [c83 n A h] n A) none1 Try.f82 [pz L r, fE] (hE n A) (.agg [I (mnA n A L).1, I (mnA n A L).2], hE n A) := by
  have hl := lp82 n A h L r hr hp.1.1 hp.1.2 hp.2
  have c1 : (1 : Int) ≤ (L.length : Int) := by have := hp.1.1; omega
  have hz : 0 < L.length := hp.1.1
  have hr0 := rok_idx hr hz
  refine body_s ([Ans.o (Orc.b false), Ans.o (Orc.val 12 (AV.cptr (pairsA (List.drop (0 : Nat) L))) H.nil), Ans.o (Orc.val 13 (AV.agg [I (L.getD (0 : Nat) pair0).fst, I (L.getD (0 : Nat) pair0).snd]) H.nil), Ans.loop [(0 : Nat), (1 : Nat), (4 : Nat), (5 : Nat), (6 : Nat)] [Out.mk Unit (AX.exit (0 : Nat)) [(4 : Nat), (5 : Nat)] (fun x => True) (fun x => [AV.ptr 3 0, AV.ptr 4 0]) (fun x => hM n A (mnA n A L)) fun y => []]]) ((1 : Int) ≤ (↑L.length : Int) ∧ aIndexAddr Try.prog (22 : Nat) (AV.sl (pairsA L) L.length r) (I 0) = some (AV.cptr (pairsA (List.drop (0 : Nat) L))) ∧ aLoad Try.prog (54 : Nat) (pairsA (List.drop (0 : Nat) L)) = some (AV.agg [I (L.getD (0 : Nat) pair0).fst, I (L.getD (0 : Nat) pair0).snd]) ∧ LoopS (Env.mk Try.prog (Sof [c83 n A h]) (Pof (P := Try.prog) []) (hE n A).base (300 : Nat)) (loopAt Try.f82 (0 : Nat)) (33 : Nat) [(0 : Nat), (1 : Nat), (4 : Nat), (5 : Nat), (6 : Nat)] [AV.sl (pairsA L) L.length r, AV.fn (Fn.func (83 : FuncId)) [] [AV.ptr 1 0, AV.ptr 2 0], AV.ptr 3 0, AV.ptr 4 0, I 1] (H.mk [[I 0, I 0], ints (o7 n A), [I (↑(ct A n (alls n)) : Int)], [I 0, I 0], [I (L.getD (0 : Nat) pair0).fst, I (L.getD (0 : Nat) pair0).snd]] [] []) [Out.mk Unit (AX.exit (0 : Nat)) [(4 : Nat), (5 : Nat)] (fun x => True) (fun x => [AV.ptr 3 0, AV.ptr 4 0]) (fun x => hM n A (mnA n A L)) fun y => []] ∧ (∀ (y : Unit), True → ∀ (u : Nat → AV), (AV.agg [I (mnA n A L).fst, I (mnA n A L).snd], H.mk [[I 0, I 0], ints (o7 n A), [I (↑(ct A n (alls n)) : Int)]] [] []) = (AV.agg [I (mnA n A L).fst, I (mnA n A L).snd], H.mk [[I 0, I 0], ints (o7 n A), [I (↑(ct A n (alls n)) : Int)]] [] [])) ∧ True) (by kernel_rfl) ?_
  refine ⟨by first | with_reducible assumption | omega | assumption, ?_⟩
  refine ⟨ix_pairs (by kernel_rfl) hz hr0, ?_⟩
  refine ⟨ld_pairs (by kernel_rfl) (by kernel_rfl) (by kernel_rfl) hz, ?_⟩
  refine ⟨hl, ?_⟩
  refine And.intro ?_ ?_
  · skip
    intro y
    intro w1
    intro u
    rfl
  · skip
    trivial
noncomputable def c82r (n : Nat) (A : Rel) (h : pD n A) : Ctr Try.prog where
  f := 82
  X := List Pr × Room
  args x := [pz x.1 x.2, fE]
  pre x H := (pL n A x.1 ∧ rok x.1 x.2) ∧ ∃ zs, H.blk = (hE n A).blk ++ zs
  res x H := (.agg [I (mnA n A x.1).1, I (mnA n A x.1).2], H)
  det := by
    rintro ⟨l, r⟩ ⟨m, s⟩ H e _ _
    simp only [List.cons.injEq, AV.sl.injEq, and_true] at e
    rw [pairsA_inj e.1]
  ok := by
    rintro ⟨L, r⟩ H ⟨⟨hp, hr⟩, zs, hz⟩
    refine ⟨ok82.call, ?_⟩
    have hc := (r82 n A h L r.wk (by simpa using hr) hp).run ok82 (.rd _ (c83_reads n A h) .nil) rfl
    have := CallOk.frame (hE_closed n A) (by simp [AV.bnds, AV.bnd, rm_wk_bnd]) (by simp [AV.bnd, AV.bnds]) hc zs H.toks H.maps
    rw [← hz] at this
    exact CallOk.wk (args := [pz L r, fE]) this
theorem c82r_reads (n : Nat) (A : Rel) (h : pD n A) : (c82r n A h).Reads := ⟨fun _ _ _ => rfl, fun x H zs hx => ⟨⟨hx.1, by
  obtain ⟨_, z1, hz⟩ := hx
  exact ⟨z1 ++ zs, by show H.blk ++ zs = _; rw [hz, List.append_assoc]⟩⟩, rfl⟩⟩
/-- the free pairs -/
def frow (A : Rel) (i : Nat) : Nat → List Pr
  | 0 => []
  | d + 1 => if frB A i (i + 1 + d) = true then frow A i d ++ [((i : Int), ((i + 1 + d : Nat) : Int))] else frow A i d
def fall (A : Rel) (n : Nat) : Nat → List Pr
  | 0 => []
  | m + 1 => fall A n m ++ frow A m (n - (m + 1))
theorem frow_len {A : Rel} {i : Nat} : ∀ d, (frow A i d).length ≤ d
  | 0 => Nat.le_refl _
  | d + 1 => by
    have := frow_len (A := A) (i := i) d
    rw [frow]; split
    · rw [List.length_append]; simp; omega
    · omega
theorem fall_len {A : Rel} {n : Nat} : ∀ m, (fall A n m).length ≤ m * n
  | 0 => Nat.zero_le _
  | m + 1 => by
    have h1 := fall_len (A := A) (n := n) m
    have h2 := frow_len (A := A) (i := m) (n - (m + 1))
    rw [fall, List.length_append, Nat.add_mul]; omega
theorem frow_mem {A : Rel} {i : Nat} {p : Pr} : ∀ {d : Nat}, p ∈ frow A i d → ∃ y, y < d ∧ Fr A i (i + 1 + y) ∧ p = ((i : Int), ((i + 1 + y : Nat) : Int))
  | 0, h => by simp [frow] at h
  | d + 1, h => by
    rw [frow] at h
    split at h <;> rename_i hf
    · rw [List.mem_append, List.mem_singleton] at h
      rcases h with h | h
      · obtain ⟨y, h1, h2⟩ := frow_mem h; exact ⟨y, by omega, h2⟩
      · exact ⟨d, by omega, frB_iff.1 hf, h⟩
    · obtain ⟨y, h1, h2⟩ := frow_mem h; exact ⟨y, by omega, h2⟩
theorem fall_mem {A : Rel} {n : Nat} {p : Pr} : ∀ {m : Nat}, m ≤ n → p ∈ fall A n m → okp A n p
  | 0, _, h => by simp [fall] at h
  | m + 1, hm, h => by
    rw [fall, List.mem_append] at h
    rcases h with h | h
    · exact fall_mem (by omega) h
    · obtain ⟨y, h1, h2, rfl⟩ := frow_mem h
      exact ⟨⟨by simp only; omega, by simp only; omega⟩, ⟨by simp only; omega, by simp only; omega⟩, h2⟩
abbrev fA (n : Nat) (A : Rel) : List Pr := fall A n n
theorem fA_pL {n : Nat} {A : Rel} (h6 : n ≤ 6) (h0 : 1 ≤ (fA n A).length) : pL n A (fA n A) := by
  have : (fA n A).length ≤ n * n := fall_len n
  have h2 : n * n ≤ 6 * 6 := Nat.mul_le_mul h6 h6
  exact ⟨⟨h0, by omega⟩, fun k hk => fall_mem (Nat.le_refl _) (getD_mem hk)⟩
abbrev hp81 (n : Nat) (A : Rel) (L : List Pr) : H := ⟨[ints (o7 n A)], tkz L, []⟩
abbrev o81b (n : Nat) (A : Rel) (i : Nat) (L : List Pr) : List Out := [.mk Unit (.exit 2) [1, 3, 7, 8] (fun _ => True) (fun _ => [.ptr 0 0, pg L, I n, I i]) (fun _ => hp81 n A L) (fun _ => [])]
theorem simp81b : allSimpleM none1 (loopAt Try.f81 1) = true := by kernel_rfl
theorem lp81b (n : Nat) (A : Rel) (h : pO n A) (i : Nat) (hi : i < n) (L0 : List Pr) (hL0 : L0.length ≤ 100) :
    LoopS (En6 [c70.to]) (loopAt Try.f81 1) 31 [1, 3, 4, 5, 7, 8] [.ptr 0 0, pg L0, I i, I (i + 1 : Nat), I n, I i] (hp81 n A L0) (o81b n A i (L0 ++ frow A i (n - (i + 1)))) := by
  have hR : Rests (En6 [c70.to]) none1 := rests mixed (.pure _ .nil)
  have h6 := h.2
  refine loop_s hR simp81b none (by intro _ h; cases h) (fun d vs H => H = hp81 n A (L0 ++ frow A i d) ∧ vs = [.ptr 0 0, pg (L0 ++ frow A i d), I i, I (i + 1 + d : Nat), I n, I i]) (n - (i + 1)) ⟨by rw [frow, List.append_nil], by rw [frow, List.append_nil]⟩ (by intro _ h; cases h) ?_
  rintro d vs H hd ⟨rfl, rfl⟩
  by_cases hz : ((i + 1 + d : Nat) : Int) < n
  · have hz' : i + 1 + d < n := by omega
    have ev0 : IntKind.i64.wrap (((i + 1 + d : Nat) : Int) + 1) = ((i + 1 + (d + 1) : Nat) : Int) := by rw [wr _ (by omega) (by omega)]; omega
    have hrow : frow A i (d + 1) = if frB A i (i + 1 + d) = true then frow A i d ++ [((i : Int), ((i + 1 + d : Nat) : Int))] else frow A i d := rfl
    have p70 : pO n A ∧ i < n ∧ i + 1 + d < n := ⟨h, hi, hz'⟩
    cases b1 : frB A i (i + 1 + d)
    · rw [b1] at hrow
      have hrow : frow A i (d + 1) = frow A i d := hrow
      refine ⟨[Ans.o (Orc.b true), Ans.o (Orc.val 22 (AV.bool false) (H.mk [ints (o7 n A)] (tkz (L0 ++ frow A i d)) [])), Ans.o (Orc.val 18 (I (↑(i + (1 : Nat) + (d + (1 : Nat))) : Int)) H.nil)], fun u => of_eq ((↑(i + (1 : Nat) + d) : Int) < (↑n : Int) ∧ aCall (Sof [c70.to]) (AV.fn (Fn.func (70 : Nat)) [] []) [AV.agg [I (↑n : Int), I (↑(A (nat_lit 0)) : Int), I (↑(A (nat_lit 1)) : Int), I (↑(A (nat_lit 2)) : Int), I (↑(A (nat_lit 3)) : Int), I (↑(A (nat_lit 4)) : Int), I (↑(A (nat_lit 5)) : Int)], I (↑i : Int), I (↑(i + (1 : Nat) + d) : Int)] (H.mk [ints (o7 n A)] (tkz (L0 ++ frow A i d)) []) = some (AV.bool false, H.mk [ints (o7 n A)] (tkz (L0 ++ frow A i d)) []) ∧ aBin Try.prog BinOp.add (3 : Nat) (I (↑(i + (1 : Nat) + d) : Int)) (I 1) = some (I (↑(i + (1 : Nat) + (d + (1 : Nat))) : Int)) ∧ (31 : Nat) = (31 : Nat) ∧ d < n - (i + (1 : Nat)) ∧ Keep (H.mk [ints (o7 n A)] (tkz (L0 ++ frow A i d)) [] = H.mk [ints (o7 n A)] (tkz (L0 ++ frow A i (d + (1 : Nat)))) [] ∧ [AV.ptr 0 0, AV.sl (pairsA (L0 ++ frow A i d)) (L0 ++ frow A i d).length (rmz (2 : Nat) (L0 ++ frow A i d)), I (↑i : Int), I (↑(i + (1 : Nat) + (d + (1 : Nat))) : Int), I (↑n : Int), I (↑i : Int)] = [AV.ptr 0 0, AV.sl (pairsA (L0 ++ frow A i (d + (1 : Nat)))) (L0 ++ frow A i (d + (1 : Nat))).length (rmz (2 : Nat) (L0 ++ frow A i (d + (1 : Nat)))), I (↑i : Int), I (↑(i + (1 : Nat) + (d + (1 : Nat))) : Int), I (↑n : Int), I (↑i : Int)])) (by kernel_rfl) ?_⟩
      refine ⟨by first | with_reducible assumption | omega | assumption, ?_⟩
      refine ⟨acall_b (acall_hit (c := c70.to) ((n, A), i, i + 1 + d) _ rfl p70) b1, ?_⟩
      refine ⟨told_add (by with_reducible assumption), ?_⟩
      refine ⟨by first | with_reducible assumption | omega | assumption, ?_⟩
      refine ⟨by first | with_reducible assumption | omega | assumption, ?_⟩
      exact ⟨by rw [hrow], by rw [hrow]⟩
    · rw [b1] at hrow
      have hrow : frow A i (d + 1) = frow A i d ++ [((i : Int), ((i + 1 + d : Nat) : Int))] := hrow
      have hlen : (L0 ++ frow A i d).length ≤ 1000000 := by have := frow_len (A := A) (i := i) d; rw [List.length_append]; omega
      have hap := app_pr (P := Try.prog) (t := 22) (by kernel_rfl) (l := L0 ++ frow A i d) (x := (i : Int)) (y := ((i + 1 + d : Nat) : Int)) (bs := [ints (o7 n A)]) hlen
      rw [List.append_assoc, ← hrow] at hap
      refine ⟨[Ans.o (Orc.b true), Ans.o (Orc.val 22 (AV.bool true) (H.mk [ints (o7 n A)] (tkz (L0 ++ frow A i d)) [])), Ans.o (Orc.val 28 (AV.sl (pairsA (L0 ++ frow A i (d + (1 : Nat)))) (L0 ++ frow A i (d + (1 : Nat))).length (rmz (2 : Nat) (L0 ++ frow A i (d + (1 : Nat))))) (H.mk [ints (o7 n A)] (tkz (L0 ++ frow A i (d + (1 : Nat)))) [])), Ans.o (Orc.val 18 (I (↑(i + (1 : Nat) + (d + (1 : Nat))) : Int)) H.nil)], fun u => of_eq ((↑(i + (1 : Nat) + d) : Int) < (↑n : Int) ∧ aCall (Sof [c70.to]) (AV.fn (Fn.func (70 : Nat)) [] []) [AV.agg [I (↑n : Int), I (↑(A (nat_lit 0)) : Int), I (↑(A (nat_lit 1)) : Int), I (↑(A (nat_lit 2)) : Int), I (↑(A (nat_lit 3)) : Int), I (↑(A (nat_lit 4)) : Int), I (↑(A (nat_lit 5)) : Int)], I (↑i : Int), I (↑(i + (1 : Nat) + d) : Int)] (H.mk [ints (o7 n A)] (tkz (L0 ++ frow A i d)) []) = some (AV.bool true, H.mk [ints (o7 n A)] (tkz (L0 ++ frow A i d)) []) ∧ aAppend Try.prog (22 : Nat) (22 : Nat) (AV.sl (pairsA (L0 ++ frow A i d)) (L0 ++ frow A i d).length (rmz (2 : Nat) (L0 ++ frow A i d))) (AV.sl [I (↑i : Int), I (↑(i + (1 : Nat) + d) : Int)] (1 : Nat) Room.full) (H.mk [ints (o7 n A)] (tkz (L0 ++ frow A i d)) []) = some (AV.sl (pairsA (L0 ++ frow A i (d + (1 : Nat)))) (L0 ++ frow A i (d + (1 : Nat))).length (rmz (2 : Nat) (L0 ++ frow A i (d + (1 : Nat)))), H.mk [ints (o7 n A)] (tkz (L0 ++ frow A i (d + (1 : Nat)))) []) ∧ aBin Try.prog BinOp.add (3 : Nat) (I (↑(i + (1 : Nat) + d) : Int)) (I 1) = some (I (↑(i + (1 : Nat) + (d + (1 : Nat))) : Int)) ∧ (31 : Nat) = (31 : Nat) ∧ d < n - (i + (1 : Nat)) ∧ Keep (H.mk [ints (o7 n A)] (tkz (L0 ++ frow A i (d + (1 : Nat)))) [] = H.mk [ints (o7 n A)] (tkz (L0 ++ frow A i (d + (1 : Nat)))) [] ∧ [AV.ptr 0 0, AV.sl (pairsA (L0 ++ frow A i (d + (1 : Nat)))) (L0 ++ frow A i (d + (1 : Nat))).length (rmz (2 : Nat) (L0 ++ frow A i (d + (1 : Nat)))), I (↑i : Int), I (↑(i + (1 : Nat) + (d + (1 : Nat))) : Int), I (↑n : Int), I (↑i : Int)] = [AV.ptr 0 0, AV.sl (pairsA (L0 ++ frow A i (d + (1 : Nat)))) (L0 ++ frow A i (d + (1 : Nat))).length (rmz (2 : Nat) (L0 ++ frow A i (d + (1 : Nat)))), I (↑i : Int), I (↑(i + (1 : Nat) + (d + (1 : Nat))) : Int), I (↑n : Int), I (↑i : Int)])) (by kernel_rfl) ?_⟩
      refine ⟨by first | with_reducible assumption | omega | assumption, ?_⟩
      refine ⟨acall_b (acall_hit (c := c70.to) ((n, A), i, i + 1 + d) _ rfl p70) b1, ?_⟩
      refine ⟨hap, ?_⟩
      refine ⟨told_add (by with_reducible assumption), ?_⟩
      refine ⟨by first | with_reducible assumption | omega | assumption, ?_⟩
      refine ⟨by first | with_reducible assumption | omega | assumption, ?_⟩
      exact ⟨rfl, rfl⟩
  · have hz : (n : Int) ≤ ((i + 1 + d : Nat) : Int) := by omega
    have hd' : d = n - (i + 1) := by omega
    subst hd'
    refine ⟨[Ans.o (Orc.b false)], fun u => of_eq ((↑n : Int) ≤ (↑(i + (1 : Nat) + (n - (i + (1 : Nat)))) : Int) ∧ (31 : Nat) = (31 : Nat) ∧ hits [Out.mk Unit (AX.exit (2 : Nat)) [(1 : Nat), (3 : Nat), (7 : Nat), (8 : Nat)] (fun x => True) (fun x => [AV.ptr 0 0, pg (L0 ++ frow A i (n - (i + (1 : Nat)))), I (↑n : Int), I (↑i : Int)]) (fun x => hp81 n A (L0 ++ frow A i (n - (i + (1 : Nat))))) fun x => []] (AX.exit (2 : Nat)) [u (0 : Nat), AV.ptr 0 0, u (2 : Nat), AV.sl (pairsA (L0 ++ frow A i (n - (i + (1 : Nat))))) (L0 ++ frow A i (n - (i + (1 : Nat)))).length (rmz (2 : Nat) (L0 ++ frow A i (n - (i + (1 : Nat))))), I (↑i : Int), I (↑(i + (1 : Nat) + (n - (i + (1 : Nat)))) : Int), u (6 : Nat), I (↑n : Int), I (↑i : Int), u (9 : Nat), u (10 : Nat), u (11 : Nat), u (12 : Nat), I (↑(i + (1 : Nat) + (n - (i + (1 : Nat)))) : Int), AV.ptr 0 0, I (↑n : Int), AV.bool false, u (17 : Nat), u (18 : Nat), u (19 : Nat), u (20 : Nat), u (21 : Nat), u (22 : Nat), u (23 : Nat), u (24 : Nat), u (25 : Nat), u (26 : Nat), u (27 : Nat), u (28 : Nat), u (29 : Nat), u (30 : Nat)] (H.mk [ints (o7 n A)] (tkz (L0 ++ frow A i (n - (i + (1 : Nat))))) [])) (by kernel_rfl) ?_⟩
    refine ⟨by first | with_reducible assumption | omega | assumption, ?_⟩
    refine ⟨by first | with_reducible assumption | omega | assumption, ?_⟩
    exact .inl ⟨(), trivial, rfl, rfl, rfl⟩
abbrev o81 (n : Nat) (A : Rel) : List Out := [.mk Unit (.exit 0) [1, 3] (fun _ => True) (fun _ => [.ptr 0 0, pg (fA n A)]) (fun _ => hp81 n A (fA n A)) (fun _ => [])]
theorem simp81 : allSimpleM none1 (loopAt Try.f81 0) = true := by kernel_rfl
theorem lp81 (n : Nat) (A : Rel) (h : pO n A) :
    LoopS (En6 [c70.to]) (loopAt Try.f81 0) 31 [1, 3, 7, 8] [.ptr 0 0, .sl [] 0 .nil, I n, I 0] (hp81 n A []) (o81 n A) := by
  have hR : Rests (En6 [c70.to]) none1 := rests mixed (.pure _ .nil)
  have h6 := h.2
  refine loop_s hR simp81 none (by intro _ h; cases h) (fun i vs H => H = hp81 n A (fall A n i) ∧ vs = [.ptr 0 0, pg (fall A n i), I n, I i]) n ⟨rfl, rfl⟩ (by intro _ h; cases h) ?_
  rintro i vs H hi ⟨rfl, rfl⟩
  by_cases hz : (i : Int) < n
  · have hz' : i < n := by omega
    have ev0 := wj1 (j := i) (by omega)
    have h1 := fall_len (A := A) (n := n) i
    have h2 : i * n ≤ 6 * 6 := Nat.mul_le_mul (by omega) h6
    have hl := lp81b n A h i hz' (fall A n i) (by omega)
    refine ⟨[Ans.o (Orc.b true), Ans.o (Orc.val 12 (I (↑(i + (1 : Nat)) : Int)) H.nil), Ans.loop [(1 : Nat), (3 : Nat), (4 : Nat), (5 : Nat), (7 : Nat), (8 : Nat)] [Out.mk Unit (AX.exit (2 : Nat)) [(1 : Nat), (3 : Nat), (7 : Nat), (8 : Nat)] (fun x => True) (fun x => [AV.ptr 0 0, pg (fall A n (i + (1 : Nat))), I (↑n : Int), I (↑i : Int)]) (fun x => hp81 n A (fall A n (i + (1 : Nat)))) fun y => [Ans.o (Orc.val 29 (I (↑(i + (1 : Nat)) : Int)) H.nil)]]], fun u => of_eq ((↑i : Int) < (↑n : Int) ∧ aBin Try.prog BinOp.add (3 : Nat) (I (↑i : Int)) (I 1) = some (I (↑(i + (1 : Nat)) : Int)) ∧ LoopS (Env.mk Try.prog (Sof [c70.to]) (Pof (P := Try.prog) []) H.nil.base (300 : Nat)) (loopAt Try.f81 (1 : Nat)) (31 : Nat) [(1 : Nat), (3 : Nat), (4 : Nat), (5 : Nat), (7 : Nat), (8 : Nat)] [AV.ptr 0 0, AV.sl (pairsA (fall A n i)) (fall A n i).length (rmz (2 : Nat) (fall A n i)), I (↑i : Int), I (↑(i + (1 : Nat)) : Int), I (↑n : Int), I (↑i : Int)] (H.mk [ints (o7 n A)] (tkz (fall A n i)) []) [Out.mk Unit (AX.exit (2 : Nat)) [(1 : Nat), (3 : Nat), (7 : Nat), (8 : Nat)] (fun x => True) (fun x => [AV.ptr 0 0, pg (fall A n (i + (1 : Nat))), I (↑n : Int), I (↑i : Int)]) (fun x => hp81 n A (fall A n (i + (1 : Nat)))) fun y => [Ans.o (Orc.val 29 (I (↑(i + (1 : Nat)) : Int)) H.nil)]] ∧ (∀ (y : Unit), True → ∀ (u : Nat → AV), aBin Try.prog BinOp.add (3 : Nat) (I (↑i : Int)) (I 1) = some (I (↑(i + (1 : Nat)) : Int)) ∧ (31 : Nat) = (31 : Nat) ∧ i < n ∧ Keep (H.mk [ints (o7 n A)] (tkz (fall A n (i + (1 : Nat)))) [] = H.mk [ints (o7 n A)] (tkz (fall A n (i + (1 : Nat)))) [] ∧ [AV.ptr 0 0, AV.sl (pairsA (fall A n (i + (1 : Nat)))) (fall A n (i + (1 : Nat))).length (rmz (2 : Nat) (fall A n (i + (1 : Nat)))), I (↑n : Int), I (↑(i + (1 : Nat)) : Int)] = [AV.ptr 0 0, AV.sl (pairsA (fall A n (i + (1 : Nat)))) (fall A n (i + (1 : Nat))).length (rmz (2 : Nat) (fall A n (i + (1 : Nat)))), I (↑n : Int), I (↑(i + (1 : Nat)) : Int)])) ∧ True) (by kernel_rfl) ?_⟩
    refine ⟨by first | with_reducible assumption | omega | assumption, ?_⟩
    refine ⟨told_add (by with_reducible assumption), ?_⟩
    refine ⟨hl, ?_⟩
    refine And.intro ?_ ?_
    · skip
      intro y
      intro w1
      intro u
      refine ⟨told_add (by with_reducible assumption), ?_⟩
      refine ⟨by first | with_reducible assumption | omega | assumption, ?_⟩
      refine ⟨by first | with_reducible assumption | omega | assumption, ?_⟩
      exact ⟨rfl, rfl⟩
    · skip
      trivial
  · have hz : (n : Int) ≤ i := by omega
    have hi' : i = n := by omega
    subst hi'
    refine ⟨[Ans.o (Orc.b false)], fun u => of_eq ((↑i : Int) ≤ (↑i : Int) ∧ (31 : Nat) = (31 : Nat) ∧ hits [Out.mk Unit (AX.exit (0 : Nat)) [(1 : Nat), (3 : Nat)] (fun x => True) (fun x => [AV.ptr 0 0, pg (fA i A)]) (fun x => hp81 i A (fA i A)) fun x => []] (AX.exit (0 : Nat)) [u (0 : Nat), AV.ptr 0 0, u (2 : Nat), AV.sl (pairsA (fall A i i)) (fall A i i).length (rmz (2 : Nat) (fall A i i)), u (4 : Nat), u (5 : Nat), u (6 : Nat), I (↑i : Int), I (↑i : Int), AV.bool false, u (10 : Nat), u (11 : Nat), u (12 : Nat), u (13 : Nat), u (14 : Nat), u (15 : Nat), u (16 : Nat), u (17 : Nat), u (18 : Nat), u (19 : Nat), u (20 : Nat), u (21 : Nat), u (22 : Nat), u (23 : Nat), u (24 : Nat), u (25 : Nat), u (26 : Nat), u (27 : Nat), u (28 : Nat), u (29 : Nat), u (30 : Nat)] (H.mk [ints (o7 i A)] (tkz (fall A i i)) [])) (by kernel_rfl) ?_⟩
    refine ⟨by first | with_reducible assumption | omega | assumption, ?_⟩
    refine ⟨by first | with_reducible assumption | omega | assumption, ?_⟩
    exact .inl ⟨(), trivial, rfl, rfl, rfl⟩
theorem leave_pg (bs : List (List AV)) (L : List Pr) : leave ⟨0, 0, 0⟩ (pg L) ⟨bs, tkz L, []⟩ = (pg L, ⟨[], tkz L, []⟩) := by
  cases L with
  | nil => rfl
  | cons x l =>
    show leave ⟨0, 0, 0⟩ (.sl (pairsA (x :: l)) (x :: l).length (.tok 0 2)) ⟨bs, [(x :: l).length], []⟩ = (.sl (pairsA (x :: l)) (x :: l).length (.tok 0 2), ⟨[], [(x :: l).length], []⟩)
    generalize (x :: l) = m
    simp [leave, AV.bnd, frz, Room.bnd, retok, frz_pairs]
theorem ok81 : FokM Try.prog none1 81 Try.f81 := ⟨mixed, by kernel_rfl, by kernel_rfl, by kernel_rfl, by kernel_rfl⟩
theorem r81 (n : Nat) (A : Rel) (h : pO n A) : Body (En6 [c70.to]) none1 Try.f81 [oA n A] .nil (pg (fA n A), ⟨[], tkz (fA n A), []⟩) := by
  have hl := lp81 n A h
  refine body_s ([Ans.loop [(1 : Nat), (3 : Nat), (7 : Nat), (8 : Nat)] [Out.mk Unit (AX.exit (0 : Nat)) [(1 : Nat), (3 : Nat)] (fun x => True) (fun x => [AV.ptr 0 0, pg (fA n A)]) (fun x => hp81 n A (fA n A)) fun y => []]]) (LoopS (Env.mk Try.prog (Sof [c70.to]) (Pof (P := Try.prog) []) H.nil.base (300 : Nat)) (loopAt Try.f81 (0 : Nat)) (31 : Nat) [(1 : Nat), (3 : Nat), (7 : Nat), (8 : Nat)] [AV.ptr 0 0, AV.sl [] (0 : Nat) Room.nil, I (↑n : Int), I 0] (H.mk [ints (o7 n A)] [] []) [Out.mk Unit (AX.exit (0 : Nat)) [(1 : Nat), (3 : Nat)] (fun x => True) (fun x => [AV.ptr 0 0, pg (fA n A)]) (fun x => hp81 n A (fA n A)) fun y => []] ∧ (∀ (y : Unit), True → ∀ (u : Nat → AV), leave (Base.mk H.nil.blk.length H.nil.toks.length H.nil.maps.length) (AV.sl (pairsA (fA n A)) (fA n A).length (rmz (2 : Nat) (fA n A))) (H.mk [ints (o7 n A)] (tkz (fA n A)) []) = (AV.sl (pairsA (fA n A)) (fA n A).length (rmz (2 : Nat) (fA n A)), H.mk [] (tkz (fA n A)) [])) ∧ True) (by kernel_rfl) ?_
  refine ⟨hl, ?_⟩
  refine And.intro ?_ ?_
  · skip
    intro y
    intro w1
    intro u
    exact leave_pg _ _
  · skip
    trivial
theorem rmz_bnd (L : List Pr) : (rmz 2 L).wk.bnd 0 = true := by cases L <;> rfl
noncomputable def c81 : PCtr Try.prog := slctr ok81 (X := Nat × Rel) (fun x => [oA x.1 x.2]) (fun x => pO x.1 x.2) (fun x => pz (fA x.1 x.2) (rmz 2 (fA x.1 x.2)).wk)
  (by rintro ⟨n, A⟩ ⟨m, B⟩ e hx hy; obtain ⟨rfl, rfl⟩ := o_det (List.cons.inj e).1 hx.1 hy.1 hx.2; rfl) (fun x => oA_wk _ _) (fun x => by simp [AV.bnd, rmz_bnd])
  (fun x hx => ⟨_, _, _, _, _, .pure _ .nil, r81 x.1 x.2 hx, by simp [AV.plain, plains_pairs], by simp [AV.wkd, wkds_pairs]⟩)
theorem ok39 : FokM Try.prog none1 39 Try.f39 := ⟨mixed, by kernel_rfl, by kernel_rfl, by kernel_rfl, by kernel_rfl⟩
abbrev fO (o : List Int) : List Pr := fA o.length (rel o)
theorem r39t (o : List Int) (r : Room) (h : pI o r ∧ OrdL o) (hd : pD o.length (rel o)) (h0 : 1 ≤ (fO o).length) : Body (En6 [c69t.to, c75.to, c81.to, c82r o.length (rel o) hd]) none1 Try.f39 [ls o r] .nil (.tup [.agg [I (mnA o.length (rel o) (fO o)).1, I (mnA o.length (rel o) (fO o)).2], I 0], .nil) := by
  have hp := h.2.p
  have hL := fA_pL (A := rel o) hp.2 h0
  have hne : ((fO o).length : Int) ≠ 0 := by omega
  have hrr : rok (fO o) (rmz 2 (fO o)).wk := by simpa using rok_rmz (fO o)
  refine body_s ([Ans.o (Orc.val 10 (AV.tup [AV.agg (ints (o7 o.length (rel o))), AV.bool true]) (H.mk [[I 0, I 0]] [] [])), Ans.o (Orc.val 17 (AV.sl (pairsA (fA o.length (rel o))) (fA o.length (rel o)).length (rmz (2 : Nat) (fA o.length (rel o))).wk) (H.mk [[I 0, I 0], [I (↑o.length : Int), I (↑(rel o (nat_lit 0)) : Int), I (↑(rel o (nat_lit 1)) : Int), I (↑(rel o (nat_lit 2)) : Int), I (↑(rel o (nat_lit 3)) : Int), I (↑(rel o (nat_lit 4)) : Int), I (↑(rel o (nat_lit 5)) : Int)]] [] [])), Ans.o (Orc.b false), Ans.o (Orc.val 23 (I (↑(ct (rel o) o.length (alls o.length)) : Int)) (H.mk [[I 0, I 0], [I (↑o.length : Int), I (↑(rel o (nat_lit 0)) : Int), I (↑(rel o (nat_lit 1)) : Int), I (↑(rel o (nat_lit 2)) : Int), I (↑(rel o (nat_lit 3)) : Int), I (↑(rel o (nat_lit 4)) : Int), I (↑(rel o (nat_lit 5)) : Int)]] [] [])), Ans.o (Orc.val 26 (AV.agg [I (mnA o.length (rel o) (fA o.length (rel o))).fst, I (mnA o.length (rel o) (fA o.length (rel o))).snd]) (H.mk [[I 0, I 0], [I (↑o.length : Int), I (↑(rel o (nat_lit 0)) : Int), I (↑(rel o (nat_lit 1)) : Int), I (↑(rel o (nat_lit 2)) : Int), I (↑(rel o (nat_lit 3)) : Int), I (↑(rel o (nat_lit 4)) : Int), I (↑(rel o (nat_lit 5)) : Int)], [I (↑(ct (rel o) o.length (alls o.length)) : Int)]] [] []))]) (aCall (Sof [c69t.to, c75.to, c81.to, c82r o.length (rel o) hd]) (AV.fn (Fn.func (69 : Nat)) [] []) [AV.sl (ints o) o.length r] (H.mk [[I 0, I 0]] [] []) = some (AV.tup [AV.agg (ints (o7 o.length (rel o))), AV.bool true], H.mk [[I 0, I 0]] [] []) ∧ aCall (Sof [c69t.to, c75.to, c81.to, c82r o.length (rel o) hd]) (AV.fn (Fn.func (81 : Nat)) [] []) [AV.agg [I (↑o.length : Int), I (↑(rel o (nat_lit 0)) : Int), I (↑(rel o (nat_lit 1)) : Int), I (↑(rel o (nat_lit 2)) : Int), I (↑(rel o (nat_lit 3)) : Int), I (↑(rel o (nat_lit 4)) : Int), I (↑(rel o (nat_lit 5)) : Int)]] (H.mk [[I 0, I 0], [I (↑o.length : Int), I (↑(rel o (nat_lit 0)) : Int), I (↑(rel o (nat_lit 1)) : Int), I (↑(rel o (nat_lit 2)) : Int), I (↑(rel o (nat_lit 3)) : Int), I (↑(rel o (nat_lit 4)) : Int), I (↑(rel o (nat_lit 5)) : Int)]] [] []) = some (AV.sl (pairsA (fA o.length (rel o))) (fA o.length (rel o)).length (rmz (2 : Nat) (fA o.length (rel o))).wk, H.mk [[I 0, I 0], [I (↑o.length : Int), I (↑(rel o (nat_lit 0)) : Int), I (↑(rel o (nat_lit 1)) : Int), I (↑(rel o (nat_lit 2)) : Int), I (↑(rel o (nat_lit 3)) : Int), I (↑(rel o (nat_lit 4)) : Int), I (↑(rel o (nat_lit 5)) : Int)]] [] []) ∧ (↑(fA o.length (rel o)).length : Int) ≠ (0 : Int) ∧ aCall (Sof [c69t.to, c75.to, c81.to, c82r o.length (rel o) hd]) (AV.fn (Fn.func (75 : Nat)) [] []) [AV.agg [I (↑o.length : Int), I (↑(rel o (nat_lit 0)) : Int), I (↑(rel o (nat_lit 1)) : Int), I (↑(rel o (nat_lit 2)) : Int), I (↑(rel o (nat_lit 3)) : Int), I (↑(rel o (nat_lit 4)) : Int), I (↑(rel o (nat_lit 5)) : Int)]] (H.mk [[I 0, I 0], [I (↑o.length : Int), I (↑(rel o (nat_lit 0)) : Int), I (↑(rel o (nat_lit 1)) : Int), I (↑(rel o (nat_lit 2)) : Int), I (↑(rel o (nat_lit 3)) : Int), I (↑(rel o (nat_lit 4)) : Int), I (↑(rel o (nat_lit 5)) : Int)]] [] []) = some (I (↑(ct (rel o) o.length (alls o.length)) : Int), H.mk [[I 0, I 0], [I (↑o.length : Int), I (↑(rel o (nat_lit 0)) : Int), I (↑(rel o (nat_lit 1)) : Int), I (↑(rel o (nat_lit 2)) : Int), I (↑(rel o (nat_lit 3)) : Int), I (↑(rel o (nat_lit 4)) : Int), I (↑(rel o (nat_lit 5)) : Int)]] [] []) ∧ aCall (Sof [c69t.to, c75.to, c81.to, c82r o.length (rel o) hd]) (AV.fn (Fn.func (82 : Nat)) [] []) [AV.sl (pairsA (fA o.length (rel o))) (fA o.length (rel o)).length (rmz (2 : Nat) (fA o.length (rel o))).wk, AV.fn (Fn.func (83 : Nat)) [] [AV.ptr 1 0, AV.ptr 2 0]] (H.mk [[I 0, I 0], [I (↑o.length : Int), I (↑(rel o (nat_lit 0)) : Int), I (↑(rel o (nat_lit 1)) : Int), I (↑(rel o (nat_lit 2)) : Int), I (↑(rel o (nat_lit 3)) : Int), I (↑(rel o (nat_lit 4)) : Int), I (↑(rel o (nat_lit 5)) : Int)], [I (↑(ct (rel o) o.length (alls o.length)) : Int)]] [] []) = some (AV.agg [I (mnA o.length (rel o) (fA o.length (rel o))).fst, I (mnA o.length (rel o) (fA o.length (rel o))).snd], H.mk [[I 0, I 0], [I (↑o.length : Int), I (↑(rel o (nat_lit 0)) : Int), I (↑(rel o (nat_lit 1)) : Int), I (↑(rel o (nat_lit 2)) : Int), I (↑(rel o (nat_lit 3)) : Int), I (↑(rel o (nat_lit 4)) : Int), I (↑(rel o (nat_lit 5)) : Int)], [I (↑(ct (rel o) o.length (alls o.length)) : Int)]] [] []) ∧ (AV.tup [AV.agg [I (mnA o.length (rel o) (fA o.length (rel o))).fst, I (mnA o.length (rel o) (fA o.length (rel o))).snd], I 0], H.mk [] [] []) = (AV.tup [AV.agg [I (mnA o.length (rel o) (fO o)).fst, I (mnA o.length (rel o) (fO o)).snd], I 0], H.mk [] [] [])) (by kernel_rfl) ?_
  refine ⟨acall_hit (c := c69t.to) ((o, r) : List Int × Room) _ rfl h, ?_⟩
  refine ⟨acall_hit (c := c81.to) (o.length, rel o) _ rfl hp, ?_⟩
  refine ⟨by first | with_reducible assumption | omega | assumption, ?_⟩
  refine ⟨acall_hit (c := c75.to) (o.length, rel o) _ rfl hp, ?_⟩
  refine ⟨acall_hit (c := c82r o.length (rel o) hd) (fO o, (rmz 2 (fO o)).wk) _ rfl ⟨⟨hL, hrr⟩, [], rfl⟩, ?_⟩
  rfl
theorem r39n (o : List Int) (r : Room) (h : pI o r ∧ OrdL o) (h0 : (fO o).length = 0) : Body (En6 [c69t.to, c81.to]) none1 Try.f39 [ls o r] .nil (.tup [.agg [I 0, I 0], I 4], .nil) := by
  have hp := h.2.p
  have he : ((fO o).length : Int) = 0 := by omega
  refine body_s ([Ans.o (Orc.val 10 (AV.tup [AV.agg (ints (o7 o.length (rel o))), AV.bool true]) (H.mk [[I 0, I 0]] [] [])), Ans.o (Orc.val 17 (AV.sl (pairsA (fA o.length (rel o))) (fA o.length (rel o)).length (rmz (2 : Nat) (fA o.length (rel o))).wk) (H.mk [[I 0, I 0], [I (↑o.length : Int), I (↑(rel o (nat_lit 0)) : Int), I (↑(rel o (nat_lit 1)) : Int), I (↑(rel o (nat_lit 2)) : Int), I (↑(rel o (nat_lit 3)) : Int), I (↑(rel o (nat_lit 4)) : Int), I (↑(rel o (nat_lit 5)) : Int)]] [] [])), Ans.o (Orc.b true)]) (aCall (Sof [c69t.to, c81.to]) (AV.fn (Fn.func (69 : Nat)) [] []) [AV.sl (ints o) o.length r] (H.mk [[I 0, I 0]] [] []) = some (AV.tup [AV.agg (ints (o7 o.length (rel o))), AV.bool true], H.mk [[I 0, I 0]] [] []) ∧ aCall (Sof [c69t.to, c81.to]) (AV.fn (Fn.func (81 : Nat)) [] []) [AV.agg [I (↑o.length : Int), I (↑(rel o (nat_lit 0)) : Int), I (↑(rel o (nat_lit 1)) : Int), I (↑(rel o (nat_lit 2)) : Int), I (↑(rel o (nat_lit 3)) : Int), I (↑(rel o (nat_lit 4)) : Int), I (↑(rel o (nat_lit 5)) : Int)]] (H.mk [[I 0, I 0], [I (↑o.length : Int), I (↑(rel o (nat_lit 0)) : Int), I (↑(rel o (nat_lit 1)) : Int), I (↑(rel o (nat_lit 2)) : Int), I (↑(rel o (nat_lit 3)) : Int), I (↑(rel o (nat_lit 4)) : Int), I (↑(rel o (nat_lit 5)) : Int)]] [] []) = some (AV.sl (pairsA (fA o.length (rel o))) (fA o.length (rel o)).length (rmz (2 : Nat) (fA o.length (rel o))).wk, H.mk [[I 0, I 0], [I (↑o.length : Int), I (↑(rel o (nat_lit 0)) : Int), I (↑(rel o (nat_lit 1)) : Int), I (↑(rel o (nat_lit 2)) : Int), I (↑(rel o (nat_lit 3)) : Int), I (↑(rel o (nat_lit 4)) : Int), I (↑(rel o (nat_lit 5)) : Int)]] [] []) ∧ (↑(fA o.length (rel o)).length : Int) = (0 : Int) ∧ (AV.tup [AV.agg [I 0, I 0], I 4], H.mk [] [] []) = (AV.tup [AV.agg [I 0, I 0], I 4], H.mk [] [] [])) (by kernel_rfl) ?_
  refine ⟨acall_hit (c := c69t.to) ((o, r) : List Int × Room) _ rfl h, ?_⟩
  refine ⟨acall_hit (c := c81.to) (o.length, rel o) _ rfl hp, ?_⟩
  refine ⟨by first | with_reducible assumption | omega | assumption, ?_⟩
  rfl
theorem r39g (o : List Int) (r : Room) (h : pI o r ∧ (sz o ∧ rgO o) ∧ ¬ OrdL o) : Body (En6 [c69g.to]) none1 Try.f39 [ls o r] .nil (.tup [.agg [I 0, I 0], I 2], .nil) := by
  refine body_s ([Ans.o (Orc.val 10 (AV.tup [AV.agg (ints (o7 o.length (rel o))), AV.bool false]) (H.mk [[I 0, I 0]] [] []))]) (aCall (Sof [c69g.to]) (AV.fn (Fn.func (69 : Nat)) [] []) [AV.sl (ints o) o.length r] (H.mk [[I 0, I 0]] [] []) = some (AV.tup [AV.agg (ints (o7 o.length (rel o))), AV.bool false], H.mk [[I 0, I 0]] [] []) ∧ (AV.tup [AV.agg [I 0, I 0], I 2], H.mk [] [] []) = (AV.tup [AV.agg [I 0, I 0], I 2], H.mk [] [] [])) (by kernel_rfl) ?_
  refine ⟨acall_hit (c := c69g.to) ((o, r) : List Int × Room) _ rfl h, ?_⟩
  rfl
theorem r39h (o : List Int) (r : Room) (h : pI o r ∧ ¬ (sz o ∧ rgO o)) : Body (En6 [c69h.to]) none1 Try.f39 [ls o r] .nil (.tup [.agg [I 0, I 0], I 2], .nil) := by
  refine body_s ([Ans.o (Orc.val 10 (AV.tup [AV.agg (ints (o7 (0 : Nat) zeroR)), AV.bool false]) (H.mk [[I 0, I 0]] [] []))]) (aCall (Sof [c69h.to]) (AV.fn (Fn.func (69 : Nat)) [] []) [AV.sl (ints o) o.length r] (H.mk [[I 0, I 0]] [] []) = some (AV.tup [AV.agg (ints (o7 (0 : Nat) zeroR)), AV.bool false], H.mk [[I 0, I 0]] [] []) ∧ (AV.tup [AV.agg [I 0, I 0], I 2], H.mk [] [] []) = (AV.tup [AV.agg [I 0, I 0], I 2], H.mk [] [] [])) (by kernel_rfl) ?_
  refine ⟨acall_hit (c := c69h.to) ((o, r) : List Int × Room) _ rfl h, ?_⟩
  rfl
noncomputable def c39t : PCtr Try.prog := sctr ok39 (X := List Int × Room) (fun x => [ls x.1 x.2]) (fun x => (pI x.1 x.2 ∧ OrdL x.1) ∧ 1 ≤ (fO x.1).length) (fun x => .tup [.agg [I (mnA x.1.length (rel x.1) (fO x.1)).1, I (mnA x.1.length (rel x.1) (fO x.1)).2], I 0])
  (by rintro ⟨l, r⟩ ⟨m, s⟩ e _ _; simp at e; simp only [e.1]) (fun x => ls_wk _ _) (fun x => rfl) (fun x hx => ⟨_, _, _, .pure _ (.pure _ (.pure _ (.rd _ (c82r_reads _ _ ⟨hx.1.2.od, hx.1.2.s.2⟩) .nil))), r39t x.1 x.2.wk ⟨pI_wk hx.1.1, hx.1.2⟩ ⟨hx.1.2.od, hx.1.2.s.2⟩ hx.2⟩)
noncomputable def c39n : PCtr Try.prog := sctr ok39 (X := List Int × Room) (fun x => [ls x.1 x.2]) (fun x => (pI x.1 x.2 ∧ OrdL x.1) ∧ (fO x.1).length = 0) (fun x => .tup [.agg [I 0, I 0], I 4])
  (fun _ _ _ _ _ => rfl) (fun x => ls_wk _ _) (fun x => rfl) (fun x hx => ⟨_, _, _, .pure _ (.pure _ .nil), r39n x.1 x.2.wk ⟨pI_wk hx.1.1, hx.1.2⟩ hx.2⟩)
open Classical in
noncomputable def c39f : PCtr Try.prog := sctr ok39 (X := List Int × Room) (fun x => [ls x.1 x.2]) (fun x => pI x.1 x.2 ∧ ¬ OrdL x.1) (fun x => .tup [.agg [I 0, I 0], I 2])
  (fun _ _ _ _ _ => rfl) (fun x => ls_wk _ _) (fun x => rfl) (fun x hx => if h : sz x.1 ∧ rgO x.1 then ⟨_, _, _, .pure _ .nil, r39g x.1 x.2.wk ⟨pI_wk hx.1, h, hx.2⟩⟩ else ⟨_, _, _, .pure _ .nil, r39h x.1 x.2.wk ⟨pI_wk hx.1, h⟩⟩)
end Go.Proofs.Ord

