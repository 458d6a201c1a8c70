/- Layer 7: free elements, cycles, closures. -/
import Derived.Test.YtmgbglnljnlapaaOrA
import Derived.KernelRfl
set_option linter.unusedSimpArgs false
set_option linter.unusedVariables false
set_option linter.unnecessarySimpa false
set_option maxHeartbeats 4000000
set_option maxRecDepth 100000
namespace Go.Proofs.Ord
open Go Go.VM
open Go.Proofs.Sur (andn andn_bit andn_le i_wrap i_and i_or i_andn i_shl i_shr bit_01)

theorem oA_wk (n : Nat) (A : Rel) : AV.bnds 0 0 0 [AV.wk (oA n A)] = true := by simp [AV.bnds, AV.bnd, AV.wk]
abbrev pO (n : Nat) (A : Rel) : Prop := Rg n A ∧ n ≤ 6
noncomputable def c87 : PCtr Try.prog := sctr ok87 (X := Nat × Rel) (fun x => [oA x.1 x.2]) (fun x => pO x.1 x.2) (fun x => I (alls x.1 : Nat))
  (by rintro ⟨n, A⟩ ⟨m, B⟩ e hx hy; obtain ⟨rfl, rfl⟩ := o_det (List.cons.inj e).1 hx.1 hy.1 hx.2; rfl) (fun x => oA_wk _ _) (fun _ => rfl) (fun x hx => ⟨_, _, _, .nil, r87 x.1 x.2 hx.2⟩)
theorem ok65 : FokM Try.prog none1 65 Try.f65 := ⟨mixed, by kernel_rfl, by kernel_rfl, by kernel_rfl, by kernel_rfl⟩
theorem bnd3 (n : Nat) (A : Rel) (i j : Int) : AV.bnds 0 0 0 [AV.wk (oA n A), AV.wk (I i), AV.wk (I j)] = true := by simp [AV.bnds, AV.bnd, AV.wk]
noncomputable def c65 : PCtr Try.prog := sctr ok65 (X := (Nat × Rel) × Int × Int) (fun x => [oA x.1.1 x.1.2, I x.2.1, I x.2.2]) (fun x => pO x.1.1 x.1.2) (fun x => .bool (decide ((0 ≤ x.2.1 ∧ x.2.1 < x.1.1) ∧ 0 ≤ x.2.2 ∧ x.2.2 < x.1.1)))
  (by
    rintro ⟨⟨n, A⟩, i, j⟩ ⟨⟨m, B⟩, k, l⟩ e hx hy
    simp only [List.cons.injEq, AV.int.injEq, true_and, and_true] at e
    obtain ⟨rfl, rfl⟩ := o_det e.1 hx.1 hy.1 hx.2
    obtain ⟨rfl, rfl⟩ := e.2; rfl) (fun x => bnd3 _ _ _ _) (fun _ => rfl) (fun x hx => ⟨_, _, _, .nil, r65 x.1.1 x.1.2 x.2.1 x.2.2⟩)
theorem p102 {n : Nat} {A : Rel} (h : pO n A) {i j : Nat} (hi : i < n) (hj : j < n) : (0 ≤ oo n A i ∧ oo n A i < 9223372036854775808) ∧ 0 ≤ (j : Int) ∧ (j : Int) ≤ 64 := by
  have := oo_b h.1 h.2 hi
  have := h.2
  omega
theorem bi_oo {n : Nat} {A : Rel} (h : pO n A) {i j : Nat} (hi : i < n) : bi (oo n A i) ((j : Int)).toNat = (A i).testBit j := by
  rw [(oo_b h.1 h.2 hi).1]; rfl
abbrev b7 (n : Nat) (A : Rel) : H := ⟨[ints (o7 n A)], [], []⟩
/-- no element is above itself, of the first ones -/
abbrev ir (A : Rel) (j : Nat) : Prop := ∀ i, i < j → (A i).testBit i = false
theorem ir_succ {A : Rel} {j : Nat} (h : ir A j) (k : (A j).testBit j = false) : ir A (j + 1) := fun i hi => by
  rcases Nat.lt_or_ge i j with q | q
  · exact h i q
  · have : i = j := by omega
    subst this; exact k
theorem wj1 {j : Nat} (h : j < 100) : IntKind.i64.wrap ((j : Int) + 1) = ((j + 1 : Nat) : Int) := by rw [wr _ (by omega) (by omega)]; omega
abbrev o67 (n : Nat) (A : Rel) : List Out :=
  [.mk Nat .ret [2] (fun i => i < n ∧ (A i).testBit i = true) (fun _ => [.bool true]) (fun _ => b7 n A) (fun _ => []), .mk Unit (.exit 0) [1] (fun _ => ir A n) (fun _ => [.ptr 0 0]) (fun _ => b7 n A) (fun _ => [])]
theorem simp67 : allSimpleM none1 (loopAt Try.f67 0) = true := by kernel_rfl
theorem lp67 (n : Nat) (A : Rel) (h : pO n A) : LoopS (En6 [c102.to]) (loopAt Try.f67 0) 16 [1, 5, 6] [.ptr 0 0, I n, I 0] (b7 n A) (o67 n A) := by
  have hR : Rests (En6 [c102.to]) none1 := rests mixed (.pure _ .nil)
  have h6 := h.2
  refine loop_s hR simp67 none (by intro _ h; cases h) (fun j vs H => H = b7 n A ∧ vs = [.ptr 0 0, I n, I j] ∧ ir A j) n ⟨rfl, rfl, fun i hi => absurd hi (Nat.not_lt_zero _)⟩ (by intro _ h; cases h) ?_
  rintro j vs H hj ⟨rfl, rfl, ha⟩
  by_cases hz : (j : Int) < n
  · have hz' : j < n := by omega
    have p1 := p102 h hz' hz'
    have q1 := bi_oo h (j := j) hz'
    have ev0 := wj1 (j := j) (by omega)
    cases b1 : bi (oo n A j) ((j : Int)).toNat
    · have hk := ir_succ ha (q1.symm.trans b1)
      refine ⟨[Ans.o (Orc.b true), Ans.o (Orc.val 11 (AV.ptr 0 ((1 : Nat) + j)) H.nil), Ans.o (Orc.val 12 (I ((o7 n A).getD ((1 : Nat) + j) i0)) H.nil), Ans.o (Orc.val 14 (AV.bool false) (H.mk [ints (o7 n A)] [] [])), Ans.o (Orc.val 15 (I (↑(j + (1 : Nat)) : Int)) H.nil)], fun u => of_eq ((↑j : Int) < (↑n : Int) ∧ aIndexAddr Try.prog (77 : Nat) (AV.ptr 0 1) (I (↑j : Int)) = some (AV.ptr 0 ((1 : Nat) + j)) ∧ aLoad Try.prog (3 : Nat) (List.drop ((1 : Nat) + j) (ints (o7 n A))) = some (I ((o7 n A).getD ((1 : Nat) + j) i0)) ∧ aCall (Sof [c102.to]) (AV.fn (Fn.func (102 : Nat)) [] []) [I ((o7 n A).getD ((1 : Nat) + j) i0), I (↑j : Int)] (H.mk [ints (o7 n A)] [] []) = some (AV.bool false, H.mk [ints (o7 n A)] [] []) ∧ aBin Try.prog BinOp.add (3 : Nat) (I (↑j : Int)) (I 1) = some (I (↑(j + (1 : Nat)) : Int)) ∧ (16 : Nat) = (16 : Nat) ∧ j < n ∧ Keep (H.mk [ints (o7 n A)] [] [] = H.mk [ints (o7 n A)] [] [] ∧ [AV.ptr 0 0, I (↑n : Int), I (↑(j + (1 : Nat)) : Int)] = [AV.ptr 0 0, I (↑n : Int), I (↑(j + (1 : Nat)) : Int)] ∧ ir A (j + (1 : Nat)))) (by kernel_rfl) ?_⟩
      refine ⟨by first | with_reducible assumption | omega | assumption, ?_⟩
      refine ⟨ixa_map (n := 6) (by kernel_rfl) (by omega), ?_⟩
      refine ⟨by first | exact ld_ints (by kernel_rfl) (by kernel_rfl) (by omega) | exact ldm_ints (by kernel_rfl) (by kernel_rfl) (by first | omega | (simp; omega)), ?_⟩
      refine ⟨acall_b (acall_hit (c := c102.to) (oo n A j, (j : Int)) _ rfl p1) b1, ?_⟩
      refine ⟨told_add (by with_reducible assumption), ?_⟩
      refine ⟨by first | with_reducible assumption | omega | assumption, ?_⟩
      refine ⟨by first | with_reducible assumption | omega | assumption, ?_⟩
      exact ⟨rfl, rfl, hk⟩
    · have hk := q1.symm.trans b1
      refine ⟨[Ans.o (Orc.b true), Ans.o (Orc.val 11 (AV.ptr 0 ((1 : Nat) + j)) H.nil), Ans.o (Orc.val 12 (I ((o7 n A).getD ((1 : Nat) + j) i0)) H.nil), Ans.o (Orc.val 14 (AV.bool true) (H.mk [ints (o7 n A)] [] []))], fun u => of_eq ((↑j : Int) < (↑n : Int) ∧ aIndexAddr Try.prog (77 : Nat) (AV.ptr 0 1) (I (↑j : Int)) = some (AV.ptr 0 ((1 : Nat) + j)) ∧ aLoad Try.prog (3 : Nat) (List.drop ((1 : Nat) + j) (ints (o7 n A))) = some (I ((o7 n A).getD ((1 : Nat) + j) i0)) ∧ aCall (Sof [c102.to]) (AV.fn (Fn.func (102 : Nat)) [] []) [I ((o7 n A).getD ((1 : Nat) + j) i0), I (↑j : Int)] (H.mk [ints (o7 n A)] [] []) = some (AV.bool true, H.mk [ints (o7 n A)] [] []) ∧ (16 : Nat) = (16 : Nat) ∧ hits [Out.mk Nat AX.ret [(2 : Nat)] (fun i => i < n ∧ (A i).testBit i = true) (fun x => [AV.bool true]) (fun x => b7 n A) fun x => [], Out.mk Unit (AX.exit (0 : Nat)) [(1 : Nat)] (fun x => ir A n) (fun x => [AV.ptr 0 0]) (fun x => b7 n A) fun x => []] AX.ret [u (0 : Nat), AV.ptr 0 0, AV.bool true, I (↑j : Int), u (4 : Nat), I (↑n : Int), I (↑j : Int), AV.bool true, I (↑j : Int), I (↑j : Int), AV.ptr 0 1, AV.ptr 0 ((1 : Nat) + j), I ((o7 n A).getD ((1 : Nat) + j) i0), I (↑j : Int), AV.bool true, u (15 : Nat)] (H.mk [ints (o7 n A)] [] [])) (by kernel_rfl) ?_⟩
      refine ⟨by first | with_reducible assumption | omega | assumption, ?_⟩
      refine ⟨ixa_map (n := 6) (by kernel_rfl) (by omega), ?_⟩
      refine ⟨by first | exact ld_ints (by kernel_rfl) (by kernel_rfl) (by omega) | exact ldm_ints (by kernel_rfl) (by kernel_rfl) (by first | omega | (simp; omega)), ?_⟩
      refine ⟨acall_b (acall_hit (c := c102.to) (oo n A j, (j : Int)) _ rfl p1) b1, ?_⟩
      refine ⟨by first | with_reducible assumption | omega | assumption, ?_⟩
      exact .inl ⟨j, ⟨hz', hk⟩, rfl, rfl, rfl⟩
  · have hz : (n : Int) ≤ j := by omega
    have hj' : j = n := by omega
    subst hj'
    refine ⟨[Ans.o (Orc.b false)], fun u => of_eq ((↑j : Int) ≤ (↑j : Int) ∧ (16 : Nat) = (16 : Nat) ∧ hits [Out.mk Nat AX.ret [(2 : Nat)] (fun i => i < j ∧ (A i).testBit i = true) (fun x => [AV.bool true]) (fun x => b7 j A) fun x => [], Out.mk Unit (AX.exit (0 : Nat)) [(1 : Nat)] (fun x => ir A j) (fun x => [AV.ptr 0 0]) (fun x => b7 j A) fun x => []] (AX.exit (0 : Nat)) [u (0 : Nat), AV.ptr 0 0, u (2 : Nat), u (3 : Nat), u (4 : Nat), I (↑j : Int), I (↑j : Int), AV.bool false, u (8 : Nat), u (9 : Nat), u (10 : Nat), u (11 : Nat), u (12 : Nat), u (13 : Nat), u (14 : Nat), u (15 : Nat)] (H.mk [ints (o7 j A)] [] [])) (by kernel_rfl) ?_⟩
    refine ⟨by first | with_reducible assumption | omega | assumption, ?_⟩
    refine ⟨by first | with_reducible assumption | omega | assumption, ?_⟩
    exact .inr (.inl ⟨(), ha, rfl, rfl, rfl⟩)
open Classical in
noncomputable def cyB (A : Rel) : Bool := decide (¬ Irr A)
theorem cy_t {A : Rel} {i : Nat} (h : (A i).testBit i = true) : cyB A = true := by simp only [cyB, decide_eq_true_eq]; exact fun k => k i h
theorem cy_f {n : Nat} {A : Rel} (hr : Rg n A) (h : ir A n) : cyB A = false := by
  simp only [cyB, decide_eq_false_iff_not, Classical.not_not]
  intro i k
  have := h i (hr.bit k).1
  simp only [ab] at k
  rw [this] at k; cases k
theorem ok67 : FokM Try.prog none1 67 Try.f67 := ⟨mixed, by kernel_rfl, by kernel_rfl, by kernel_rfl, by kernel_rfl⟩
theorem r67 (n : Nat) (A : Rel) (h : pO n A) : Body (En6 [c102.to]) none1 Try.f67 [oA n A] .nil (.bool (cyB A), .nil) := by
  have hl := lp67 n A h
  refine body_s ([Ans.loop [(1 : Nat), (5 : Nat), (6 : Nat)] [Out.mk Nat AX.ret [(2 : Nat)] (fun i => i < n ∧ (A i).testBit i = true) (fun x => [AV.bool true]) (fun x => b7 n A) fun y => [], Out.mk Unit (AX.exit (0 : Nat)) [(1 : Nat)] (fun x => ir A n) (fun x => [AV.ptr 0 0]) (fun x => b7 n A) fun y => []]]) (LoopS (Env.mk Try.prog (Sof [c102.to]) (Pof (P := Try.prog) []) H.nil.base (300 : Nat)) (loopAt Try.f67 (0 : Nat)) (16 : Nat) [(1 : Nat), (5 : Nat), (6 : Nat)] [AV.ptr 0 0, I (↑n : Int), I 0] (H.mk [ints (o7 n A)] [] []) [Out.mk Nat AX.ret [(2 : Nat)] (fun i => i < n ∧ (A i).testBit i = true) (fun x => [AV.bool true]) (fun x => b7 n A) fun y => [], Out.mk Unit (AX.exit (0 : Nat)) [(1 : Nat)] (fun x => ir A n) (fun x => [AV.ptr 0 0]) (fun x => b7 n A) fun y => []] ∧ (∀ (y : Nat), y < n ∧ (A y).testBit y = true → ∀ (u : Nat → AV), (AV.bool true, H.mk [] [] []) = (AV.bool (cyB A), H.mk [] [] [])) ∧ (∀ (y : Unit), (∀ (i : Nat), i < n → (A i).testBit i = false) → ∀ (u : Nat → AV), (AV.bool false, H.mk [] [] []) = (AV.bool (cyB A), H.mk [] [] [])) ∧ True) (by kernel_rfl) ?_
  refine ⟨hl, ?_⟩
  refine And.intro ?_ ?_
  · skip
    intro y
    intro w1
    intro u
    first | rw [cy_t (w1).2] | rw [cy_f h.1 (by assumption)]
  · skip
    refine And.intro ?_ ?_
    · skip
      intro y
      intro w1
      intro u
      first | rw [cy_t (w1).2] | rw [cy_f h.1 (by assumption)]
    · skip
      trivial
noncomputable def c67 : PCtr Try.prog := sctr ok67 (X := Nat × Rel) (fun x => [oA x.1 x.2]) (fun x => pO x.1 x.2) (fun x => .bool (cyB x.2))
  (by rintro ⟨n, A⟩ ⟨m, B⟩ e hx hy; obtain ⟨rfl, rfl⟩ := o_det (List.cons.inj e).1 hx.1 hy.1 hx.2; rfl) (fun x => oA_wk _ _) (fun _ => rfl) (fun x hx => ⟨_, _, _, .pure _ .nil, r67 x.1 x.2 hx⟩)
end Go.Proofs.Ord

