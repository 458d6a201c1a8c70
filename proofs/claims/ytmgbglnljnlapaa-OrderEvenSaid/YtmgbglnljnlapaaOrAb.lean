/- Layer 7: how even a pair is, by the program; the first of the most even. -/
import Derived.Test.YtmgbglnljnlapaaOrAa
import Derived.Test.YtmgbglnljnlapaaVm7
import Derived.KernelRfl
set_option linter.unusedSimpArgs false
set_option linter.unusedVariables false
set_option linter.unnecessarySimpa false
set_option maxHeartbeats 4000000
set_option maxRecDepth 100000
namespace Go.Proofs.Ord
open Go Go.VM
open Go.Proofs.Sur (andn andn_bit andn_le i_wrap i_and i_or i_andn i_shl i_shr bit_01)

/-- the lines with i before j -/
abbrev bf (A : Rel) (n i j : Nat) : Nat := ct (adR A i j) n (alls n)
theorem ok79 : FokM Try.prog none1 79 Try.f79 := ⟨mixed, by kernel_rfl, by kernel_rfl, by kernel_rfl, by kernel_rfl⟩
abbrev pF (n : Nat) (A : Rel) (i j : Nat) : Prop := pO n A ∧ (i < n ∧ j < n) ∧ Fr A i j
theorem r79 (n : Nat) (A : Rel) (i j : Nat) (h : pF n A i j) : Body (En6 [c102.to, c71.to, c75.to]) none1 Try.f79 [oA n A, I i, I j] .nil (I (bf A n i j : Nat), .nil) := by
  obtain ⟨hp, ⟨hi, hj⟩, hf⟩ := h
  have h6 := hp.2
  have p1 := p102 hp hj hi
  have b1 : bi (oo n A j) ((i : Int)).toNat = false := by
    rw [bi_oo hp hj]
    have := hf.2.2
    simp only [ab] at this
    simpa using this
  have hq : pO n (adR A i j) := ⟨ad_rg hp.1 hi hj, h6⟩
  refine body_s ([Ans.o (Orc.val 9 (AV.ptr 0 ((1 : Nat) + j)) H.nil), Ans.o (Orc.val 10 (I ((o7 n A).getD ((1 : Nat) + j) i0)) H.nil), Ans.o (Orc.val 12 (AV.bool false) (H.mk [ints (o7 n A)] [] [])), Ans.o (Orc.val 16 (AV.agg (ints (o7 n (adR A i j)))) (H.mk [ints (o7 n A)] [] [])), Ans.o (Orc.val 17 (I (↑(ct (adR A i j) n (alls n)) : Int)) (H.mk [ints (o7 n A)] [] []))]) (aIndexAddr Try.prog (77 : Nat) (AV.ptr 0 1) (I (↑j : Int)) = some (AV.ptr 0 ((1 : Nat) + j)) ∧ aLoad Try.prog (3 : Nat) (List.drop ((1 : Nat) + j) (ints (o7 n A))) = some (I ((o7 n A).getD ((1 : Nat) + j) i0)) ∧ aCall (Sof [c102.to, c71.to, c75.to]) (AV.fn (Fn.func (102 : Nat)) [] []) [I ((o7 n A).getD ((1 : Nat) + j) i0), I (↑i : Int)] (H.mk [ints (o7 n A)] [] []) = some (AV.bool false, H.mk [ints (o7 n A)] [] []) ∧ aCall (Sof [c102.to, c71.to, c75.to]) (AV.fn (Fn.func (71 : Nat)) [] []) [AV.agg [I (↑n : Int), I (↑(A (nat_lit 0)) : Int), I (↑(A (nat_lit 1)) : Int), I (↑(A (nat_lit 2)) : Int), I (↑(A (nat_lit 3)) : Int), I (↑(A (nat_lit 4)) : Int), I (↑(A (nat_lit 5)) : Int)], I (↑i : Int), I (↑j : Int)] (H.mk [ints (o7 n A)] [] []) = some (AV.agg (ints (o7 n (adR A i j))), H.mk [ints (o7 n A)] [] []) ∧ aCall (Sof [c102.to, c71.to, c75.to]) (AV.fn (Fn.func (75 : Nat)) [] []) [AV.agg (ints (o7 n (adR A i j)))] (H.mk [ints (o7 n A)] [] []) = some (I (↑(ct (adR A i j) n (alls n)) : Int), H.mk [ints (o7 n A)] [] []) ∧ (I (↑(ct (adR A i j) n (alls n)) : Int), H.mk [] [] []) = (I (↑(bf A n i j) : Int), H.mk [] [] [])) (by kernel_rfl) ?_
  refine ⟨ixa_map (n := 6) (by kernel_rfl) (by omega), ?_⟩
  refine ⟨by first | exact ld_ints (by kernel_rfl) (by kernel_rfl) (by omega) | exact ldm_ints (by kernel_rfl) (by kernel_rfl) (by first | omega | (simp; omega)), ?_⟩
  refine ⟨acall_b (acall_hit (c := c102.to) (oo n A j, (i : Int)) _ rfl p1) b1, ?_⟩
  refine ⟨acall_hit (c := c71.to) ((n, A), i, j) _ rfl ⟨hp, hi, hj⟩, ?_⟩
  refine ⟨acall_hit (c := c75.to) (n, adR A i j) _ rfl hq, ?_⟩
  rfl
noncomputable def c79 : PCtr Try.prog := sctr ok79 (X := (Nat × Rel) × Nat × Nat) (fun x => [oA x.1.1 x.1.2, I x.2.1, I x.2.2]) (fun x => pF x.1.1 x.1.2 x.2.1 x.2.2) (fun x => I (bf x.1.2 x.1.1 x.2.1 x.2.2 : Nat))
  (by
    rintro ⟨⟨n, A⟩, i, j⟩ ⟨⟨m, B⟩, k, l⟩ e hx hy
    simp only [List.cons.injEq, AV.int.injEq, true_and, and_true, Int.natCast_inj] at e
    obtain ⟨rfl, rfl⟩ := o_det e.1 hx.1.1 hy.1.1 hx.1.2
    obtain ⟨rfl, rfl⟩ := e.2; rfl) (fun x => bnd3 _ _ _ _) (fun _ => rfl) (fun x hx => ⟨_, _, _, .pure _ (.pure _ (.pure _ .nil)), r79 x.1.1 x.1.2 x.2.1 x.2.2 hx⟩)
/-- how far a pair is from even -/
def bs (A : Rel) (n i j : Nat) : Nat := max (bf A n i j) (bf A n j i) - min (bf A n i j) (bf A n j i)
theorem bf_sum {n : Nat} {A : Rel} (h : Od n A) (h6 : n ≤ 6) {i j : Nat} (hi : i < n) (hj : j < n) (hf : Fr A i j) : ct A n (alls n) = bf A n i j + bf A n j i :=
  ct_add h hf _ _ (Nat.le_refl _) (alls_big h6) (by rw [alls_bit]; exact decide_eq_true hi) (by rw [alls_bit]; exact decide_eq_true hj)
theorem ok84 : FokM Try.prog none1 84 Try.f84 := ⟨mixed, by kernel_rfl, by kernel_rfl, by kernel_rfl, by kernel_rfl⟩
theorem r84 (n : Nat) (A : Rel) (i j : Nat) (ho : Od n A) (h : pF n A i j) : Body (En6 [c79.to]) none1 Try.f84 [oA n A, .agg [I i, I j], I (ct A n (alls n) : Nat)] .nil (I (bs A n i j : Nat), .nil) := by
  have hs := bf_sum ho h.1.2 h.2.1.1 h.2.1.2 h.2.2
  have hle := ct_le (A := A) h.1.2 (alls_lt n)
  have ev0 : IntKind.i64.wrap (((ct A n (alls n) : Nat) : Int) - ((bf A n i j : Nat) : Int)) = ((bf A n j i : Nat) : Int) := by rw [wr _ (by omega) (by omega)]; omega
  have ev1 : IntKind.i64.wrap (pick2 true ((bf A n i j : Nat) : Int) ((bf A n j i : Nat) : Int) - pick2 false ((bf A n i j : Nat) : Int) ((bf A n j i : Nat) : Int)) = ((bs A n i j : Nat) : Int) := by
    have : pick2 true ((bf A n i j : Nat) : Int) ((bf A n j i : Nat) : Int) - pick2 false ((bf A n i j : Nat) : Int) ((bf A n j i : Nat) : Int) = ((bs A n i j : Nat) : Int) := by
      simp only [pick2, bs, if_true, Bool.false_eq_true, if_false]
      split <;> split <;> omega
    have hb : bs A n i j ≤ 46656 := by simp only [bs]; omega
    rw [this]; exact i_wrap (by omega)
  refine body_s ([Ans.o (Orc.val 13 (I (↑(bf A n i j) : Int)) (H.mk [ints (o7 n A), [I (↑i : Int), I (↑j : Int)]] [] [])), Ans.o (Orc.val 17 (I (↑(bf A n j i) : Int)) H.nil), Ans.o (Orc.val 22 (I (↑(bf A n j i) : Int)) H.nil), Ans.o (Orc.val 24 (I (↑(bs A n i j) : Int)) H.nil)]) (aCall (Sof [c79.to]) (AV.fn (Fn.func (79 : Nat)) [] []) [AV.agg [I (↑n : Int), I (↑(A (nat_lit 0)) : Int), I (↑(A (nat_lit 1)) : Int), I (↑(A (nat_lit 2)) : Int), I (↑(A (nat_lit 3)) : Int), I (↑(A (nat_lit 4)) : Int), I (↑(A (nat_lit 5)) : Int)], I (↑i : Int), I (↑j : Int)] (H.mk [ints (o7 n A), [I (↑i : Int), I (↑j : Int)]] [] []) = some (I (↑(bf A n i j) : Int), H.mk [ints (o7 n A), [I (↑i : Int), I (↑j : Int)]] [] []) ∧ aBin Try.prog BinOp.sub (3 : Nat) (I (↑(ct A n (alls n)) : Int)) (I (↑(bf A n i j) : Int)) = some (I (↑(bf A n j i) : Int)) ∧ aBin Try.prog BinOp.sub (3 : Nat) (I (↑(ct A n (alls n)) : Int)) (I (↑(bf A n i j) : Int)) = some (I (↑(bf A n j i) : Int)) ∧ aBin Try.prog BinOp.sub (3 : Nat) (I (pick2 true (↑(bf A n i j) : Int) (↑(bf A n j i) : Int))) (I (pick2 false (↑(bf A n i j) : Int) (↑(bf A n j i) : Int))) = some (I (↑(bs A n i j) : Int)) ∧ (I (↑(bs A n i j) : Int), H.mk [] [] []) = (I (↑(bs A n i j) : Int), H.mk [] [] [])) (by kernel_rfl) ?_
  refine ⟨acall_hit (c := c79.to) ((n, A), i, j) _ rfl h, ?_⟩
  refine ⟨told_sub (by with_reducible assumption), ?_⟩
  refine ⟨told_sub (by with_reducible assumption), ?_⟩
  refine ⟨told_sub (by with_reducible assumption), ?_⟩
  rfl
/-- free pairs -/
abbrev okp (A : Rel) (n : Nat) (p : Pr) : Prop := (0 ≤ p.1 ∧ p.1 < n) ∧ (0 ≤ p.2 ∧ p.2 < n) ∧ Fr A p.1.toNat p.2.toNat
abbrev bsP (A : Rel) (n : Nat) (p : Pr) : Nat := bs A n p.1.toNat p.2.toNat
theorem bnd84 (n : Nat) (A : Rel) (p : Pr) (c : Int) : AV.bnds 0 0 0 [AV.wk (oA n A), AV.wk (.agg [I p.1, I p.2]), AV.wk (I c)] = true := by simp [AV.bnds, AV.bnd, AV.wk]
noncomputable def c84 : PCtr Try.prog := sctr ok84 (X := (Nat × Rel) × Pr × Nat) (fun x => [oA x.1.1 x.1.2, .agg [I x.2.1.1, I x.2.1.2], I x.2.2]) (fun x => (Od x.1.1 x.1.2 ∧ x.1.1 ≤ 6) ∧ okp x.1.2 x.1.1 x.2.1 ∧ x.2.2 = ct x.1.2 x.1.1 (alls x.1.1)) (fun x => I (bsP x.1.2 x.1.1 x.2.1 : Nat))
  (by
    rintro ⟨⟨n, A⟩, ⟨i, j⟩, c⟩ ⟨⟨m, B⟩, ⟨k, l⟩, d⟩ e hx hy
    simp only [List.cons.injEq, AV.int.injEq, AV.agg.injEq, true_and, and_true, Int.natCast_inj] at e
    obtain ⟨rfl, rfl⟩ := o_det (by simp only [AV.agg.injEq]; exact e.1) hx.1.1.rg hy.1.1.rg hx.1.2
    obtain ⟨⟨rfl, rfl⟩, rfl⟩ := e.2; rfl) (fun x => bnd84 _ _ _ _) (fun _ => rfl) (fun x hx => by
      obtain ⟨⟨n, A⟩, ⟨i, j⟩, c⟩ := x
      obtain ⟨⟨ho, h6⟩, ⟨⟨h1, h2⟩, ⟨h3, h4⟩, h5⟩, hc⟩ := hx
      simp only at h1 h2 h3 h4 h5 ho h6 hc
      subst hc
      obtain ⟨a, rfl⟩ : ∃ a : Nat, i = a := ⟨i.toNat, by omega⟩
      obtain ⟨b, rfl⟩ : ∃ b : Nat, j = b := ⟨j.toNat, by omega⟩
      exact ⟨_, _, _, .pure _ .nil, r84 n A a b ho ⟨⟨ho.rg, h6⟩, ⟨by omega, by omega⟩, h5⟩⟩)
/-- the heap in which the closure is made -/
abbrev hE (n : Nat) (A : Rel) : H := ⟨[[I 0, I 0], ints (o7 n A), [I (ct A n (alls n) : Nat)]], [], []⟩
theorem hE_closed (n : Nat) (A : Rel) : (hE n A).closed := ⟨rfl, rfl, fun x hx => by
  simp only [List.mem_cons, List.not_mem_nil, or_false] at hx
  rcases hx with rfl | rfl | rfl
  · rfl
  · exact ints_bnds _ _ _ _
  · rfl⟩
noncomputable abbrev EnE (l : List (Ctr Try.prog)) (n : Nat) (A : Rel) : Env := ⟨Try.prog, Sof (P := Try.prog) l, Pof (P := Try.prog) [], (hE n A).base, 300⟩
theorem ok83 : FokM Try.prog none1 83 Try.f83 := ⟨mixed, by kernel_rfl, by kernel_rfl, by kernel_rfl, by kernel_rfl⟩
abbrev pD (n : Nat) (A : Rel) : Prop := Od n A ∧ n ≤ 6
theorem bsP_le {n : Nat} {A : Rel} (h : pD n A) {p : Pr} (hp : okp A n p) : bsP A n p ≤ 46656 := by
  have := bf_sum h.1 h.2 (i := p.1.toNat) (j := p.2.toNat) (by have := hp.1; omega) (by have := hp.2.1; omega) hp.2.2
  have := ct_le (A := A) h.2 (alls_lt n)
  simp only [bsP, bs]; omega
theorem r83 (n : Nat) (A : Rel) (h : pD n A) (p q : Pr) (hp : okp A n p) (hq : okp A n q) : Body (EnE [c84.to] n A) none1 Try.f83 [.agg [I p.1, I p.2], .agg [I q.1, I q.2], .ptr 1 0, .ptr 2 0] (hE n A) (I ((bsP A n p : Nat) - (bsP A n q : Nat)), hE n A) := by
  have b1 := bsP_le h hp
  have b2 := bsP_le h hq
  have ev0 : IntKind.i64.wrap (((bsP A n p : Nat) : Int) - ((bsP A n q : Nat) : Int)) = ((bsP A n p : Nat) : Int) - ((bsP A n q : Nat) : Int) := wr _ (by omega) (by omega)
  refine body_s ([Ans.o (Orc.val 10 (I (↑(bsP A n (p.fst, p.snd)) : Int)) (H.mk [[I 0, I 0], ints (o7 n A), [I (↑(ct A n (alls n)) : Int)], [I p.fst, I p.snd], [I q.fst, I q.snd]] [] [])), Ans.o (Orc.val 14 (I (↑(bsP A n (q.fst, q.snd)) : Int)) (H.mk [[I 0, I 0], ints (o7 n A), [I (↑(ct A n (alls n)) : Int)], [I p.fst, I p.snd], [I q.fst, I q.snd]] [] [])), Ans.o (Orc.val 15 (I ((↑(bsP A n p) : Int) - (↑(bsP A n q) : Int))) H.nil)]) (aCall (Sof [c84.to]) (AV.fn (Fn.func (84 : Nat)) [] []) [AV.agg [I (↑n : Int), I (↑(A (nat_lit 0)) : Int), I (↑(A (nat_lit 1)) : Int), I (↑(A (nat_lit 2)) : Int), I (↑(A (nat_lit 3)) : Int), I (↑(A (nat_lit 4)) : Int), I (↑(A (nat_lit 5)) : Int)], AV.agg [I p.fst, I p.snd], I (↑(ct A n (alls n)) : Int)] (H.mk [[I 0, I 0], ints (o7 n A), [I (↑(ct A n (alls n)) : Int)], [I p.fst, I p.snd], [I q.fst, I q.snd]] [] []) = some (I (↑(bsP A n (p.fst, p.snd)) : Int), H.mk [[I 0, I 0], ints (o7 n A), [I (↑(ct A n (alls n)) : Int)], [I p.fst, I p.snd], [I q.fst, I q.snd]] [] []) ∧ aCall (Sof [c84.to]) (AV.fn (Fn.func (84 : Nat)) [] []) [AV.agg [I (↑n : Int), I (↑(A (nat_lit 0)) : Int), I (↑(A (nat_lit 1)) : Int), I (↑(A (nat_lit 2)) : Int), I (↑(A (nat_lit 3)) : Int), I (↑(A (nat_lit 4)) : Int), I (↑(A (nat_lit 5)) : Int)], AV.agg [I q.fst, I q.snd], I (↑(ct A n (alls n)) : Int)] (H.mk [[I 0, I 0], ints (o7 n A), [I (↑(ct A n (alls n)) : Int)], [I p.fst, I p.snd], [I q.fst, I q.snd]] [] []) = some (I (↑(bsP A n (q.fst, q.snd)) : Int), H.mk [[I 0, I 0], ints (o7 n A), [I (↑(ct A n (alls n)) : Int)], [I p.fst, I p.snd], [I q.fst, I q.snd]] [] []) ∧ aBin Try.prog BinOp.sub (3 : Nat) (I (↑(bsP A n (p.fst, p.snd)) : Int)) (I (↑(bsP A n (q.fst, q.snd)) : Int)) = some (I ((↑(bsP A n p) : Int) - (↑(bsP A n q) : Int))) ∧ (I ((↑(bsP A n p) : Int) - (↑(bsP A n q) : Int)), H.mk [[I 0, I 0], ints (o7 n A), [I (↑(ct A n (alls n)) : Int)]] [] []) = (I ((↑(bsP A n p) : Int) - (↑(bsP A n q) : Int)), H.mk [[I 0, I 0], ints (o7 n A), [I (↑(ct A n (alls n)) : Int)]] [] [])) (by kernel_rfl) ?_
  refine ⟨by first | exact acall_hit (c := c84.to) ((n, A), p, ct A n (alls n)) _ rfl ⟨h, hp, rfl⟩ | exact acall_hit (c := c84.to) ((n, A), q, ct A n (alls n)) _ rfl ⟨h, hq, rfl⟩, ?_⟩
  refine ⟨by first | exact acall_hit (c := c84.to) ((n, A), p, ct A n (alls n)) _ rfl ⟨h, hp, rfl⟩ | exact acall_hit (c := c84.to) ((n, A), q, ct A n (alls n)) _ rfl ⟨h, hq, rfl⟩, ?_⟩
  refine ⟨told_sub (by with_reducible assumption), ?_⟩
  rfl
noncomputable def c83 (n : Nat) (A : Rel) (h : pD n A) : Ctr Try.prog :=
  fctr ok83 (hE n A) (X := Pr × Pr) (fun x => [.agg [I x.1.1, I x.1.2], .agg [I x.2.1, I x.2.2], .ptr 1 0, .ptr 2 0]) (fun x => okp A n x.1 ∧ okp A n x.2) (fun x => I ((bsP A n x.1 : Nat) - (bsP A n x.2 : Nat)))
    (by rintro ⟨⟨a, b⟩, c, d⟩ ⟨⟨a', b'⟩, c', d'⟩ e _ _; simp at e; simp [e]) (hE_closed n A) (fun _ _ => rfl) (fun _ _ => rfl) (fun x hx => ⟨_, _, _, .pure c84 .nil, r83 n A h x.1 x.2 hx.1 hx.2⟩)
theorem c83_reads (n : Nat) (A : Rel) (h : pD n A) : (c83 n A h).Reads := fctr_reads ..
/-- the first of the least -/
def mnL (b : Pr → Nat) (L : List Pr) : Nat → Pr
  | 0 => L.getD 0 pair0
  | k + 1 => if b (L.getD (k + 1) pair0) < b (mnL b L k) then L.getD (k + 1) pair0 else mnL b L k
theorem mnL_ok {b : Pr → Nat} {L : List Pr} {q : Pr → Prop} (h : ∀ k, k < L.length → q (L.getD k pair0)) : ∀ k, k < L.length → q (mnL b L k)
  | 0, hk => h 0 hk
  | k + 1, hk => by
    rw [mnL]; split
    · exact h _ hk
    · exact mnL_ok h k (by omega)
abbrev fE : AV := .fn (.func 83) [] [.ptr 1 0, .ptr 2 0]
abbrev hM (n : Nat) (A : Rel) (m : Pr) : H := ⟨[[I 0, I 0], ints (o7 n A), [I (ct A n (alls n) : Nat)], [I 0, I 0], [I m.1, I m.2]], [], []⟩
abbrev o82 (n : Nat) (A : Rel) (m : Pr) : List Out := [.mk Unit (.exit 0) [4, 5] (fun _ => True) (fun _ => [.ptr 3 0, .ptr 4 0]) (fun _ => hM n A m) (fun _ => [])]
theorem simp82 : allSimpleM none1 (loopAt Try.f82 0) = true := by kernel_rfl
theorem lp82 (n : Nat) (A : Rel) (h : pD n A) (L : List Pr) (r : Room) (hr : rok L r) (h1 : 1 ≤ L.length) (hl : L.length ≤ 40) (hL : ∀ k, k < L.length → okp A n (L.getD k pair0)) :
    LoopS (EnE [c83 n A h] n A) (loopAt Try.f82 0) 33 [0, 1, 4, 5, 6] [pz L r, fE, .ptr 3 0, .ptr 4 0, I 1] (hM n A (mnL (bsP A n) L 0)) (o82 n A (mnL (bsP A n) L (L.length - 1))) := by
  have hR : Rests (EnE [c83 n A h] n A) none1 := rests mixed (.rd _ (c83_reads n A h) .nil)
  refine loop_s hR simp82 none (by intro _ h; cases h) (fun k vs H => H = hM n A (mnL (bsP A n) L k) ∧ vs = [pz L r, fE, .ptr 3 0, .ptr 4 0, I (k + 1 : Nat)]) (L.length - 1) ⟨rfl, rfl⟩ (by intro _ h; cases h) ?_
  rintro k vs H hk ⟨rfl, rfl⟩
  by_cases hz : ((k + 1 : Nat) : Int) < L.length
  · have hz' : k + 1 < L.length := by omega
    have hr' := rok_idx hr hz'
    have ev0 := wj1 (j := k + 1) (by omega)
    have k1 := hL (k + 1) hz'
    have k2 := mnL_ok (b := bsP A n) hL k (by omega)
    have hs : mnL (bsP A n) L (k + 1) = if bsP A n (L.getD (k + 1) pair0) < bsP A n (mnL (bsP A n) L k) then L.getD (k + 1) pair0 else mnL (bsP A n) L k := rfl
    by_cases c1 : bsP A n (L.getD (k + 1) pair0) < bsP A n (mnL (bsP A n) L k)
    · rw [if_pos c1] at hs
      have c2 : ((bsP A n (L.getD (k + 1) pair0) : Nat) : Int) - ((bsP A n (mnL (bsP A n) L k) : Nat) : Int) < 0 := by omega
      refine ⟨[Ans.o (Orc.b true), Ans.o (Orc.val 23 (AV.cptr (pairsA (List.drop (k + (1 : Nat)) L))) H.nil), Ans.o (Orc.val 24 (AV.agg [I (L.getD (k + (1 : Nat)) pair0).fst, I (L.getD (k + (1 : Nat)) pair0).snd]) H.nil), Ans.o (Orc.val 26 (I ((↑(bsP A n ((L.getD (k + (1 : Nat)) pair0).fst, (L.getD (k + (1 : Nat)) pair0).snd)) : Int) - (↑(bsP A n ((mnL (bsP A n) L k).fst, (mnL (bsP A n) L k).snd)) : Int))) (H.mk [[I 0, I 0], ints (o7 n A), [I (↑(ct A n (alls n)) : Int)], [I 0, I 0], [I (mnL (bsP A n) L k).fst, I (mnL (bsP A n) L k).snd]] [] [])), Ans.o (Orc.b true), Ans.o (Orc.val 30 (AV.cptr (pairsA (List.drop (k + (1 : Nat)) L))) H.nil), Ans.o (Orc.val 31 (AV.agg [I (L.getD (k + (1 : Nat)) pair0).fst, I (L.getD (k + (1 : Nat)) pair0).snd]) H.nil), Ans.o (Orc.val 19 (I (↑(k + (1 : Nat) + (1 : Nat)) : Int)) H.nil)], fun u => of_eq ((↑(k + (1 : Nat)) : Int) < (↑L.length : Int) ∧ aIndexAddr Try.prog (22 : Nat) (AV.sl (pairsA L) L.length r) (I (↑(k + (1 : Nat)) : Int)) = some (AV.cptr (pairsA (List.drop (k + (1 : Nat)) L))) ∧ aLoad Try.prog (54 : Nat) (pairsA (List.drop (k + (1 : Nat)) L)) = some (AV.agg [I (L.getD (k + (1 : Nat)) pair0).fst, I (L.getD (k + (1 : Nat)) pair0).snd]) ∧ aCall (Sof [c83 n A h]) (AV.fn (Fn.func (83 : FuncId)) [] [AV.ptr 1 0, AV.ptr 2 0]) [AV.agg [I (L.getD (k + (1 : Nat)) pair0).fst, I (L.getD (k + (1 : Nat)) pair0).snd], AV.agg [I (mnL (bsP A n) L k).fst, I (mnL (bsP A n) L k).snd]] (H.mk [[I 0, I 0], ints (o7 n A), [I (↑(ct A n (alls n)) : Int)], [I 0, I 0], [I (mnL (bsP A n) L k).fst, I (mnL (bsP A n) L k).snd]] [] []) = some (I ((↑(bsP A n ((L.getD (k + (1 : Nat)) pair0).fst, (L.getD (k + (1 : Nat)) pair0).snd)) : Int) - (↑(bsP A n ((mnL (bsP A n) L k).fst, (mnL (bsP A n) L k).snd)) : Int)), H.mk [[I 0, I 0], ints (o7 n A), [I (↑(ct A n (alls n)) : Int)], [I 0, I 0], [I (mnL (bsP A n) L k).fst, I (mnL (bsP A n) L k).snd]] [] []) ∧ (↑(bsP A n ((L.getD (k + (1 : Nat)) pair0).fst, (L.getD (k + (1 : Nat)) pair0).snd)) : Int) - (↑(bsP A n ((mnL (bsP A n) L k).fst, (mnL (bsP A n) L k).snd)) : Int) < (0 : Int) ∧ aIndexAddr Try.prog (22 : Nat) (AV.sl (pairsA L) L.length r) (I (↑(k + (1 : Nat)) : Int)) = some (AV.cptr (pairsA (List.drop (k + (1 : Nat)) L))) ∧ aLoad Try.prog (54 : Nat) (pairsA (List.drop (k + (1 : Nat)) L)) = some (AV.agg [I (L.getD (k + (1 : Nat)) pair0).fst, I (L.getD (k + (1 : Nat)) pair0).snd]) ∧ aBin Try.prog BinOp.add (3 : Nat) (I (↑(k + (1 : Nat)) : Int)) (I 1) = some (I (↑(k + (1 : Nat) + (1 : Nat)) : Int)) ∧ (33 : Nat) = (33 : Nat) ∧ k < L.length - (1 : Nat) ∧ Keep (H.mk [[I 0, I 0], ints (o7 n A), [I (↑(ct A n (alls n)) : Int)], [I 0, I 0], [I (L.getD (k + (1 : Nat)) pair0).fst, I (L.getD (k + (1 : Nat)) pair0).snd]] [] [] = H.mk [[I 0, I 0], ints (o7 n A), [I (↑(ct A n (alls n)) : Int)], [I 0, I 0], [I (mnL (bsP A n) L (k + (1 : Nat))).fst, I (mnL (bsP A n) L (k + (1 : Nat))).snd]] [] [] ∧ [AV.sl (pairsA L) L.length r, AV.fn (Fn.func (83 : FuncId)) [] [AV.ptr 1 0, AV.ptr 2 0], AV.ptr 3 0, AV.ptr 4 0, I (↑(k + (1 : Nat) + (1 : Nat)) : Int)] = [AV.sl (pairsA L) L.length r, AV.fn (Fn.func (83 : FuncId)) [] [AV.ptr 1 0, AV.ptr 2 0], AV.ptr 3 0, AV.ptr 4 0, I (↑(k + (1 : Nat) + (1 : Nat)) : Int)])) (by kernel_rfl) ?_⟩
      refine ⟨by first | with_reducible assumption | omega | assumption, ?_⟩
      refine ⟨ix_pairs (by kernel_rfl) hz' hr', ?_⟩
      refine ⟨ld_pairs (by kernel_rfl) (by kernel_rfl) (by kernel_rfl) (by omega), ?_⟩
      refine ⟨acall_hit (c := c83 n A h) (L.getD (k + 1) pair0, mnL (bsP A n) L k) _ rfl ⟨⟨k1, k2⟩, _, rfl⟩, ?_⟩
      refine ⟨by first | with_reducible assumption | omega | assumption, ?_⟩
      refine ⟨ix_pairs (by kernel_rfl) hz' hr', ?_⟩
      refine ⟨ld_pairs (by kernel_rfl) (by kernel_rfl) (by kernel_rfl) (by omega), ?_⟩
      refine ⟨told_add (by with_reducible assumption), ?_⟩
      refine ⟨by first | with_reducible assumption | omega | assumption, ?_⟩
      refine ⟨by first | with_reducible assumption | omega | assumption, ?_⟩
      exact ⟨by rw [hs], rfl⟩
    · rw [if_neg c1] at hs
      have c2 : 0 ≤ ((bsP A n (L.getD (k + 1) pair0) : Nat) : Int) - ((bsP A n (mnL (bsP A n) L k) : Nat) : Int) := by omega
      refine ⟨[Ans.o (Orc.b true), Ans.o (Orc.val 23 (AV.cptr (pairsA (List.drop (k + (1 : Nat)) L))) H.nil), Ans.o (Orc.val 24 (AV.agg [I (L.getD (k + (1 : Nat)) pair0).fst, I (L.getD (k + (1 : Nat)) pair0).snd]) H.nil), Ans.o (Orc.val 26 (I ((↑(bsP A n ((L.getD (k + (1 : Nat)) pair0).fst, (L.getD (k + (1 : Nat)) pair0).snd)) : Int) - (↑(bsP A n ((mnL (bsP A n) L k).fst, (mnL (bsP A n) L k).snd)) : Int))) (H.mk [[I 0, I 0], ints (o7 n A), [I (↑(ct A n (alls n)) : Int)], [I 0, I 0], [I (mnL (bsP A n) L k).fst, I (mnL (bsP A n) L k).snd]] [] [])), Ans.o (Orc.b false), Ans.o (Orc.val 19 (I (↑(k + (1 : Nat) + (1 : Nat)) : Int)) H.nil)], fun u => of_eq ((↑(k + (1 : Nat)) : Int) < (↑L.length : Int) ∧ aIndexAddr Try.prog (22 : Nat) (AV.sl (pairsA L) L.length r) (I (↑(k + (1 : Nat)) : Int)) = some (AV.cptr (pairsA (List.drop (k + (1 : Nat)) L))) ∧ aLoad Try.prog (54 : Nat) (pairsA (List.drop (k + (1 : Nat)) L)) = some (AV.agg [I (L.getD (k + (1 : Nat)) pair0).fst, I (L.getD (k + (1 : Nat)) pair0).snd]) ∧ aCall (Sof [c83 n A h]) (AV.fn (Fn.func (83 : FuncId)) [] [AV.ptr 1 0, AV.ptr 2 0]) [AV.agg [I (L.getD (k + (1 : Nat)) pair0).fst, I (L.getD (k + (1 : Nat)) pair0).snd], AV.agg [I (mnL (bsP A n) L k).fst, I (mnL (bsP A n) L k).snd]] (H.mk [[I 0, I 0], ints (o7 n A), [I (↑(ct A n (alls n)) : Int)], [I 0, I 0], [I (mnL (bsP A n) L k).fst, I (mnL (bsP A n) L k).snd]] [] []) = some (I ((↑(bsP A n ((L.getD (k + (1 : Nat)) pair0).fst, (L.getD (k + (1 : Nat)) pair0).snd)) : Int) - (↑(bsP A n ((mnL (bsP A n) L k).fst, (mnL (bsP A n) L k).snd)) : Int)), H.mk [[I 0, I 0], ints (o7 n A), [I (↑(ct A n (alls n)) : Int)], [I 0, I 0], [I (mnL (bsP A n) L k).fst, I (mnL (bsP A n) L k).snd]] [] []) ∧ (0 : Int) ≤ (↑(bsP A n ((L.getD (k + (1 : Nat)) pair0).fst, (L.getD (k + (1 : Nat)) pair0).snd)) : Int) - (↑(bsP A n ((mnL (bsP A n) L k).fst, (mnL (bsP A n) L k).snd)) : Int) ∧ aBin Try.prog BinOp.add (3 : Nat) (I (↑(k + (1 : Nat)) : Int)) (I 1) = some (I (↑(k + (1 : Nat) + (1 : Nat)) : Int)) ∧ (33 : Nat) = (33 : Nat) ∧ k < L.length - (1 : Nat) ∧ Keep (H.mk [[I 0, I 0], ints (o7 n A), [I (↑(ct A n (alls n)) : Int)], [I 0, I 0], [I (mnL (bsP A n) L k).fst, I (mnL (bsP A n) L k).snd]] [] [] = H.mk [[I 0, I 0], ints (o7 n A), [I (↑(ct A n (alls n)) : Int)], [I 0, I 0], [I (mnL (bsP A n) L (k + (1 : Nat))).fst, I (mnL (bsP A n) L (k + (1 : Nat))).snd]] [] [] ∧ [AV.sl (pairsA L) L.length r, AV.fn (Fn.func (83 : FuncId)) [] [AV.ptr 1 0, AV.ptr 2 0], AV.ptr 3 0, AV.ptr 4 0, I (↑(k + (1 : Nat) + (1 : Nat)) : Int)] = [AV.sl (pairsA L) L.length r, AV.fn (Fn.func (83 : FuncId)) [] [AV.ptr 1 0, AV.ptr 2 0], AV.ptr 3 0, AV.ptr 4 0, I (↑(k + (1 : Nat) + (1 : Nat)) : Int)])) (by kernel_rfl) ?_⟩
      refine ⟨by first | with_reducible assumption | omega | assumption, ?_⟩
      refine ⟨ix_pairs (by kernel_rfl) hz' hr', ?_⟩
      refine ⟨ld_pairs (by kernel_rfl) (by kernel_rfl) (by kernel_rfl) (by omega), ?_⟩
      refine ⟨acall_hit (c := c83 n A h) (L.getD (k + 1) pair0, mnL (bsP A n) L k) _ rfl ⟨⟨k1, k2⟩, _, rfl⟩, ?_⟩
      refine ⟨by first | with_reducible assumption | omega | assumption, ?_⟩
      refine ⟨told_add (by with_reducible assumption), ?_⟩
      refine ⟨by first | with_reducible assumption | omega | assumption, ?_⟩
      refine ⟨by first | with_reducible assumption | omega | assumption, ?_⟩
      exact ⟨by rw [hs], rfl⟩
  · have hz : (L.length : Int) ≤ ((k + 1 : Nat) : Int) := by omega
    have hk' : k = L.length - 1 := by omega
    subst hk'
    refine ⟨[Ans.o (Orc.b false)], fun u => of_eq ((↑L.length : Int) ≤ (↑(L.length - (1 : Nat) + (1 : Nat)) : Int) ∧ (33 : Nat) = (33 : Nat) ∧ hits [Out.mk Unit (AX.exit (0 : Nat)) [(4 : Nat), (5 : Nat)] (fun x => True) (fun x => [AV.ptr 3 0, AV.ptr 4 0]) (fun x => hM n A (mnL (bsP A n) L (L.length - (1 : Nat)))) fun x => []] (AX.exit (0 : Nat)) [AV.sl (pairsA L) L.length r, AV.fn (Fn.func (83 : FuncId)) [] [AV.ptr 1 0, AV.ptr 2 0], u (2 : Nat), u (3 : Nat), AV.ptr 3 0, AV.ptr 4 0, I (↑(L.length - (1 : Nat) + (1 : Nat)) : Int), u (7 : Nat), u (8 : Nat), u (9 : Nat), u (10 : Nat), u (11 : Nat), u (12 : Nat), u (13 : Nat), I (↑(L.length - (1 : Nat) + (1 : Nat)) : Int), AV.sl (pairsA L) L.length r, I (↑L.length : Int), AV.bool false, u (18 : Nat), u (19 : Nat), u (20 : Nat), u (21 : Nat), u (22 : Nat), u (23 : Nat), u (24 : Nat), u (25 : Nat), u (26 : Nat), u (27 : Nat), u (28 : Nat), u (29 : Nat), u (30 : Nat), u (31 : Nat), u (32 : Nat)] (H.mk [[I 0, I 0], ints (o7 n A), [I (↑(ct A n (alls n)) : Int)], [I 0, I 0], [I (mnL (bsP A n) L (L.length - (1 : Nat))).fst, I (mnL (bsP A n) L (L.length - (1 : Nat))).snd]] [] [])) (by kernel_rfl) ?_⟩
    refine ⟨by first | with_reducible assumption | omega | assumption, ?_⟩
    refine ⟨by first | with_reducible assumption | omega | assumption, ?_⟩
    exact .inl ⟨(), trivial, rfl, rfl, rfl⟩
end Go.Proofs.Ord

