/- Layer 4: how many concepts: by a table of bytes. -/
import Derived.Test.YtdnidpojcocklaaDoorLnG
import Derived.KernelRfl
set_option linter.unusedSimpArgs false
set_option linter.unusedVariables false
set_option linter.unnecessarySimpa false
set_option maxHeartbeats 4000000
set_option maxRecDepth 100000
namespace Go.Proofs.Lrn
open Go Go.VM

def p8s : ByteArray := ⟨#[0, 1, 1, 2, 1, 2, 2, 3, 1, 2, 2, 3, 2, 3, 3, 4, 1, 2, 2, 3, 2, 3, 3, 4, 2, 3, 3, 4, 3, 4, 4, 5, 1, 2, 2, 3, 2, 3, 3, 4, 2, 3, 3, 4, 3, 4, 4, 5, 2, 3, 3, 4, 3, 4, 4, 5, 3, 4, 4, 5, 4, 5, 5, 6, 1, 2, 2, 3, 2, 3, 3, 4, 2, 3, 3, 4, 3, 4, 4, 5, 2, 3, 3, 4, 3, 4, 4, 5, 3, 4, 4, 5, 4, 5, 5, 6, 2, 3, 3, 4, 3, 4, 4, 5, 3, 4, 4, 5, 4, 5, 5, 6, 3, 4, 4, 5, 4, 5, 5, 6, 4, 5, 5, 6, 5, 6, 6, 7, 1, 2, 2, 3, 2, 3, 3, 4, 2, 3, 3, 4, 3, 4, 4, 5, 2, 3, 3, 4, 3, 4, 4, 5, 3, 4, 4, 5, 4, 5, 5, 6, 2, 3, 3, 4, 3, 4, 4, 5, 3, 4, 4, 5, 4, 5, 5, 6, 3, 4, 4, 5, 4, 5, 5, 6, 4, 5, 5, 6, 5, 6, 6, 7, 2, 3, 3, 4, 3, 4, 4, 5, 3, 4, 4, 5, 4, 5, 5, 6, 3, 4, 4, 5, 4, 5, 5, 6, 4, 5, 5, 6, 5, 6, 6, 7, 3, 4, 4, 5, 4, 5, 5, 6, 4, 5, 5, 6, 5, 6, 6, 7, 4, 5, 5, 6, 5, 6, 6, 7, 5, 6, 6, 7, 6, 7, 7, 8]⟩
theorem cb_le (f : Nat → Bool) : ∀ n, cb f n ≤ n
  | 0 => Nat.le_refl 0
  | n + 1 => by have := cb_le f n; simp only [cb]; cases f n <;> simp <;> omega
theorem p8_all : ((List.range 256).all fun n => strAt p8s (n : Int) == (cb (fun i => n.testBit i) 8 : Nat)) = true := by kernel_rfl
theorem p8_at {n : Nat} (h : n < 256) : strAt p8s (n : Int) = (cb (fun i => n.testBit i) 8 : Nat) := by
  simpa using List.all_eq_true.1 p8_all n (List.mem_range.2 h)
theorem fd (N k : Nat) : (N : Int).fdiv (k : Int) = ((N / k : Nat) : Int) := by
  rw [Int.fdiv_eq_ediv_of_nonneg _ (by omega)]; simp
theorem and255 {n : Nat} (h : n < 4294967296) : IntKind.u32.wrap ((BitVec.ofInt IntKind.u32.bits (n : Int) &&& BitVec.ofInt IntKind.u32.bits (255 : Int)).toNat : Int) = ((n % 256 : Nat) : Int) := by
  have e := u_and2 (BitVec.ofNat 32 n) 255#32
  have e1 : (BitVec.ofNat 32 n).toNat = n := by rw [BitVec.toNat_ofNat]; exact Nat.mod_eq_of_lt h
  rw [e1] at e
  have e2 : (BitVec.ofNat 32 n &&& 255#32).toNat = n % 256 := by
    rw [BitVec.toNat_and, e1]
    exact Nat.and_two_pow_sub_one_eq_mod n 8
  rw [e2] at e
  exact e
theorem cb_byte (N k : Nat) : cb (fun i => N.testBit (k + i)) 8 = cb (fun i => (N / 2 ^ k % 256).testBit i) 8 := by
  apply cb_congr
  intro i hi
  show _ = (N / 2 ^ k % 2 ^ 8).testBit i
  rw [Nat.testBit_mod_two_pow, Nat.testBit_div_two_pow]
  simp [hi, Nat.add_comm]
theorem pc_bytes (b : BitVec 32) : pc b = cb (fun i => (b.toNat / 16777216).testBit i) 8 + cb (fun i => (b.toNat / 65536 % 256).testBit i) 8 + cb (fun i => (b.toNat / 256 % 256).testBit i) 8 + cb (fun i => (b.toNat % 256).testBit i) 8 := by
  have hN := b.isLt
  have e : pc b = cb (fun i => b.toNat.testBit i) 32 := rfl
  rw [e, cb_add _ 24 8, cb_add _ 16 8, cb_add _ 8 8]
  have h0 := cb_byte b.toNat 0
  have h1 := cb_byte b.toNat 8
  have h2 := cb_byte b.toNat 16
  have h3 := cb_byte b.toNat 24
  simp only [Nat.zero_add, Nat.pow_zero, Nat.div_one] at h0
  rw [h0, h1, h2, h3]
  have e3 : b.toNat / 2 ^ 24 % 256 = b.toNat / 16777216 := by
    show b.toNat / 16777216 % 256 = _
    omega
  rw [e3]
  show _ + cb (fun i => (b.toNat / 256 % 256).testBit i) 8 + cb (fun i => (b.toNat / 65536 % 256).testBit i) 8 + _ = _
  omega
theorem ix_strN {i : Nat} (h : i < 256) : aIndex Tryd.prog 9 (.str p8s) (.int .u32 (i : Int)) = some (.int .u8 (strAt p8s (i : Int))) := ix_str (by kernel_rfl) (by omega) (by show (i : Int) < ((256 : Nat) : Int); omega)
theorem wr8 {x : Int} (h0 : 0 ≤ x) (h1 : x < 256) : IntKind.u8.wrap x = x := by
  simp only [IntKind.wrap, IntKind.bits, IntKind.signed]
  simp
  omega
theorem ok89 : FokM Tryd.prog none1 89 Tryd.f89 := ⟨mixed, by kernel_rfl, by kernel_rfl, by kernel_rfl, by kernel_rfl⟩
theorem r89 (b : BitVec 32) (hp : True) : Body ⟨Tryd.prog, Sof (P := Tryd.prog) [], Pof (P := Tryd.prog) [], H.nil.base, 300⟩ none1 Tryd.f89 [U b] .nil (I (pc b : Nat), .nil) := by
  have hN := b.isLt
  have ev0 : (b.toNat : Int).fdiv (2 ^ min (Int.toNat 24) IntKind.u32.bits) = ((b.toNat / 16777216 : Nat) : Int) := fd _ 16777216
  have ev1 : (b.toNat : Int).fdiv (2 ^ min (Int.toNat 16) IntKind.u32.bits) = ((b.toNat / 65536 : Nat) : Int) := fd _ 65536
  have ev2 : (b.toNat : Int).fdiv (2 ^ min (Int.toNat 8) IntKind.u32.bits) = ((b.toNat / 256 : Nat) : Int) := fd _ 256
  have ev3 := and255 (n := b.toNat / 65536) (by omega)
  have ev4 := and255 (n := b.toNat / 256) (by omega)
  have ev5 := and255 (n := b.toNat) (by omega)
  have ev6 := p8_at (n := b.toNat / 16777216) (by omega)
  have ev7 := p8_at (n := b.toNat / 65536 % 256) (by omega)
  have ev8 := p8_at (n := b.toNat / 256 % 256) (by omega)
  have ev9 := p8_at (n := b.toNat % 256) (by omega)
  have k6 := cb_le (fun i => (b.toNat / 16777216).testBit i) 8
  have k7 := cb_le (fun i => (b.toNat / 65536 % 256).testBit i) 8
  have k8 := cb_le (fun i => (b.toNat / 256 % 256).testBit i) 8
  have k9 := cb_le (fun i => (b.toNat % 256).testBit i) 8
  have b6 : b.toNat / 16777216 < 256 := by omega
  have b7 : b.toNat / 65536 % 256 < 256 := by omega
  have b8 : b.toNat / 256 % 256 < 256 := by omega
  have b9 : b.toNat % 256 < 256 := by omega
  refine body_s ([Ans.o (Orc.val 4 (AV.int IntKind.u32 (↑(b.toNat / (16777216 : Nat)) : Int)) (H.mk [] [] [])), Ans.o (Orc.val 5 (AV.int IntKind.u8 (↑(cb (fun i => (b.toNat / (16777216 : Nat)).testBit i) (8 : Nat)) : Int)) (H.mk [] [] [])), Ans.o (Orc.val 7 (AV.int IntKind.u32 (↑(b.toNat / (65536 : Nat)) : Int)) (H.mk [] [] [])), Ans.o (Orc.val 8 (AV.int IntKind.u32 (↑(b.toNat / (65536 : Nat) % (256 : Nat)) : Int)) (H.mk [] [] [])), Ans.o (Orc.val 9 (AV.int IntKind.u8 (↑(cb (fun i => (b.toNat / (65536 : Nat) % (256 : Nat)).testBit i) (8 : Nat)) : Int)) (H.mk [] [] [])), Ans.o (Orc.val 12 (AV.int IntKind.u32 (↑(b.toNat / (256 : Nat)) : Int)) (H.mk [] [] [])), Ans.o (Orc.val 13 (AV.int IntKind.u32 (↑(b.toNat / (256 : Nat) % (256 : Nat)) : Int)) (H.mk [] [] [])), Ans.o (Orc.val 14 (AV.int IntKind.u8 (↑(cb (fun i => (b.toNat / (256 : Nat) % (256 : Nat)).testBit i) (8 : Nat)) : Int)) (H.mk [] [] [])), Ans.o (Orc.val 17 (AV.int IntKind.u32 (↑(b.toNat % (256 : Nat)) : Int)) (H.mk [] [] [])), Ans.o (Orc.val 18 (AV.int IntKind.u8 (↑(cb (fun i => (b.toNat % (256 : Nat)).testBit i) (8 : Nat)) : Int)) (H.mk [] [] []))]) (aBin Tryd.prog BinOp.shr (72 : Nat) (AV.int IntKind.u32 (↑b.toNat : Int)) (AV.int IntKind.u64 (24 : Int)) = some (AV.int IntKind.u32 (↑(b.toNat / (16777216 : Nat)) : Int)) ∧ aIndex Tryd.prog (9 : Nat) (AV.str p8s) (AV.int IntKind.u32 (↑(b.toNat / (16777216 : Nat)) : Int)) = some (AV.int IntKind.u8 (↑(cb (fun i => (b.toNat / (16777216 : Nat)).testBit i) (8 : Nat)) : Int)) ∧ aBin Tryd.prog BinOp.shr (72 : Nat) (AV.int IntKind.u32 (↑b.toNat : Int)) (AV.int IntKind.u64 (16 : Int)) = some (AV.int IntKind.u32 (↑(b.toNat / (65536 : Nat)) : Int)) ∧ aBin Tryd.prog BinOp.and (72 : Nat) (AV.int IntKind.u32 (↑(b.toNat / (65536 : Nat)) : Int)) (AV.int IntKind.u32 (255 : Int)) = some (AV.int IntKind.u32 (↑(b.toNat / (65536 : Nat) % (256 : Nat)) : Int)) ∧ aIndex Tryd.prog (9 : Nat) (AV.str p8s) (AV.int IntKind.u32 (↑(b.toNat / (65536 : Nat) % (256 : Nat)) : Int)) = some (AV.int IntKind.u8 (↑(cb (fun i => (b.toNat / (65536 : Nat) % (256 : Nat)).testBit i) (8 : Nat)) : Int)) ∧ IntKind.u8.wrap ((↑(cb (fun i => (b.toNat / (16777216 : Nat)).testBit i) (8 : Nat)) : Int) + (↑(cb (fun i => (b.toNat / (65536 : Nat) % (256 : Nat)).testBit i) (8 : Nat)) : Int)) = (↑(cb (fun i => (b.toNat / (16777216 : Nat)).testBit i) (8 : Nat)) : Int) + (↑(cb (fun i => (b.toNat / (65536 : Nat) % (256 : Nat)).testBit i) (8 : Nat)) : Int) ∧ aBin Tryd.prog BinOp.shr (72 : Nat) (AV.int IntKind.u32 (↑b.toNat : Int)) (AV.int IntKind.u64 (8 : Int)) = some (AV.int IntKind.u32 (↑(b.toNat / (256 : Nat)) : Int)) ∧ aBin Tryd.prog BinOp.and (72 : Nat) (AV.int IntKind.u32 (↑(b.toNat / (256 : Nat)) : Int)) (AV.int IntKind.u32 (255 : Int)) = some (AV.int IntKind.u32 (↑(b.toNat / (256 : Nat) % (256 : Nat)) : Int)) ∧ aIndex Tryd.prog (9 : Nat) (AV.str p8s) (AV.int IntKind.u32 (↑(b.toNat / (256 : Nat) % (256 : Nat)) : Int)) = some (AV.int IntKind.u8 (↑(cb (fun i => (b.toNat / (256 : Nat) % (256 : Nat)).testBit i) (8 : Nat)) : Int)) ∧ IntKind.u8.wrap ((↑(cb (fun i => (b.toNat / (16777216 : Nat)).testBit i) (8 : Nat)) : Int) + (↑(cb (fun i => (b.toNat / (65536 : Nat) % (256 : Nat)).testBit i) (8 : Nat)) : Int) + (↑(cb (fun i => (b.toNat / (256 : Nat) % (256 : Nat)).testBit i) (8 : Nat)) : Int)) = (↑(cb (fun i => (b.toNat / (16777216 : Nat)).testBit i) (8 : Nat)) : Int) + (↑(cb (fun i => (b.toNat / (65536 : Nat) % (256 : Nat)).testBit i) (8 : Nat)) : Int) + (↑(cb (fun i => (b.toNat / (256 : Nat) % (256 : Nat)).testBit i) (8 : Nat)) : Int) ∧ aBin Tryd.prog BinOp.and (72 : Nat) (AV.int IntKind.u32 (↑b.toNat : Int)) (AV.int IntKind.u32 (255 : Int)) = some (AV.int IntKind.u32 (↑(b.toNat % (256 : Nat)) : Int)) ∧ aIndex Tryd.prog (9 : Nat) (AV.str p8s) (AV.int IntKind.u32 (↑(b.toNat % (256 : Nat)) : Int)) = some (AV.int IntKind.u8 (↑(cb (fun i => (b.toNat % (256 : Nat)).testBit i) (8 : Nat)) : Int)) ∧ IntKind.u8.wrap ((↑(cb (fun i => (b.toNat / (16777216 : Nat)).testBit i) (8 : Nat)) : Int) + (↑(cb (fun i => (b.toNat / (65536 : Nat) % (256 : Nat)).testBit i) (8 : Nat)) : Int) + (↑(cb (fun i => (b.toNat / (256 : Nat) % (256 : Nat)).testBit i) (8 : Nat)) : Int) + (↑(cb (fun i => (b.toNat % (256 : Nat)).testBit i) (8 : Nat)) : Int)) = (↑(cb (fun i => (b.toNat / (16777216 : Nat)).testBit i) (8 : Nat)) : Int) + (↑(cb (fun i => (b.toNat / (65536 : Nat) % (256 : Nat)).testBit i) (8 : Nat)) : Int) + (↑(cb (fun i => (b.toNat / (256 : Nat) % (256 : Nat)).testBit i) (8 : Nat)) : Int) + (↑(cb (fun i => (b.toNat % (256 : Nat)).testBit i) (8 : Nat)) : Int) ∧ (I (IntKind.i64.wrap ((↑(cb (fun i => (b.toNat / (16777216 : Nat)).testBit i) (8 : Nat)) : Int) + (↑(cb (fun i => (b.toNat / (65536 : Nat) % (256 : Nat)).testBit i) (8 : Nat)) : Int) + (↑(cb (fun i => (b.toNat / (256 : Nat) % (256 : Nat)).testBit i) (8 : Nat)) : Int) + (↑(cb (fun i => (b.toNat % (256 : Nat)).testBit i) (8 : Nat)) : Int))), H.mk [] [] []) = (I (↑(pc b) : Int), H.mk [] [] [])) (by kernel_rfl) ?_
  refine ⟨by first | exact told_shr (by decide) (by assumption) | exact told_and (by assumption), ?_⟩
  refine ⟨told_int (ix_strN (by assumption)) (by assumption), ?_⟩
  refine ⟨by first | exact told_shr (by decide) (by assumption) | exact told_and (by assumption), ?_⟩
  refine ⟨by first | exact told_shr (by decide) (by assumption) | exact told_and (by assumption), ?_⟩
  refine ⟨told_int (ix_strN (by assumption)) (by assumption), ?_⟩
  refine ⟨by (clear ev0 ev1 ev2 ev3 ev4 ev5 ev6 ev7 ev8 ev9 hN b6 b7 b8 b9; exact wr8 (by omega) (by omega)), ?_⟩
  refine ⟨by first | exact told_shr (by decide) (by assumption) | exact told_and (by assumption), ?_⟩
  refine ⟨by first | exact told_shr (by decide) (by assumption) | exact told_and (by assumption), ?_⟩
  refine ⟨told_int (ix_strN (by assumption)) (by assumption), ?_⟩
  refine ⟨by (clear ev0 ev1 ev2 ev3 ev4 ev5 ev6 ev7 ev8 ev9 hN b6 b7 b8 b9; exact wr8 (by omega) (by omega)), ?_⟩
  refine ⟨by first | exact told_shr (by decide) (by assumption) | exact told_and (by assumption), ?_⟩
  refine ⟨told_int (ix_strN (by assumption)) (by assumption), ?_⟩
  refine ⟨by (clear ev0 ev1 ev2 ev3 ev4 ev5 ev6 ev7 ev8 ev9 hN b6 b7 b8 b9; exact wr8 (by omega) (by omega)), ?_⟩
  (rw [pc_bytes]; clear ev0 ev1 ev2 ev3 ev4 ev5 ev6 ev7 ev8 ev9 hN b6 b7 b8 b9; rw [wr _ (by omega) (by omega)]; simp only [Prod.mk.injEq, AV.int.injEq, and_true, true_and]; omega)
noncomputable def c89 : PCtr Tryd.prog := sctr ok89 (X := BitVec 32) (fun x => [U x]) (fun x => True) (fun x => I (pc x : Nat)) (by intro x y e _ _; simp at e; simp [e]) (fun x => by simp [AV.bnds, AV.bnd, AV.wk, rm_wk_bnd]) (fun x => by first | rfl | simp [AV.bnd, AV.bnds, Room.bnd, rm_wk_bnd]) (fun x hx => ⟨_, _, _, .nil, r89 (x) hx⟩)
theorem ok85 : FokM Tryd.prog none1 85 Tryd.f85 := ⟨mixed, by kernel_rfl, by kernel_rfl, by kernel_rfl, by kernel_rfl⟩
theorem r85 (p : Int) (b : BitVec 32) (hp : True) : Body ⟨Tryd.prog, Sof (P := Tryd.prog) [c89.to], Pof (P := Tryd.prog) [], H.nil.base, 300⟩ none1 Tryd.f85 [cA p b] .nil (I (pc b : Nat), .nil) := by
  refine body_s ([Ans.o (Orc.val 5 (I (↑(pc b) : Int)) (H.mk [[I p, AV.int IntKind.u32 (↑b.toNat : Int)]] [] []))]) (aCall (Sof [c89.to]) (AV.fn (Fn.func (89 : Nat)) [] []) [AV.int IntKind.u32 (↑b.toNat : Int)] (H.mk [[I p, AV.int IntKind.u32 (↑b.toNat : Int)]] [] []) = some (I (↑(pc b) : Int), H.mk [[I p, AV.int IntKind.u32 (↑b.toNat : Int)]] [] []) ∧ (I (↑(pc b) : Int), H.mk [] [] []) = (I (↑(pc b) : Int), H.mk [] [] [])) (by kernel_rfl) ?_
  refine ⟨by first | (refine acall_hit (c := c89.to) (b) _ rfl ?_; first | exact True.intro | exact hp | exact hp' | (simp only [c89, PCtr.to, pctr, lctr, small, tiny, rng, decide_eq_true_eq, decide_eq_false_iff_not, true_or, or_true, true_and, and_true, Int.reduceEq, Int.reduceNeg, eq_self, reduceIte, if_true, if_false]; first | assumption | omega) | (simp only [c89, PCtr.to, pctr, lctr, small, tiny, rng, decide_eq_true_eq, decide_eq_false_iff_not, true_or, or_true, true_and, and_true, Int.reduceEq, Int.reduceNeg, eq_self, reduceIte, if_true, if_false] at *; first | assumption | omega)) | (refine acall_b (acall_hit (c := c89.to) (b) _ rfl ?_) (by assumption); first | exact True.intro | exact hp | exact hp' | (simp only [c89, PCtr.to, pctr, lctr, small, tiny, rng, decide_eq_true_eq, decide_eq_false_iff_not, true_or, or_true, true_and, and_true, Int.reduceEq, Int.reduceNeg, eq_self, reduceIte, if_true, if_false]; first | assumption | omega) | (simp only [c89, PCtr.to, pctr, lctr, small, tiny, rng, decide_eq_true_eq, decide_eq_false_iff_not, true_or, or_true, true_and, and_true, Int.reduceEq, Int.reduceNeg, eq_self, reduceIte, if_true, if_false] at *; first | assumption | omega)), ?_⟩
  first | with_reducible rfl | (refine bleaf_t ?_; first | omega | (simp only [small, tiny, rng, decide_eq_true_eq, decide_eq_false_iff_not, true_or, or_true, true_and, and_true, Int.reduceEq, Int.reduceNeg, eq_self, reduceIte, if_true, if_false] at *; omega)) | (refine bleaf_f ?_; first | omega | (simp only [small, tiny, rng, decide_eq_true_eq, decide_eq_false_iff_not, true_or, or_true, true_and, and_true, Int.reduceEq, Int.reduceNeg, eq_self, reduceIte, if_true, if_false] at *; omega)) | (refine ileaf ?_; first | omega | (simp only [small, tiny, rng, decide_eq_true_eq, decide_eq_false_iff_not, true_or, or_true, true_and, and_true, Int.reduceEq, Int.reduceNeg, eq_self, reduceIte, if_true, if_false] at *; omega)) | (exfalso; omega) | (simp only [Prod.mk.injEq, AV.agg.injEq, AV.tup.injEq, List.cons.injEq, AV.int.injEq, AV.bool.injEq, and_true, true_and]; (repeat' apply And.intro) <;> first | with_reducible rfl | (simp []; done) | (simp []; omega) | omega | (simp only [small, tiny, rng, decide_eq_true_eq, decide_eq_false_iff_not, true_or, or_true, true_and, and_true, Int.reduceEq, Int.reduceNeg, eq_self, reduceIte, if_true, if_false] at *; omega) | (simp [small, tiny, rng, decide_eq_true_eq, decide_eq_false_iff_not, true_or, or_true, true_and, and_true, Int.reduceEq, Int.reduceNeg, eq_self, reduceIte, if_true, if_false, *]; done) | (simp [small, tiny, rng, decide_eq_true_eq, decide_eq_false_iff_not, true_or, or_true, true_and, and_true, Int.reduceEq, Int.reduceNeg, eq_self, reduceIte, if_true, if_false, *]; omega)) | (exfalso; simp only [small, tiny, rng, decide_eq_true_eq, decide_eq_false_iff_not, true_or, or_true, true_and, and_true, Int.reduceEq, Int.reduceNeg, eq_self, reduceIte, if_true, if_false] at *; omega) | (simp [small, tiny, rng, decide_eq_true_eq, decide_eq_false_iff_not, true_or, or_true, true_and, and_true, Int.reduceEq, Int.reduceNeg, eq_self, reduceIte, if_true, if_false] at *; done) | (simp [small, tiny, rng, decide_eq_true_eq, decide_eq_false_iff_not, true_or, or_true, true_and, and_true, Int.reduceEq, Int.reduceNeg, eq_self, reduceIte, if_true, if_false] at *; omega)
noncomputable def c85 : PCtr Tryd.prog := sctr ok85 (X := Int × BitVec 32) (fun x => [cA x.1 x.2]) (fun x => True) (fun x => I (pc x.2 : Nat)) (by intro x y e _ _; simp at e; simp [e]) (fun x => by simp [AV.bnds, AV.bnd, AV.wk, rm_wk_bnd]) (fun x => by first | rfl | simp [AV.bnd, AV.bnds, Room.bnd, rm_wk_bnd]) (fun x hx => ⟨_, _, _, .pure c89 (.nil), r85 (x.1) (x.2) hx⟩)
end Go.Proofs.Lrn

