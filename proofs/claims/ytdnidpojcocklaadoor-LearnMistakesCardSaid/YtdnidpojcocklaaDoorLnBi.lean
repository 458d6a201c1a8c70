/- Layer 4: Check, of a class. -/
import Derived.Test.YtdnidpojcocklaaDoorLnBh
import Derived.Test.YtdnidpojcocklaaDoorLnC
import Derived.KernelRfl
set_option linter.unusedSimpArgs false
set_option linter.unusedVariables false
set_option linter.unnecessarySimpa false
set_option maxHeartbeats 4000000
set_option maxRecDepth 100000
namespace Go.Proofs.Lrn
open Go Go.VM
/-- is it a tree for the class? -/
noncomputable def ckB (p : Int) (b : BitVec 32) (l : List Tri) : Bool := decide (l.length = 2 ^ bl l.length - 1) && (tdQ l && (decide (bl l.length = 0) || foL p l (bl l.length) b 0))
noncomputable abbrev ckV (p : Int) (b : BitVec 32) (l : List Tri) : AV := .tup [I (if ckB p b l then (bl l.length : Int) else 0), .bool (ckB p b l), I 0]
theorem tdA_lnk {l : List Tri} (h : tdA l) : lnkd l := fun i hi => by
  constructor
  · have := h (2 * i) (by omega)
    rcases this with q | ⟨q1, q2, _⟩
    · rw [nx_0] at q; exact .inl q
    · rw [nx_0] at q1 q2; exact .inr ⟨by omega, q2⟩
  · have := h (2 * i + 1) (by omega)
    rcases this with q | ⟨q1, q2, _⟩
    · rw [nx_1] at q; exact .inl q
    · rw [nx_1] at q1 q2; exact .inr ⟨by omega, q2⟩
theorem bl_pos {n : Nat} (h : bl n ≠ 0) : 0 < n := by
  apply Classical.byContradiction; intro q
  have : n = 0 := by omega
  subst this; exact h rfl
theorem bl_7 : (List.range 71).all (fun n => decide (bl n ≤ 7)) = true := by decide +kernel
theorem bl_le {n : Nat} (h : n < 71) : bl n ≤ 7 := of_decide_eq_true (List.all_eq_true.1 bl_7 n (List.mem_range.2 h))
theorem u64_sm {n : Nat} (h : n ≤ 1000) : IntKind.u64.wrap (n : Int) = (n : Int) := by
  simp only [IntKind.wrap, IntKind.bits, IntKind.signed]
  simp
  omega
theorem pw_shlN {n : Nat} (h : n ≤ 62) : IntKind.i64.wrap (1 * 2 ^ min ((n : Nat) : Int).toNat IntKind.i64.bits) = ((2 ^ n : Nat) : Int) := by
  have e : min ((n : Nat) : Int).toNat IntKind.i64.bits = n := by
    rw [Int.toNat_natCast]
    exact Nat.min_eq_left (by show n ≤ 64; omega)
  have h2 : 2 ^ n ≤ 2 ^ 62 := Nat.pow_le_pow_right (by decide) h
  have h3 : ((2 ^ n : Nat) : Int) = 2 ^ n := by norm_cast
  rw [e, Int.one_mul, ← h3]
  have h4 : (2 : Nat) ^ 62 = 4611686018427387904 := by decide
  rw [h4] at h2
  generalize 2 ^ n = m at h2
  exact wr _ (by omega) (by omega)
theorem ok26 : FokM Tryd.prog none1 26 Tryd.f26 := ⟨mixed, by kernel_rfl, by kernel_rfl, by kernel_rfl, by kernel_rfl⟩
structure CkP (p : Int) (cl : List Int) (r : Room) (l : List Tri) (q : Room) : Prop where
  c : cls p cl ∧ rok cl r
  n : l.length ≤ 70
  q : rok l q
noncomputable abbrev cs26 : List (Ctr Tryd.prog) := [c52g.to, c60.to, c61.to, c62.to]
theorem ct26 : Ctrs Tryd.prog none1 cs26 := .pure _ (.pure _ (.pure _ (.pure _ .nil)))
theorem r26 (p : Int) (cl : List Int) (r : Room) (l : List Tri) (q : Room) (h : CkP p cl r l q) : Body (En4 cs26) none1 Tryd.f26 [I p, ls cl r, tS l q] .nil (ckV p (sOf cl) l, .nil) := by
  have hn := h.n
  have hb7 := bl_le (n := l.length) (by omega)
  have ev0 := u64_sm (n := l.length) (by omega)
  have ev1 := pw_shlN (n := bl l.length) (by omega)
  have hpp := Nat.two_pow_pos (bl l.length)
  have hp7 : 2 ^ bl l.length ≤ 2 ^ 7 := Nat.pow_le_pow_right (by decide) hb7
  have ev2 : IntKind.i64.wrap (((2 ^ bl l.length : Nat) : Int) - 1) = ((2 ^ bl l.length - 1 : Nat) : Int) := by rw [wr _ (by omega) (by omega)]; omega
  have z60 : l.length < 71 := by omega
  have z61 : l.length ≤ 1000 ∧ rok l q := ⟨by omega, h.q⟩
  have hc := h.c
  have h5 := hc.1.1
  obtain ⟨E, hE⟩ : ∃ E, E = 2 ^ bl l.length - 1 := ⟨_, rfl⟩
  rw [← hE] at ev2
  by_cases h1 : l.length = E
  · have h1' : (l.length : Int) = (E : Int) := by omega
    cases h2 : tdQ l
    · have e : ckB p (sOf cl) l = false := by simp [ckB, h2]
      rw [ckV, e]
      refine body_s ([Ans.o (Orc.val 15 (AV.tup [AV.agg [I p, AV.int IntKind.u32 (↑(sOf cl).toNat : Int)], AV.bool true]) (H.mk [] [] [])), Ans.o (Orc.val 22 (AV.int IntKind.u64 (↑l.length : Int)) H.nil), Ans.o (Orc.val 23 (I (↑(bl l.length) : Int)) (H.mk [[I p, AV.int IntKind.u32 (↑(sOf cl).toNat : Int)]] [] [])), Ans.o (Orc.val 27 (I (↑((2 : Nat) ^ bl l.length) : Int)) H.nil), Ans.o (Orc.val 28 (I (↑E : Int)) H.nil), Ans.o (Orc.b false), Ans.o (Orc.val 32 (AV.bool false) (H.mk [[I p, AV.int IntKind.u32 (↑(sOf cl).toNat : Int)]] [] []))]) (aCall (Sof cs26) (AV.fn (Fn.func (52 : Nat)) [] []) [I p, AV.sl (ints cl) cl.length r] (H.mk [] [] []) = some (AV.tup [AV.agg [I p, AV.int IntKind.u32 (↑(sOf cl).toNat : Int)], AV.bool true], H.mk [] [] []) ∧ aConvert Tryd.prog (3 : Nat) (64 : Nat) (I (↑l.length : Int)) = some (AV.int IntKind.u64 (↑l.length : Int)) ∧ aCall (Sof cs26) (AV.fn (Fn.func (60 : Nat)) [] []) [AV.int IntKind.u64 (↑l.length : Int)] (H.mk [[I p, AV.int IntKind.u32 (↑(sOf cl).toNat : Int)]] [] []) = some (I (↑(bl l.length) : Int), H.mk [[I p, AV.int IntKind.u32 (↑(sOf cl).toNat : Int)]] [] []) ∧ aBin Tryd.prog BinOp.shl (3 : Nat) (I 1) (I (↑(bl l.length) : Int)) = some (I (↑((2 : Nat) ^ bl l.length) : Int)) ∧ aBin Tryd.prog BinOp.sub (3 : Nat) (I (↑((2 : Nat) ^ bl l.length) : Int)) (I 1) = some (I (↑E : Int)) ∧ (↑l.length : Int) = (↑E : Int) ∧ aCall (Sof cs26) (AV.fn (Fn.func (61 : Nat)) [] []) [AV.sl (trisA l) l.length q] (H.mk [[I p, AV.int IntKind.u32 (↑(sOf cl).toNat : Int)]] [] []) = some (AV.bool false, H.mk [[I p, AV.int IntKind.u32 (↑(sOf cl).toNat : Int)]] [] []) ∧ (AV.tup [I 0, AV.bool false, I 0], H.mk [] [] []) = (AV.tup [I (if false = true then (↑(bl l.length) : Int) else (0 : Int)), AV.bool false, I 0], H.mk [] [] [])) (by kernel_rfl) ?_
      refine ⟨acall_hit (c := c52g.to) (p, cl, r) _ rfl hc, ?_⟩
      refine ⟨by first | exact told_conv (by kernel_rfl) (by kernel_rfl) (by with_reducible assumption) | exact told_conv (by kernel_rfl) (by kernel_rfl) ev0 | exact told_conv (by kernel_rfl) (by kernel_rfl) ev1 | exact told_conv (by kernel_rfl) (by kernel_rfl) ev2 | exact told_conv (by kernel_rfl) (by kernel_rfl) ev3 | exact told_conv (by kernel_rfl) (by kernel_rfl) ev4 | exact told_conv (by kernel_rfl) (by kernel_rfl) ev5 | exact told_conv (by kernel_rfl) (by kernel_rfl) ev6 | exact told_conv (by kernel_rfl) (by kernel_rfl) ev7 | exact told_conv (by kernel_rfl) (by kernel_rfl) ev8 | exact told_conv (by kernel_rfl) (by kernel_rfl) ev9 | exact told_conv (by kernel_rfl) (by kernel_rfl) ev10 | exact told_conv (by kernel_rfl) (by kernel_rfl) ev11, ?_⟩
      refine ⟨acall_hit (c := c60.to) l.length _ rfl z60, ?_⟩
      refine ⟨by first | exact told_shl (by first | exact Int.natCast_nonneg _ | omega) (by with_reducible assumption) | exact told_shl (by omega) rfl, ?_⟩
      refine ⟨told_sub (by with_reducible assumption), ?_⟩
      refine ⟨by first | with_reducible assumption | omega | assumption, ?_⟩
      refine ⟨acall_b (acall_hit (c := c61.to) (l, q) _ rfl z61) h2, ?_⟩
      rfl
    · have htd : tdA l := Classical.byContradiction fun w => by rw [tdQ_f w] at h2; cases h2
      by_cases h3 : bl l.length = 0
      · have h3' : ((bl l.length : Nat) : Int) ≤ 0 := by omega
        have e : ckB p (sOf cl) l = true := by rw [ckB, ← hE, decide_eq_true h1, h2, decide_eq_true h3]; rfl
        rw [ckV, e]
        refine body_s ([Ans.o (Orc.val 15 (AV.tup [AV.agg [I p, AV.int IntKind.u32 (↑(sOf cl).toNat : Int)], AV.bool true]) (H.mk [] [] [])), Ans.o (Orc.val 22 (AV.int IntKind.u64 (↑l.length : Int)) H.nil), Ans.o (Orc.val 23 (I (↑(bl l.length) : Int)) (H.mk [[I p, AV.int IntKind.u32 (↑(sOf cl).toNat : Int)]] [] [])), Ans.o (Orc.val 27 (I (↑((2 : Nat) ^ bl l.length) : Int)) H.nil), Ans.o (Orc.val 28 (I (↑E : Int)) H.nil), Ans.o (Orc.b false), Ans.o (Orc.val 32 (AV.bool true) (H.mk [[I p, AV.int IntKind.u32 (↑(sOf cl).toNat : Int)]] [] [])), Ans.o (Orc.b false)]) (aCall (Sof cs26) (AV.fn (Fn.func (52 : Nat)) [] []) [I p, AV.sl (ints cl) cl.length r] (H.mk [] [] []) = some (AV.tup [AV.agg [I p, AV.int IntKind.u32 (↑(sOf cl).toNat : Int)], AV.bool true], H.mk [] [] []) ∧ aConvert Tryd.prog (3 : Nat) (64 : Nat) (I (↑l.length : Int)) = some (AV.int IntKind.u64 (↑l.length : Int)) ∧ aCall (Sof cs26) (AV.fn (Fn.func (60 : Nat)) [] []) [AV.int IntKind.u64 (↑l.length : Int)] (H.mk [[I p, AV.int IntKind.u32 (↑(sOf cl).toNat : Int)]] [] []) = some (I (↑(bl l.length) : Int), H.mk [[I p, AV.int IntKind.u32 (↑(sOf cl).toNat : Int)]] [] []) ∧ aBin Tryd.prog BinOp.shl (3 : Nat) (I 1) (I (↑(bl l.length) : Int)) = some (I (↑((2 : Nat) ^ bl l.length) : Int)) ∧ aBin Tryd.prog BinOp.sub (3 : Nat) (I (↑((2 : Nat) ^ bl l.length) : Int)) (I 1) = some (I (↑E : Int)) ∧ (↑l.length : Int) = (↑E : Int) ∧ aCall (Sof cs26) (AV.fn (Fn.func (61 : Nat)) [] []) [AV.sl (trisA l) l.length q] (H.mk [[I p, AV.int IntKind.u32 (↑(sOf cl).toNat : Int)]] [] []) = some (AV.bool true, H.mk [[I p, AV.int IntKind.u32 (↑(sOf cl).toNat : Int)]] [] []) ∧ (↑(bl l.length) : Int) ≤ (0 : Int) ∧ (AV.tup [I (↑(bl l.length) : Int), AV.bool true, I 0], H.mk [] [] []) = (AV.tup [I (if true = true then (↑(bl l.length) : Int) else (0 : Int)), AV.bool true, I 0], H.mk [] [] [])) (by kernel_rfl) ?_
        refine ⟨acall_hit (c := c52g.to) (p, cl, r) _ rfl hc, ?_⟩
        refine ⟨by first | exact told_conv (by kernel_rfl) (by kernel_rfl) (by with_reducible assumption) | exact told_conv (by kernel_rfl) (by kernel_rfl) ev0 | exact told_conv (by kernel_rfl) (by kernel_rfl) ev1 | exact told_conv (by kernel_rfl) (by kernel_rfl) ev2 | exact told_conv (by kernel_rfl) (by kernel_rfl) ev3 | exact told_conv (by kernel_rfl) (by kernel_rfl) ev4 | exact told_conv (by kernel_rfl) (by kernel_rfl) ev5 | exact told_conv (by kernel_rfl) (by kernel_rfl) ev6 | exact told_conv (by kernel_rfl) (by kernel_rfl) ev7 | exact told_conv (by kernel_rfl) (by kernel_rfl) ev8 | exact told_conv (by kernel_rfl) (by kernel_rfl) ev9 | exact told_conv (by kernel_rfl) (by kernel_rfl) ev10 | exact told_conv (by kernel_rfl) (by kernel_rfl) ev11, ?_⟩
        refine ⟨acall_hit (c := c60.to) l.length _ rfl z60, ?_⟩
        refine ⟨by first | exact told_shl (by first | exact Int.natCast_nonneg _ | omega) (by with_reducible assumption) | exact told_shl (by omega) rfl, ?_⟩
        refine ⟨told_sub (by with_reducible assumption), ?_⟩
        refine ⟨by first | with_reducible assumption | omega | assumption, ?_⟩
        refine ⟨acall_b (acall_hit (c := c61.to) (l, q) _ rfl z61) h2, ?_⟩
        refine ⟨by first | with_reducible assumption | omega | assumption, ?_⟩
        rfl
      · have h3' : 0 < ((bl l.length : Nat) : Int) := by omega
        have hpos := bl_pos h3
        have z62 : FoP p l q 0 ∧ bl l.length ≤ 100 := ⟨⟨h5, h.q, tdA_lnk htd, .inr ⟨by omega, by omega⟩⟩, by omega⟩
        cases h4 : foL p l (bl l.length) (sOf cl) 0
        · have e : ckB p (sOf cl) l = false := by simp [ckB, h2, h3, h4]
          rw [ckV, e]
          refine body_s ([Ans.o (Orc.val 15 (AV.tup [AV.agg [I p, AV.int IntKind.u32 (↑(sOf cl).toNat : Int)], AV.bool true]) (H.mk [] [] [])), Ans.o (Orc.val 22 (AV.int IntKind.u64 (↑l.length : Int)) H.nil), Ans.o (Orc.val 23 (I (↑(bl l.length) : Int)) (H.mk [[I p, AV.int IntKind.u32 (↑(sOf cl).toNat : Int)]] [] [])), Ans.o (Orc.val 27 (I (↑((2 : Nat) ^ bl l.length) : Int)) H.nil), Ans.o (Orc.val 28 (I (↑E : Int)) H.nil), Ans.o (Orc.b false), Ans.o (Orc.val 32 (AV.bool true) (H.mk [[I p, AV.int IntKind.u32 (↑(sOf cl).toNat : Int)]] [] [])), Ans.o (Orc.b true), Ans.o (Orc.val 42 (AV.bool false) (H.mk [[I p, AV.int IntKind.u32 (↑(sOf cl).toNat : Int)]] [] []))]) (aCall (Sof cs26) (AV.fn (Fn.func (52 : Nat)) [] []) [I p, AV.sl (ints cl) cl.length r] (H.mk [] [] []) = some (AV.tup [AV.agg [I p, AV.int IntKind.u32 (↑(sOf cl).toNat : Int)], AV.bool true], H.mk [] [] []) ∧ aConvert Tryd.prog (3 : Nat) (64 : Nat) (I (↑l.length : Int)) = some (AV.int IntKind.u64 (↑l.length : Int)) ∧ aCall (Sof cs26) (AV.fn (Fn.func (60 : Nat)) [] []) [AV.int IntKind.u64 (↑l.length : Int)] (H.mk [[I p, AV.int IntKind.u32 (↑(sOf cl).toNat : Int)]] [] []) = some (I (↑(bl l.length) : Int), H.mk [[I p, AV.int IntKind.u32 (↑(sOf cl).toNat : Int)]] [] []) ∧ aBin Tryd.prog BinOp.shl (3 : Nat) (I 1) (I (↑(bl l.length) : Int)) = some (I (↑((2 : Nat) ^ bl l.length) : Int)) ∧ aBin Tryd.prog BinOp.sub (3 : Nat) (I (↑((2 : Nat) ^ bl l.length) : Int)) (I 1) = some (I (↑E : Int)) ∧ (↑l.length : Int) = (↑E : Int) ∧ aCall (Sof cs26) (AV.fn (Fn.func (61 : Nat)) [] []) [AV.sl (trisA l) l.length q] (H.mk [[I p, AV.int IntKind.u32 (↑(sOf cl).toNat : Int)]] [] []) = some (AV.bool true, H.mk [[I p, AV.int IntKind.u32 (↑(sOf cl).toNat : Int)]] [] []) ∧ (0 : Int) < (↑(bl l.length) : Int) ∧ aCall (Sof cs26) (AV.fn (Fn.func (62 : Nat)) [] []) [AV.agg [I p, AV.int IntKind.u32 (↑(sOf cl).toNat : Int)], AV.sl (trisA l) l.length q, I 0, I (↑(bl l.length) : Int)] (H.mk [[I p, AV.int IntKind.u32 (↑(sOf cl).toNat : Int)]] [] []) = some (AV.bool false, H.mk [[I p, AV.int IntKind.u32 (↑(sOf cl).toNat : Int)]] [] []) ∧ (AV.tup [I 0, AV.bool false, I 0], H.mk [] [] []) = (AV.tup [I (if false = true then (↑(bl l.length) : Int) else (0 : Int)), AV.bool false, I 0], H.mk [] [] [])) (by kernel_rfl) ?_
          refine ⟨acall_hit (c := c52g.to) (p, cl, r) _ rfl hc, ?_⟩
          refine ⟨by first | exact told_conv (by kernel_rfl) (by kernel_rfl) (by with_reducible assumption) | exact told_conv (by kernel_rfl) (by kernel_rfl) ev0 | exact told_conv (by kernel_rfl) (by kernel_rfl) ev1 | exact told_conv (by kernel_rfl) (by kernel_rfl) ev2 | exact told_conv (by kernel_rfl) (by kernel_rfl) ev3 | exact told_conv (by kernel_rfl) (by kernel_rfl) ev4 | exact told_conv (by kernel_rfl) (by kernel_rfl) ev5 | exact told_conv (by kernel_rfl) (by kernel_rfl) ev6 | exact told_conv (by kernel_rfl) (by kernel_rfl) ev7 | exact told_conv (by kernel_rfl) (by kernel_rfl) ev8 | exact told_conv (by kernel_rfl) (by kernel_rfl) ev9 | exact told_conv (by kernel_rfl) (by kernel_rfl) ev10 | exact told_conv (by kernel_rfl) (by kernel_rfl) ev11, ?_⟩
          refine ⟨acall_hit (c := c60.to) l.length _ rfl z60, ?_⟩
          refine ⟨by first | exact told_shl (by first | exact Int.natCast_nonneg _ | omega) (by with_reducible assumption) | exact told_shl (by omega) rfl, ?_⟩
          refine ⟨told_sub (by with_reducible assumption), ?_⟩
          refine ⟨by first | with_reducible assumption | omega | assumption, ?_⟩
          refine ⟨acall_b (acall_hit (c := c61.to) (l, q) _ rfl z61) h2, ?_⟩
          refine ⟨by first | with_reducible assumption | omega | assumption, ?_⟩
          refine ⟨acall_b (acall_hit (c := c62.to) ((p, sOf cl), (l, q), 0, bl l.length) _ rfl z62) h4, ?_⟩
          rfl
        · have e : ckB p (sOf cl) l = true := by rw [ckB, ← hE, decide_eq_true h1, h2, h4]; simp
          rw [ckV, e]
          refine body_s ([Ans.o (Orc.val 15 (AV.tup [AV.agg [I p, AV.int IntKind.u32 (↑(sOf cl).toNat : Int)], AV.bool true]) (H.mk [] [] [])), Ans.o (Orc.val 22 (AV.int IntKind.u64 (↑l.length : Int)) H.nil), Ans.o (Orc.val 23 (I (↑(bl l.length) : Int)) (H.mk [[I p, AV.int IntKind.u32 (↑(sOf cl).toNat : Int)]] [] [])), Ans.o (Orc.val 27 (I (↑((2 : Nat) ^ bl l.length) : Int)) H.nil), Ans.o (Orc.val 28 (I (↑E : Int)) H.nil), Ans.o (Orc.b false), Ans.o (Orc.val 32 (AV.bool true) (H.mk [[I p, AV.int IntKind.u32 (↑(sOf cl).toNat : Int)]] [] [])), Ans.o (Orc.b true), Ans.o (Orc.val 42 (AV.bool true) (H.mk [[I p, AV.int IntKind.u32 (↑(sOf cl).toNat : Int)]] [] []))]) (aCall (Sof cs26) (AV.fn (Fn.func (52 : Nat)) [] []) [I p, AV.sl (ints cl) cl.length r] (H.mk [] [] []) = some (AV.tup [AV.agg [I p, AV.int IntKind.u32 (↑(sOf cl).toNat : Int)], AV.bool true], H.mk [] [] []) ∧ aConvert Tryd.prog (3 : Nat) (64 : Nat) (I (↑l.length : Int)) = some (AV.int IntKind.u64 (↑l.length : Int)) ∧ aCall (Sof cs26) (AV.fn (Fn.func (60 : Nat)) [] []) [AV.int IntKind.u64 (↑l.length : Int)] (H.mk [[I p, AV.int IntKind.u32 (↑(sOf cl).toNat : Int)]] [] []) = some (I (↑(bl l.length) : Int), H.mk [[I p, AV.int IntKind.u32 (↑(sOf cl).toNat : Int)]] [] []) ∧ aBin Tryd.prog BinOp.shl (3 : Nat) (I 1) (I (↑(bl l.length) : Int)) = some (I (↑((2 : Nat) ^ bl l.length) : Int)) ∧ aBin Tryd.prog BinOp.sub (3 : Nat) (I (↑((2 : Nat) ^ bl l.length) : Int)) (I 1) = some (I (↑E : Int)) ∧ (↑l.length : Int) = (↑E : Int) ∧ aCall (Sof cs26) (AV.fn (Fn.func (61 : Nat)) [] []) [AV.sl (trisA l) l.length q] (H.mk [[I p, AV.int IntKind.u32 (↑(sOf cl).toNat : Int)]] [] []) = some (AV.bool true, H.mk [[I p, AV.int IntKind.u32 (↑(sOf cl).toNat : Int)]] [] []) ∧ (0 : Int) < (↑(bl l.length) : Int) ∧ aCall (Sof cs26) (AV.fn (Fn.func (62 : Nat)) [] []) [AV.agg [I p, AV.int IntKind.u32 (↑(sOf cl).toNat : Int)], AV.sl (trisA l) l.length q, I 0, I (↑(bl l.length) : Int)] (H.mk [[I p, AV.int IntKind.u32 (↑(sOf cl).toNat : Int)]] [] []) = some (AV.bool true, H.mk [[I p, AV.int IntKind.u32 (↑(sOf cl).toNat : Int)]] [] []) ∧ (AV.tup [I (↑(bl l.length) : Int), AV.bool true, I 0], H.mk [] [] []) = (AV.tup [I (if true = true then (↑(bl l.length) : Int) else (0 : Int)), AV.bool true, I 0], H.mk [] [] [])) (by kernel_rfl) ?_
          refine ⟨acall_hit (c := c52g.to) (p, cl, r) _ rfl hc, ?_⟩
          refine ⟨by first | exact told_conv (by kernel_rfl) (by kernel_rfl) (by with_reducible assumption) | exact told_conv (by kernel_rfl) (by kernel_rfl) ev0 | exact told_conv (by kernel_rfl) (by kernel_rfl) ev1 | exact told_conv (by kernel_rfl) (by kernel_rfl) ev2 | exact told_conv (by kernel_rfl) (by kernel_rfl) ev3 | exact told_conv (by kernel_rfl) (by kernel_rfl) ev4 | exact told_conv (by kernel_rfl) (by kernel_rfl) ev5 | exact told_conv (by kernel_rfl) (by kernel_rfl) ev6 | exact told_conv (by kernel_rfl) (by kernel_rfl) ev7 | exact told_conv (by kernel_rfl) (by kernel_rfl) ev8 | exact told_conv (by kernel_rfl) (by kernel_rfl) ev9 | exact told_conv (by kernel_rfl) (by kernel_rfl) ev10 | exact told_conv (by kernel_rfl) (by kernel_rfl) ev11, ?_⟩
          refine ⟨acall_hit (c := c60.to) l.length _ rfl z60, ?_⟩
          refine ⟨by first | exact told_shl (by first | exact Int.natCast_nonneg _ | omega) (by with_reducible assumption) | exact told_shl (by omega) rfl, ?_⟩
          refine ⟨told_sub (by with_reducible assumption), ?_⟩
          refine ⟨by first | with_reducible assumption | omega | assumption, ?_⟩
          refine ⟨acall_b (acall_hit (c := c61.to) (l, q) _ rfl z61) h2, ?_⟩
          refine ⟨by first | with_reducible assumption | omega | assumption, ?_⟩
          refine ⟨acall_b (acall_hit (c := c62.to) ((p, sOf cl), (l, q), 0, bl l.length) _ rfl z62) h4, ?_⟩
          rfl
  · have h1' : (l.length : Int) ≠ (E : Int) := by omega
    have e : ckB p (sOf cl) l = false := by simp [ckB, ← hE, h1]
    rw [ckV, e]
    refine body_s ([Ans.o (Orc.val 15 (AV.tup [AV.agg [I p, AV.int IntKind.u32 (↑(sOf cl).toNat : Int)], AV.bool true]) (H.mk [] [] [])), Ans.o (Orc.val 22 (AV.int IntKind.u64 (↑l.length : Int)) H.nil), Ans.o (Orc.val 23 (I (↑(bl l.length) : Int)) (H.mk [[I p, AV.int IntKind.u32 (↑(sOf cl).toNat : Int)]] [] [])), Ans.o (Orc.val 27 (I (↑((2 : Nat) ^ bl l.length) : Int)) H.nil), Ans.o (Orc.val 28 (I (↑E : Int)) H.nil), Ans.o (Orc.b true)]) (aCall (Sof cs26) (AV.fn (Fn.func (52 : Nat)) [] []) [I p, AV.sl (ints cl) cl.length r] (H.mk [] [] []) = some (AV.tup [AV.agg [I p, AV.int IntKind.u32 (↑(sOf cl).toNat : Int)], AV.bool true], H.mk [] [] []) ∧ aConvert Tryd.prog (3 : Nat) (64 : Nat) (I (↑l.length : Int)) = some (AV.int IntKind.u64 (↑l.length : Int)) ∧ aCall (Sof cs26) (AV.fn (Fn.func (60 : Nat)) [] []) [AV.int IntKind.u64 (↑l.length : Int)] (H.mk [[I p, AV.int IntKind.u32 (↑(sOf cl).toNat : Int)]] [] []) = some (I (↑(bl l.length) : Int), H.mk [[I p, AV.int IntKind.u32 (↑(sOf cl).toNat : Int)]] [] []) ∧ aBin Tryd.prog BinOp.shl (3 : Nat) (I 1) (I (↑(bl l.length) : Int)) = some (I (↑((2 : Nat) ^ bl l.length) : Int)) ∧ aBin Tryd.prog BinOp.sub (3 : Nat) (I (↑((2 : Nat) ^ bl l.length) : Int)) (I 1) = some (I (↑E : Int)) ∧ (↑l.length : Int) ≠ (↑E : Int) ∧ (AV.tup [I 0, AV.bool false, I 0], H.mk [] [] []) = (AV.tup [I (if false = true then (↑(bl l.length) : Int) else (0 : Int)), AV.bool false, I 0], H.mk [] [] [])) (by kernel_rfl) ?_
    refine ⟨acall_hit (c := c52g.to) (p, cl, r) _ rfl hc, ?_⟩
    refine ⟨by first | exact told_conv (by kernel_rfl) (by kernel_rfl) (by with_reducible assumption) | exact told_conv (by kernel_rfl) (by kernel_rfl) ev0 | exact told_conv (by kernel_rfl) (by kernel_rfl) ev1 | exact told_conv (by kernel_rfl) (by kernel_rfl) ev2 | exact told_conv (by kernel_rfl) (by kernel_rfl) ev3 | exact told_conv (by kernel_rfl) (by kernel_rfl) ev4 | exact told_conv (by kernel_rfl) (by kernel_rfl) ev5 | exact told_conv (by kernel_rfl) (by kernel_rfl) ev6 | exact told_conv (by kernel_rfl) (by kernel_rfl) ev7 | exact told_conv (by kernel_rfl) (by kernel_rfl) ev8 | exact told_conv (by kernel_rfl) (by kernel_rfl) ev9 | exact told_conv (by kernel_rfl) (by kernel_rfl) ev10 | exact told_conv (by kernel_rfl) (by kernel_rfl) ev11, ?_⟩
    refine ⟨acall_hit (c := c60.to) l.length _ rfl z60, ?_⟩
    refine ⟨by first | exact told_shl (by first | exact Int.natCast_nonneg _ | omega) (by with_reducible assumption) | exact told_shl (by omega) rfl, ?_⟩
    refine ⟨told_sub (by with_reducible assumption), ?_⟩
    refine ⟨by first | with_reducible assumption | omega | assumption, ?_⟩
    rfl
/-- 'Check' of a class -/
noncomputable def c26g : PCtr Tryd.prog where
  f := 26
  X := (Int × List Int × Room) × List Tri × Room
  args x := [I x.1.1, ls x.1.2.1 x.1.2.2, tS x.2.1 x.2.2]
  pre x := CkP x.1.1 x.1.2.1 x.1.2.2 x.2.1 x.2.2
  v x := ckV x.1.1 (sOf x.1.2.1) x.2.1
  det := by
    rintro ⟨⟨p, l, r⟩, t, q⟩ ⟨⟨p', l', r'⟩, t', q'⟩ e _ _
    simp at e
    obtain ⟨rfl, ⟨rfl, _⟩, rfl, _⟩ := e
    rfl
  ok := by
    rintro ⟨⟨p, l, r⟩, t, q⟩ h
    refine ⟨ok26.call, fun H => CallOk.wk ?_⟩
    exact pure_call ((r26 p l r.wk t q.wk ⟨⟨h.c.1, by simpa using h.c.2⟩, h.n, by simpa using h.q⟩).run ok26 ct26 rfl) (by simp [AV.bnds, AV.bnd, rm_wk_bnd]) (by simp [AV.bnd, AV.bnds]) H
end Go.Proofs.Lrn

