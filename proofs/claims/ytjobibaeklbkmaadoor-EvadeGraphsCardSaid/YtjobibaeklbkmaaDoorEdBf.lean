/- Layer 8: Spread and Property. -/
import Derived.Test.YtjobibaeklbkmaaDoorEdBd
import Derived.Test.YtjobibaeklbkmaaDoorEdBe
import Derived.Test.YtjobibaeklbkmaaDoorEdAe
import Derived.KernelRfl
set_option linter.unusedSimpArgs false
set_option linter.unusedVariables false
set_option linter.unnecessarySimpa false
set_option maxHeartbeats 4000000
set_option maxRecDepth 100000
namespace Go.Proofs.Evd
open Go Go.VM
open Go.Proofs.Sur (W w_wrap w_nat w_inj w_eq0 w_and w_or w_andn w_shl w_shr neg_nat sub_nat tz tz_ok cl bits_cons bits_0 bits_len andn andn_bit andn_le i_wrap i_and i_or i_andn i_shl i_shr bit_01)

theorem ok95 : FokM Tryd.prog none1 95 Tryd.f95 := ⟨mixed, by kernel_rfl, by kernel_rfl, by kernel_rfl, by kernel_rfl⟩
theorem r95 (m : Int) (hp : True) : Body ⟨Tryd.prog, Sof (P := Tryd.prog) [], Pof (P := Tryd.prog) [], H.nil.base, 300⟩ none1 Tryd.f95 [I m] .nil (.bool (decide (2 ≤ m ∧ m ≤ 4)), .nil) := by
  refine body_s ([Ans.fork [Ans.fork [] []] []]) (((2 : Int) ≤ m → (m ≤ (4 : Int) → (AV.bool true, H.mk [] [] []) = (AV.bool (decide ((2 : Int) ≤ m ∧ m ≤ (4 : Int))), H.mk [] [] [])) ∧ ((4 : Int) < m → (AV.bool false, H.mk [] [] []) = (AV.bool (decide ((2 : Int) ≤ m ∧ m ≤ (4 : Int))), H.mk [] [] []))) ∧ (m < (2 : Int) → (AV.bool false, H.mk [] [] []) = (AV.bool (decide ((2 : Int) ≤ m ∧ m ≤ (4 : Int))), H.mk [] [] []))) (by kernel_rfl) ?_
  refine And.intro ?_ ?_
  · skip
    intro w0
    refine And.intro ?_ ?_
    · skip
      intro w1
      first | with_reducible rfl | (refine bleaf_t ?_; omega) | (refine bleaf_f ?_; omega) | (refine ileaf ?_; omega) | rfl | (exfalso; omega)
    · skip
      intro w1
      first | with_reducible rfl | (refine bleaf_t ?_; omega) | (refine bleaf_f ?_; omega) | (refine ileaf ?_; omega) | rfl | (exfalso; omega)
  · skip
    intro w0
    first | with_reducible rfl | (refine bleaf_t ?_; omega) | (refine bleaf_f ?_; omega) | (refine ileaf ?_; omega) | rfl | (exfalso; omega)
noncomputable def c95 : PCtr Tryd.prog := sctr ok95 (X := Int) (fun x => [I x]) (fun x => True) (fun x => .bool (decide (2 ≤ x ∧ x ≤ 4))) (by intro x y e _ _; simp [Int.natCast_inj] at e; simp [e]) (fun x => by simp [AV.bnds, AV.bnd, AV.wk, rm_wk_bnd]) (fun x => by first | rfl | (simp [AV.bnd, rm_wk_bnd]; done)  | (simp [AV.bnd, AV.bnds, rm_wk_bnd]; done) | simp [AV.bnd, AV.bnds, Room.bnd, rm_wk_bnd]) (fun x hx => ⟨_, _, _, .nil, r95 (x) hx⟩)
theorem ok49 : FokM Tryd.prog none1 49 Tryd.f49 := ⟨mixed, by kernel_rfl, by kernel_rfl, by kernel_rfl, by kernel_rfl⟩
theorem r49 (m : Int) (hp : True) : Body ⟨Tryd.prog, Sof (P := Tryd.prog) [], Pof (P := Tryd.prog) [], H.nil.base, 300⟩ none1 Tryd.f49 [I m] .nil (.bool (decide (2 ≤ m ∧ m ≤ 4)), .nil) := by
  refine body_s ([Ans.fork [Ans.fork [] []] []]) (((2 : Int) ≤ m → (m ≤ (4 : Int) → (AV.bool true, H.mk [] [] []) = (AV.bool (decide ((2 : Int) ≤ m ∧ m ≤ (4 : Int))), H.mk [] [] [])) ∧ ((4 : Int) < m → (AV.bool false, H.mk [] [] []) = (AV.bool (decide ((2 : Int) ≤ m ∧ m ≤ (4 : Int))), H.mk [] [] []))) ∧ (m < (2 : Int) → (AV.bool false, H.mk [] [] []) = (AV.bool (decide ((2 : Int) ≤ m ∧ m ≤ (4 : Int))), H.mk [] [] []))) (by kernel_rfl) ?_
  refine And.intro ?_ ?_
  · skip
    intro w0
    refine And.intro ?_ ?_
    · skip
      intro w1
      first | with_reducible rfl | (refine bleaf_t ?_; omega) | (refine bleaf_f ?_; omega) | (refine ileaf ?_; omega) | rfl | (exfalso; omega)
    · skip
      intro w1
      first | with_reducible rfl | (refine bleaf_t ?_; omega) | (refine bleaf_f ?_; omega) | (refine ileaf ?_; omega) | rfl | (exfalso; omega)
  · skip
    intro w0
    first | with_reducible rfl | (refine bleaf_t ?_; omega) | (refine bleaf_f ?_; omega) | (refine ileaf ?_; omega) | rfl | (exfalso; omega)
noncomputable def c49 : PCtr Tryd.prog := sctr ok49 (X := Int) (fun x => [I x]) (fun x => True) (fun x => .bool (decide (2 ≤ x ∧ x ≤ 4))) (by intro x y e _ _; simp [Int.natCast_inj] at e; simp [e]) (fun x => by simp [AV.bnds, AV.bnd, AV.wk, rm_wk_bnd]) (fun x => by first | rfl | (simp [AV.bnd, rm_wk_bnd]; done)  | (simp [AV.bnd, AV.bnds, rm_wk_bnd]; done) | simp [AV.bnd, AV.bnds, Room.bnd, rm_wk_bnd]) (fun x hx => ⟨_, _, _, .nil, r49 (x) hx⟩)
theorem ok50 : FokM Tryd.prog none1 50 Tryd.f50 := ⟨mixed, by kernel_rfl, by kernel_rfl, by kernel_rfl, by kernel_rfl⟩
theorem r50 (m : Nat) (hp : 2 ≤ m ∧ m ≤ 4) : Body ⟨Tryd.prog, Sof (P := Tryd.prog) [], Pof (P := Tryd.prog) [], H.nil.base, 300⟩ none1 Tryd.f50 [I m] .nil (I (nP m), .nil) := by
  have ev0 : IntKind.i64.wrap ((m : Int) - 1) = ((m - 1 : Nat) : Int) := by rw [wr _ (by omega) (by omega)]; omega
  have hc : m = 2 ∨ m = 3 ∨ m = 4 := by omega
  have ev1 : IntKind.i64.wrap ((m : Int) * ((m - 1 : Nat) : Int)) = ((m * (m - 1) : Nat) : Int) := by
    rcases hc with rfl | rfl | rfl <;> decide
  have ev2 : IntKind.i64.wrap (((m * (m - 1) : Nat) : Int).tdiv 2) = ((nP m : Nat) : Int) := by
    rcases hc with rfl | rfl | rfl <;> decide
  refine body_s ([Ans.o (Orc.val 5 (I (↑(m - (1 : Nat)) : Int)) H.nil), Ans.o (Orc.val 6 (I (↑(m * (m - (1 : Nat))) : Int)) H.nil), Ans.o (Orc.val 7 (I (↑(nP m) : Int)) H.nil)]) (aBin Tryd.prog BinOp.sub (3 : Nat) (I (↑m : Int)) (I 1) = some (I (↑(m - (1 : Nat)) : Int)) ∧ aBin Tryd.prog BinOp.mul (3 : Nat) (I (↑m : Int)) (I (↑(m - (1 : Nat)) : Int)) = some (I (↑(m * (m - (1 : Nat))) : Int)) ∧ aBin Tryd.prog BinOp.quo (3 : Nat) (I (↑(m * (m - (1 : Nat))) : Int)) (I 2) = some (I (↑(nP m) : Int)) ∧ (I (↑(nP m) : Int), H.mk [] [] []) = (I (↑(nP m) : Int), H.mk [] [] [])) (by kernel_rfl) ?_
  refine ⟨told_sub (by with_reducible assumption), ?_⟩
  refine ⟨told_mul (by with_reducible assumption), ?_⟩
  refine ⟨told_quo (by first | decide | omega) (by with_reducible assumption), ?_⟩
  first | with_reducible rfl | (refine bleaf_t ?_; omega) | (refine bleaf_f ?_; omega) | (refine ileaf ?_; omega) | rfl | (exfalso; omega)
noncomputable def c50 : PCtr Tryd.prog := sctr ok50 (X := Nat) (fun x => [I x]) (fun x => 2 ≤ x ∧ x ≤ 4) (fun x => I (nP x)) (by intro x y e _ _; simp [Int.natCast_inj] at e; simp [e]) (fun x => by simp [AV.bnds, AV.bnd, AV.wk, rm_wk_bnd]) (fun x => by first | rfl | (simp [AV.bnd, rm_wk_bnd]; done)  | (simp [AV.bnd, AV.bnds, rm_wk_bnd]; done) | simp [AV.bnd, AV.bnds, Room.bnd, rm_wk_bnd]) (fun x hx => ⟨_, _, _, .nil, r50 (x) hx⟩)
def cells96 : Nat → List AV
  | 2 => ps2.flatMap fun p => [I p.1, I p.2]
  | 3 => ps3.flatMap fun p => [I p.1, I p.2]
  | _ => ps4.flatMap fun p => [I p.1, I p.2]
noncomputable def c96 : PCtr Tryd.prog where
  f := 96
  X := Nat
  args m := [I m]
  pre m := 2 ≤ m ∧ m ≤ 4
  v m := .sl (cells96 m) (nP m) .no
  det := by
    intro m m' e _ _
    simp at e
    have : m = m' := by omega
    subst this; rfl
  ok := by
    intro m h
    refine ⟨by kernel_rfl, fun H => ?_⟩
    have hc : m = 2 ∨ m = 3 ∨ m = 4 := by omega
    rcases hc with rfl | rfl | rfl
    · exact pure_call a96_2 rfl rfl H
    · exact pure_call a96_3 rfl rfl H
    · exact pure_call a96_4 rfl rfl H
/-- the least property with graphs -/
def spV (m : Nat) (F : W) : W := cls (fix m F)
theorem nl_ic (k : List Nat) : nl (ic k) = k := by simp [nl, ic, List.map_map, Function.comp_def]
theorem rng_ic {n : Nat} (hn : n ≤ 6) {k : List Nat} (h : oks n (ic k)) : rng (ic k) := fun i hi => by
  have := h i hi
  have := p64 hn
  omega
@[simp] theorem ic_inj_iff (k l : List Nat) : (ic k = ic l) ↔ k = l := ⟨ic_inj, fun h => h ▸ rfl⟩
theorem pd_t {m : Nat} (h : 2 ≤ m ∧ m ≤ 4) : decide (2 ≤ (m : Int) ∧ (m : Int) ≤ 4) = true := decide_eq_true (by omega)
theorem ok48g : FokM Tryd.prog none1 48 Tryd.f48 := ⟨mixed, by kernel_rfl, by kernel_rfl, by kernel_rfl, by kernel_rfl⟩
theorem r48g (m : Nat) (k : List Nat) (r : Room) (hp : (2 ≤ m ∧ m ≤ 4) ∧ rok (ic k) r ∧ okS (nP m : Nat) (ic k)) : Body ⟨Tryd.prog, Sof (P := Tryd.prog) [c95.to, c96.to, c65g.to, c97.to, c67.to], Pof (P := Tryd.prog) [], H.nil.base, 300⟩ none1 Tryd.f48 [I m, ls (ic k) r] .nil (.tup [ls (lst (spV m (fm k))) (rn (lst (spV m (fm k)))), I 0], .nil) := by
  have hd := pd_t hp.1
  have hn := nP_6 hp.1.2
  have h64 := p64 hn
  have p2 := Nat.two_pow_pos (nP m)
  have hr64 : 2 ^ nP m - 1 < 64 := by omega
  have p65 : (rok (ic k) r ∧ rng (ic k)) ∧ okS (nP m : Nat) (ic k) := ⟨⟨hp.2.1, rng_ic hn (by have := hp.2.2.2.2; simpa using this)⟩, hp.2.2⟩
  have p97 : (2 ≤ m ∧ m ≤ 4) ∧ 2 ^ nP m - 1 < 64 := ⟨hp.1, hr64⟩
  rw [show fm k = fm (nl (ic k)) by rw [nl_ic]]
  refine body_s ([Ans.o (Orc.val 9 (AV.bool true) (H.mk [] [] [])), Ans.o (Orc.val 13 (AV.sl (cells96 m) (nP m) Room.no) (H.mk [] [] [])), Ans.o (Orc.val 16 (AV.tup [AV.agg [I (↑((2 : Nat) ^ nP m - (1 : Nat)) : Int), AV.int IntKind.u64 (↑(BitVec.toNat (fm (nl (ic k)))) : Int)], AV.bool true]) (H.mk [] [] [])), Ans.o (Orc.val 23 (AV.agg [I (↑((2 : Nat) ^ nP m - (1 : Nat)) : Int), AV.int IntKind.u64 (↑(BitVec.toNat (cls (fix m (fm (nl (ic k)))))) : Int)]) (H.mk [[I (↑((2 : Nat) ^ nP m - (1 : Nat)) : Int), AV.int IntKind.u64 (↑(BitVec.toNat (fm (nl (ic k)))) : Int)]] [] [])), Ans.o (Orc.val 24 (AV.sl (ints (lst (cls (fix m (fm (nl (ic k))))))) (lst (cls (fix m (fm (nl (ic k)))))).length (rn (lst (cls (fix m (fm (nl (ic k)))))))) (H.mk [[I (↑((2 : Nat) ^ nP m - (1 : Nat)) : Int), AV.int IntKind.u64 (↑(BitVec.toNat (fm (nl (ic k)))) : Int)]] [] []))]) (aCall (Sof [c95.to, c96.to, c65g.to, c97.to, c67.to]) (AV.fn (Fn.func (95 : Nat)) [] []) [I (↑m : Int)] (H.mk [] [] []) = some (AV.bool true, H.mk [] [] []) ∧ aCall (Sof [c95.to, c96.to, c65g.to, c97.to, c67.to]) (AV.fn (Fn.func (96 : Nat)) [] []) [I (↑m : Int)] (H.mk [] [] []) = some (AV.sl (cells96 m) (nP m) Room.no, H.mk [] [] []) ∧ aCall (Sof [c95.to, c96.to, c65g.to, c97.to, c67.to]) (AV.fn (Fn.func (65 : Nat)) [] []) [I (↑(nP m) : Int), AV.sl (ints (ic k)) (ic k).length r] (H.mk [] [] []) = some (AV.tup [AV.agg [I (↑((2 : Nat) ^ nP m - (1 : Nat)) : Int), AV.int IntKind.u64 (↑(BitVec.toNat (fm (nl (ic k)))) : Int)], AV.bool true], H.mk [] [] []) ∧ aCall (Sof [c95.to, c96.to, c65g.to, c97.to, c67.to]) (AV.fn (Fn.func (97 : Nat)) [] []) [AV.agg [I (↑((2 : Nat) ^ nP m - (1 : Nat)) : Int), AV.int IntKind.u64 (↑(BitVec.toNat (fm (nl (ic k)))) : Int)], I (↑m : Int)] (H.mk [[I (↑((2 : Nat) ^ nP m - (1 : Nat)) : Int), AV.int IntKind.u64 (↑(BitVec.toNat (fm (nl (ic k)))) : Int)]] [] []) = some (AV.agg [I (↑((2 : Nat) ^ nP m - (1 : Nat)) : Int), AV.int IntKind.u64 (↑(BitVec.toNat (cls (fix m (fm (nl (ic k)))))) : Int)], H.mk [[I (↑((2 : Nat) ^ nP m - (1 : Nat)) : Int), AV.int IntKind.u64 (↑(BitVec.toNat (fm (nl (ic k)))) : Int)]] [] []) ∧ aCall (Sof [c95.to, c96.to, c65g.to, c97.to, c67.to]) (AV.fn (Fn.func (67 : Nat)) [] []) [AV.agg [I (↑((2 : Nat) ^ nP m - (1 : Nat)) : Int), AV.int IntKind.u64 (↑(BitVec.toNat (cls (fix m (fm (nl (ic k)))))) : Int)]] (H.mk [[I (↑((2 : Nat) ^ nP m - (1 : Nat)) : Int), AV.int IntKind.u64 (↑(BitVec.toNat (fm (nl (ic k)))) : Int)]] [] []) = some (AV.sl (ints (lst (cls (fix m (fm (nl (ic k))))))) (lst (cls (fix m (fm (nl (ic k)))))).length (rn (lst (cls (fix m (fm (nl (ic k))))))), H.mk [[I (↑((2 : Nat) ^ nP m - (1 : Nat)) : Int), AV.int IntKind.u64 (↑(BitVec.toNat (fm (nl (ic k)))) : Int)]] [] []) ∧ leave (Base.mk H.nil.blk.length H.nil.toks.length H.nil.maps.length) (AV.tup [AV.sl (ints (lst (cls (fix m (fm (nl (ic k))))))) (lst (cls (fix m (fm (nl (ic k)))))).length (rn (lst (cls (fix m (fm (nl (ic k))))))), I 0]) (H.mk [[I (↑((2 : Nat) ^ nP m - (1 : Nat)) : Int), AV.int IntKind.u64 (↑(BitVec.toNat (fm (nl (ic k)))) : Int)]] [] []) = (AV.tup [AV.sl (ints (lst (spV m (fm (nl (ic k)))))) (lst (spV m (fm (nl (ic k))))).length (rn (lst (spV m (fm (nl (ic k)))))), I 0], H.mk [] [] [])) (by kernel_rfl) ?_
  refine ⟨acall_b (acall_hit (c := c95.to) (m : Int) _ rfl trivial) hd, ?_⟩
  refine ⟨acall_hit (c := c96.to) m _ rfl hp.1, ?_⟩
  refine ⟨acall_hit (c := c65g.to) (nP m, ic k, r) _ rfl p65, ?_⟩
  refine ⟨acall_hit (c := c97.to) (2 ^ nP m - 1, fm (nl (ic k)), m) _ rfl p97, ?_⟩
  refine ⟨acall_hit (c := c67.to) (2 ^ nP m - 1, cls (fix m (fm (nl (ic k))))) _ rfl trivial, ?_⟩
  first | rfl | (exfalso; omega) | exact leave_bs _ (by simp [AV.bnd, AV.bnds, rm_wk_bnd])
noncomputable def c48g : PCtr Tryd.prog := sctr ok48g (X := Nat × List Nat × Room) (fun x => [I x.1, ls (ic x.2.1) x.2.2]) (fun x => (2 ≤ x.1 ∧ x.1 ≤ 4) ∧ rok (ic x.2.1) x.2.2 ∧ okS (nP x.1 : Nat) (ic x.2.1)) (fun x => .tup [ls (lst (spV x.1 (fm x.2.1))) (rn (lst (spV x.1 (fm x.2.1)))), I 0]) (by intro x y e _ _; simp [Int.natCast_inj] at e; simp [e]) (fun x => by simp [AV.bnds, AV.bnd, AV.wk, rm_wk_bnd]) (fun x => by first | rfl | (simp [AV.bnd, rm_wk_bnd]; done)  | (simp [AV.bnd, AV.bnds, rm_wk_bnd]; done) | simp [AV.bnd, AV.bnds, Room.bnd, rm_wk_bnd]) (fun x hx => ⟨_, _, _, .pure c95 (.pure c96 (.pure c65g (.pure c97 (.pure c67 (.nil))))), r48g (x.1) (x.2.1) (x.2.2).wk (by first | exact hx | (simp only [rok_wk]; exact hx) | (simp only [rok_wk, lst_wk]; exact hx) | (simp only [rok_wk, lst_wk, lsn_wk]; exact hx))⟩)
theorem ok48b : FokM Tryd.prog none1 48 Tryd.f48 := ⟨mixed, by kernel_rfl, by kernel_rfl, by kernel_rfl, by kernel_rfl⟩
theorem r48b (m : Nat) (l : List Int) (r : Room) (hp : ((2 ≤ m ∧ m ≤ 4) ∧ lim l.length ∧ rok l r ∧ rng l) ∧ ¬ okS (nP m : Nat) l) : Body ⟨Tryd.prog, Sof (P := Tryd.prog) [c95.to, c96.to, c65b.to], Pof (P := Tryd.prog) [], H.nil.base, 300⟩ none1 Tryd.f48 [I m, ls l r] .nil (.tup [.sl [] 0 .nil, I 2], .nil) := by
  have hd := pd_t hp.1.1
  have p65 : (lim l.length ∧ rok l r ∧ rng l) ∧ ¬ okS (nP m : Nat) l := ⟨hp.1.2, hp.2⟩
  refine body_s ([Ans.o (Orc.val 9 (AV.bool true) (H.mk [] [] [])), Ans.o (Orc.val 13 (AV.sl (cells96 m) (nP m) Room.no) (H.mk [] [] [])), Ans.o (Orc.val 16 (AV.tup [AV.agg [I 0, AV.int IntKind.u64 (0 : Int)], AV.bool false]) (H.mk [] [] []))]) (aCall (Sof [c95.to, c96.to, c65b.to]) (AV.fn (Fn.func (95 : Nat)) [] []) [I (↑m : Int)] (H.mk [] [] []) = some (AV.bool true, H.mk [] [] []) ∧ aCall (Sof [c95.to, c96.to, c65b.to]) (AV.fn (Fn.func (96 : Nat)) [] []) [I (↑m : Int)] (H.mk [] [] []) = some (AV.sl (cells96 m) (nP m) Room.no, H.mk [] [] []) ∧ aCall (Sof [c95.to, c96.to, c65b.to]) (AV.fn (Fn.func (65 : Nat)) [] []) [I (↑(nP m) : Int), AV.sl (ints l) l.length r] (H.mk [] [] []) = some (AV.tup [AV.agg [I 0, AV.int IntKind.u64 (0 : Int)], AV.bool false], H.mk [] [] []) ∧ (AV.tup [AV.sl [] (0 : Nat) Room.nil, I 2], H.mk [] [] []) = (AV.tup [AV.sl [] (0 : Nat) Room.nil, I 2], H.mk [] [] [])) (by kernel_rfl) ?_
  refine ⟨acall_b (acall_hit (c := c95.to) (m : Int) _ rfl trivial) hd, ?_⟩
  refine ⟨acall_hit (c := c96.to) m _ rfl hp.1.1, ?_⟩
  refine ⟨acall_hit (c := c65b.to) ((nP m : Nat), l, r) _ rfl p65, ?_⟩
  first | rfl | (exfalso; omega)
noncomputable def c48b : PCtr Tryd.prog := sctr ok48b (X := Nat × List Int × Room) (fun x => [I x.1, ls x.2.1 x.2.2]) (fun x => ((2 ≤ x.1 ∧ x.1 ≤ 4) ∧ lim x.2.1.length ∧ rok x.2.1 x.2.2 ∧ rng x.2.1) ∧ ¬ okS (nP x.1 : Nat) x.2.1) (fun x => .tup [.sl [] 0 .nil, I 2]) (by intro x y e _ _; simp [Int.natCast_inj] at e; simp [e]) (fun x => by simp [AV.bnds, AV.bnd, AV.wk, rm_wk_bnd]) (fun x => by first | rfl | (simp [AV.bnd, rm_wk_bnd]; done)  | (simp [AV.bnd, AV.bnds, rm_wk_bnd]; done) | simp [AV.bnd, AV.bnds, Room.bnd, rm_wk_bnd]) (fun x hx => ⟨_, _, _, .pure c95 (.pure c96 (.pure c65b (.nil))), r48b (x.1) (x.2.1) (x.2.2).wk (by first | exact hx | (simp only [rok_wk]; exact hx) | (simp only [rok_wk, lst_wk]; exact hx) | (simp only [rok_wk, lst_wk, lsn_wk]; exact hx))⟩)
theorem ok48m : FokM Tryd.prog none1 48 Tryd.f48 := ⟨mixed, by kernel_rfl, by kernel_rfl, by kernel_rfl, by kernel_rfl⟩
theorem r48m (m : Int) (l : List Int) (r : Room) (hp : ¬ (2 ≤ m ∧ m ≤ 4)) : Body ⟨Tryd.prog, Sof (P := Tryd.prog) [c95.to], Pof (P := Tryd.prog) [], H.nil.base, 300⟩ none1 Tryd.f48 [I m, ls l r] .nil (.tup [.sl [] 0 .nil, I 2], .nil) := by
  have hd : decide (2 ≤ m ∧ m ≤ 4) = false := decide_eq_false hp
  refine body_s ([Ans.o (Orc.val 9 (AV.bool false) (H.mk [] [] []))]) (aCall (Sof [c95.to]) (AV.fn (Fn.func (95 : Nat)) [] []) [I m] (H.mk [] [] []) = some (AV.bool false, H.mk [] [] []) ∧ (AV.tup [AV.sl [] (0 : Nat) Room.nil, I 2], H.mk [] [] []) = (AV.tup [AV.sl [] (0 : Nat) Room.nil, I 2], H.mk [] [] [])) (by kernel_rfl) ?_
  refine ⟨acall_b (acall_hit (c := c95.to) m _ rfl trivial) hd, ?_⟩
  first | rfl | (exfalso; omega)
noncomputable def c48m : PCtr Tryd.prog := sctr ok48m (X := Int × List Int × Room) (fun x => [I x.1, ls x.2.1 x.2.2]) (fun x => ¬ (2 ≤ x.1 ∧ x.1 ≤ 4)) (fun x => .tup [.sl [] 0 .nil, I 2]) (by intro x y e _ _; simp [Int.natCast_inj] at e; simp [e]) (fun x => by simp [AV.bnds, AV.bnd, AV.wk, rm_wk_bnd]) (fun x => by first | rfl | (simp [AV.bnd, rm_wk_bnd]; done)  | (simp [AV.bnd, AV.bnds, rm_wk_bnd]; done) | simp [AV.bnd, AV.bnds, Room.bnd, rm_wk_bnd]) (fun x hx => ⟨_, _, _, .pure c95 (.nil), r48m (x.1) (x.2.1) (x.2.2).wk (by first | exact hx | (simp only [rok_wk]; exact hx) | (simp only [rok_wk, lst_wk]; exact hx) | (simp only [rok_wk, lst_wk, lsn_wk]; exact hx))⟩)
theorem sp_same {m : Nat} (hm : 2 ≤ m ∧ m ≤ 4) {F : W} (hd : Dn F) (hI : Inv m F) : cls (fix m F) = F := by
  rw [fix_same (of_inv hm hI)]; exact cls_fix.2 hd
theorem ok47t : FokM Tryd.prog none1 47 Tryd.f47 := ⟨mixed, by kernel_rfl, by kernel_rfl, by kernel_rfl, by kernel_rfl⟩
theorem r47t (m : Nat) (F : W) (r : Room) (hp : (2 ≤ m ∧ m ≤ 4) ∧ (Fm (nP m : Nat) (lst F) F ∧ rok (lst F) r) ∧ Inv m F) : Body ⟨Tryd.prog, Sof (P := Tryd.prog) [c95.to, c96.to, c74g.to, c97.to], Pof (P := Tryd.prog) [], H.nil.base, 300⟩ none1 Tryd.f47 [I m, ls (lst F) r] .nil (.tup [.bool true, I 0], .nil) := by
  have hd := pd_t hp.1
  have hr64 := full_lt hp.2.1.1
  have p97 : (2 ≤ m ∧ m ≤ 4) ∧ 2 ^ ((nP m : Nat) : Int).toNat - 1 < 64 := ⟨hp.1, hr64⟩
  have hsame := sp_same hp.1 hp.2.1.1.dn hp.2.2
  have heq : aBin Tryd.prog .eql 76 (fA (2 ^ ((nP m : Nat) : Int).toNat - 1) F) (fA (2 ^ ((nP m : Nat) : Int).toNat - 1) (cls (fix m F))) = some (.bool true) := by
    have h1 : Tryd.prog.eqGuardType Tryd.prog.depth 76 = false := by kernel_rfl
    have hne : decide ((2 ^ ((nP m : Nat) : Int).toNat - 1, F) = (2 ^ ((nP m : Nat) : Int).toNat - 1, cls (fix m F))) = true := decide_eq_true (by rw [hsame])
    simp only [aBin, h1, fA_eq, hne, eqOnly]; rfl
  refine body_s ([Ans.o (Orc.val 9 (AV.bool true) (H.mk [] [] [])), Ans.o (Orc.val 13 (AV.sl (cells96 m) (nP m) Room.no) (H.mk [] [] [])), Ans.o (Orc.val 16 (AV.tup [AV.agg [I (↑((2 : Nat) ^ (↑(nP m) : Int).toNat - (1 : Nat)) : Int), u64A F], AV.bool true]) (H.mk [] [] [])), Ans.o (Orc.val 24 (AV.agg [I (↑((2 : Nat) ^ (↑(nP m) : Int).toNat - (1 : Nat)) : Int), AV.int IntKind.u64 (↑(BitVec.toNat (cls (fix m F))) : Int)]) (H.mk [[I (↑((2 : Nat) ^ (↑(nP m) : Int).toNat - (1 : Nat)) : Int), u64A F]] [] [])), Ans.bfork (25 : Nat) [] []]) (aCall (Sof [c95.to, c96.to, c74g.to, c97.to]) (AV.fn (Fn.func (95 : Nat)) [] []) [I (↑m : Int)] (H.mk [] [] []) = some (AV.bool true, H.mk [] [] []) ∧ aCall (Sof [c95.to, c96.to, c74g.to, c97.to]) (AV.fn (Fn.func (96 : Nat)) [] []) [I (↑m : Int)] (H.mk [] [] []) = some (AV.sl (cells96 m) (nP m) Room.no, H.mk [] [] []) ∧ aCall (Sof [c95.to, c96.to, c74g.to, c97.to]) (AV.fn (Fn.func (74 : Nat)) [] []) [I (↑(nP m) : Int), AV.sl (ints (lst F)) (lst F).length r] (H.mk [] [] []) = some (AV.tup [AV.agg [I (↑((2 : Nat) ^ (↑(nP m) : Int).toNat - (1 : Nat)) : Int), u64A F], AV.bool true], H.mk [] [] []) ∧ aCall (Sof [c95.to, c96.to, c74g.to, c97.to]) (AV.fn (Fn.func (97 : Nat)) [] []) [AV.agg [I (↑((2 : Nat) ^ (↑(nP m) : Int).toNat - (1 : Nat)) : Int), u64A F], I (↑m : Int)] (H.mk [[I (↑((2 : Nat) ^ (↑(nP m) : Int).toNat - (1 : Nat)) : Int), u64A F]] [] []) = some (AV.agg [I (↑((2 : Nat) ^ (↑(nP m) : Int).toNat - (1 : Nat)) : Int), AV.int IntKind.u64 (↑(BitVec.toNat (cls (fix m F))) : Int)], H.mk [[I (↑((2 : Nat) ^ (↑(nP m) : Int).toNat - (1 : Nat)) : Int), u64A F]] [] []) ∧ (((↑((2 : Nat) ^ (↑(nP m) : Int).toNat - (1 : Nat)) : Int) == (↑((2 : Nat) ^ (↑(nP m) : Int).toNat - (1 : Nat)) : Int) && ((↑(BitVec.toNat F) : Int) == (↑(BitVec.toNat (cls (fix m F))) : Int) && true)) = true → (AV.tup [AV.bool true, I 0], H.mk [] [] []) = (AV.tup [AV.bool true, I 0], H.mk [] [] [])) ∧ (((↑((2 : Nat) ^ (↑(nP m) : Int).toNat - (1 : Nat)) : Int) == (↑((2 : Nat) ^ (↑(nP m) : Int).toNat - (1 : Nat)) : Int) && ((↑(BitVec.toNat F) : Int) == (↑(BitVec.toNat (cls (fix m F))) : Int) && true)) = false → (AV.tup [AV.bool false, I 0], H.mk [] [] []) = (AV.tup [AV.bool true, I 0], H.mk [] [] []))) (by kernel_rfl) ?_
  refine ⟨acall_b (acall_hit (c := c95.to) (m : Int) _ rfl trivial) hd, ?_⟩
  refine ⟨acall_hit (c := c96.to) m _ rfl hp.1, ?_⟩
  refine ⟨acall_hit (c := c74g.to) (((nP m : Nat) : Int), F, r) _ rfl hp.2.1, ?_⟩
  refine ⟨acall_hit (c := c97.to) (2 ^ ((nP m : Nat) : Int).toNat - 1, F, m) _ rfl p97, ?_⟩
  refine And.intro ?_ ?_
  · skip
    intro w0
    first | rfl | (exfalso; omega) | (exfalso; simp [hsame] at w0) | (exfalso; simp [hsame] at w1)
  · skip
    intro w0
    first | rfl | (exfalso; omega) | (exfalso; simp [hsame] at w0) | (exfalso; simp [hsame] at w1)
noncomputable def c47t : PCtr Tryd.prog := sctr ok47t (X := Nat × W × Room) (fun x => [I x.1, ls (lst x.2.1) x.2.2]) (fun x => (2 ≤ x.1 ∧ x.1 ≤ 4) ∧ (Fm (nP x.1 : Nat) (lst x.2.1) x.2.1 ∧ rok (lst x.2.1) x.2.2) ∧ Inv x.1 x.2.1) (fun x => .tup [.bool true, I 0]) (by intro x y e _ _; simp [Int.natCast_inj] at e; simp [e]) (fun x => by simp [AV.bnds, AV.bnd, AV.wk, rm_wk_bnd]) (fun x => by first | rfl | (simp [AV.bnd, rm_wk_bnd]; done)  | (simp [AV.bnd, AV.bnds, rm_wk_bnd]; done) | simp [AV.bnd, AV.bnds, Room.bnd, rm_wk_bnd]) (fun x hx => ⟨_, _, _, .pure c95 (.pure c96 (.pure c74g (.pure c97 (.nil)))), r47t (x.1) (x.2.1) (x.2.2).wk (by first | exact hx | (simp only [rok_wk]; exact hx) | (simp only [rok_wk, lst_wk]; exact hx) | (simp only [rok_wk, lst_wk, lsn_wk]; exact hx))⟩)
/-! ### Contains -/
def fi : List Int → Int → Nat
  | [], _ => 0
  | x :: l, v => if x = v then 0 else fi l v + 1
theorem fi_at {v : Int} : ∀ (l : List Int) (j : Nat), j < l.length → (∀ i, i < j → ia l i ≠ v) → ia l j = v → fi l v = j
  | [], j, h, _, _ => by simp at h
  | x :: l, 0, _, _, h2 => by
    simp only [List.getD_cons_zero] at h2
    simp [fi, h2]
  | x :: l, j + 1, h, h1, h2 => by
    have hx : x ≠ v := by have := h1 0 (by omega); simpa using this
    rw [fi, if_neg hx, fi_at l j (by simpa using h) (fun i hi => by have := h1 (i + 1) (by omega); simpa using this) (by simpa using h2)]
abbrev o99 (l : List Int) (v : Int) : List Out :=
  [.mk Unit .ret [4] (fun _ => v ∈ l) (fun _ => [I (fi l v : Nat)]) (fun _ => .nil) (fun _ => []),
   .mk Unit (.exit 0) [] (fun _ => ¬ v ∈ l) (fun _ => []) (fun _ => .nil) (fun _ => [])]
theorem simp99 : allSimpleM none1 (loopAt Tryd.f99 0) = true := by kernel_rfl
theorem lp99 (l : List Int) (r : Room) (v : Int) (h0 : lim l.length) (h1 : rok l r) :
    LoopS (En6 []) (loopAt Tryd.f99 0) 19 [0, 1, 7, 8] [ls l r, I v, I l.length, I 0] .nil (o99 l v) := by
  have hR : Rests (En6 []) none1 := rests mixed .nil
  refine loop_s hR simp99 none (by intro _ h; cases h) (fun j vs h => h = .nil ∧ vs = [ls l r, I v, I l.length, I j] ∧ ∀ i, i < j → ia l i ≠ v) l.length ⟨rfl, rfl, fun i hi => absurd hi (Nat.not_lt_zero _)⟩ (by intro _ h; cases h) ?_
  rintro j vs h hj ⟨rfl, rfl, hI⟩
  by_cases hz : (j : Int) < l.length
  · have hz' : j < l.length := by omega
    have hr1 := rok_idx h1 hz'
    have ev0 : IntKind.i64.wrap ((j : Int) + 1) = ((j + 1 : Nat) : Int) := by rw [wr _ (by omega) (by omega)]; omega
    by_cases hq : v = ia l j
    · have hfi := fi_at l j hz' hI hq.symm
      have hm : v ∈ l := by rw [hq]; exact ia_mem hz'
      refine ⟨[Ans.o (Orc.b true), Ans.o (Orc.val 14 (AV.cptr (ints (List.drop j l))) H.nil), Ans.o (Orc.val 15 (I (l.getD j i0)) H.nil), Ans.o (Orc.b true)], fun u => of_eq ((↑j : Int) < (↑l.length : Int) ∧ aIndexAddr Tryd.prog (22 : Nat) (AV.sl (ints l) l.length r) (I (↑j : Int)) = some (AV.cptr (ints (List.drop j l))) ∧ aLoad Tryd.prog (3 : Nat) (ints (List.drop j l)) = some (I (l.getD j i0)) ∧ v = l.getD j i0 ∧ (19 : Nat) = (19 : Nat) ∧ hits [Out.mk Unit AX.ret [(4 : Nat)] (fun x => v ∈ l) (fun x => [I (↑(fi l v) : Int)]) (fun x => H.nil) fun x => [], Out.mk Unit (AX.exit (0 : Nat)) [] (fun x => ¬v ∈ l) (fun x => []) (fun x => H.nil) fun x => []] AX.ret [AV.sl (ints l) l.length r, I v, u (2 : Nat), u (3 : Nat), I (↑j : Int), I (↑j : Int), u (6 : Nat), I (↑l.length : Int), I (↑j : Int), AV.bool true, I (↑j : Int), I v, AV.sl (ints l) l.length r, I (↑j : Int), AV.cptr (ints (List.drop j l)), I (l.getD j i0), AV.bool true, I (↑j : Int), u (18 : Nat)] (H.mk [] [] [])) (by kernel_rfl) ?_⟩
      refine ⟨by first | with_reducible assumption | omega | assumption, ?_⟩
      refine ⟨ix_ints (by kernel_rfl) (by omega) hr1, ?_⟩
      refine ⟨by first | exact ld_ints (by kernel_rfl) (by kernel_rfl) (by omega) | exact ldm_ints (by kernel_rfl) (by kernel_rfl) (by first | omega | (simp; omega)), ?_⟩
      refine ⟨by first | with_reducible assumption | omega | assumption, ?_⟩
      refine ⟨by first | with_reducible assumption | omega | assumption, ?_⟩
      exact .inl ⟨(), hm, rfl, by rw [hfi]; rfl, rfl⟩
    · refine ⟨[Ans.o (Orc.b true), Ans.o (Orc.val 14 (AV.cptr (ints (List.drop j l))) H.nil), Ans.o (Orc.val 15 (I (l.getD j i0)) H.nil), Ans.fork [] [Ans.o (Orc.val 18 (I (↑(j + (1 : Nat)) : Int)) H.nil)]], fun u => of_eq ((↑j : Int) < (↑l.length : Int) ∧ aIndexAddr Tryd.prog (22 : Nat) (AV.sl (ints l) l.length r) (I (↑j : Int)) = some (AV.cptr (ints (List.drop j l))) ∧ aLoad Tryd.prog (3 : Nat) (ints (List.drop j l)) = some (I (l.getD j i0)) ∧ (v = l.getD j i0 → (19 : Nat) = (19 : Nat) ∧ hits [Out.mk Unit AX.ret [(4 : Nat)] (fun x => v ∈ l) (fun x => [I (↑(fi l v) : Int)]) (fun x => H.nil) fun x => [], Out.mk Unit (AX.exit (0 : Nat)) [] (fun x => ¬v ∈ l) (fun x => []) (fun x => H.nil) fun x => []] AX.ret [AV.sl (ints l) l.length r, I v, u (2 : Nat), u (3 : Nat), I (↑j : Int), I (↑j : Int), u (6 : Nat), I (↑l.length : Int), I (↑j : Int), AV.bool true, I (↑j : Int), I v, AV.sl (ints l) l.length r, I (↑j : Int), AV.cptr (ints (List.drop j l)), I (l.getD j i0), AV.bool true, I (↑j : Int), u (18 : Nat)] (H.mk [] [] [])) ∧ (v ≠ l.getD j i0 → aBin Tryd.prog BinOp.add (3 : Nat) (I (↑j : Int)) (I 1) = some (I (↑(j + (1 : Nat)) : Int)) ∧ (19 : Nat) = (19 : Nat) ∧ j < l.length ∧ Keep (H.mk [] [] [] = H.mk [] [] [] ∧ [AV.sl (ints l) l.length r, I v, I (↑l.length : Int), I (↑(j + (1 : Nat)) : Int)] = [AV.sl (ints l) l.length r, I v, I (↑l.length : Int), I (↑(j + (1 : Nat)) : Int)] ∧ ∀ (i : Nat), i < j + (1 : Nat) → ia l i ≠ v))) (by kernel_rfl) ?_⟩
      refine ⟨by first | with_reducible assumption | omega | assumption, ?_⟩
      refine ⟨ix_ints (by kernel_rfl) (by omega) hr1, ?_⟩
      refine ⟨by first | exact ld_ints (by kernel_rfl) (by kernel_rfl) (by omega) | exact ldm_ints (by kernel_rfl) (by kernel_rfl) (by first | omega | (simp; omega)), ?_⟩
      refine And.intro ?_ ?_
      · skip
        intro w0
        refine ⟨by first | with_reducible assumption | omega | assumption, ?_⟩
        exact absurd (by assumption) hq
      · skip
        intro w0
        refine ⟨told_add (by with_reducible assumption), ?_⟩
        refine ⟨by first | with_reducible assumption | omega | assumption, ?_⟩
        refine ⟨by first | with_reducible assumption | omega | assumption, ?_⟩
        exact ⟨rfl, rfl, fun i hi => by by_cases e : i = j; (· subst e; exact fun h => hq h.symm); (· exact hI i (by omega))⟩
  · have hz : (l.length : Int) ≤ j := by omega
    have hm : ¬ v ∈ l := fun h => by
      obtain ⟨i, g1, g2⟩ := mem_ia h
      exact hI i (by omega) g2
    refine ⟨[Ans.o (Orc.b false)], fun u => of_eq ((↑l.length : Int) ≤ (↑j : Int) ∧ (19 : Nat) = (19 : Nat) ∧ hits [Out.mk Unit AX.ret [(4 : Nat)] (fun x => v ∈ l) (fun x => [I (↑(fi l v) : Int)]) (fun x => H.nil) fun x => [], Out.mk Unit (AX.exit (0 : Nat)) [] (fun x => ¬v ∈ l) (fun x => []) (fun x => H.nil) fun x => []] (AX.exit (0 : Nat)) [AV.sl (ints l) l.length r, I v, u (2 : Nat), u (3 : Nat), u (4 : Nat), u (5 : Nat), u (6 : Nat), I (↑l.length : Int), I (↑j : Int), AV.bool false, u (10 : Nat), u (11 : Nat), u (12 : Nat), u (13 : Nat), u (14 : Nat), u (15 : Nat), u (16 : Nat), u (17 : Nat), u (18 : Nat)] (H.mk [] [] [])) (by kernel_rfl) ?_⟩
    refine ⟨by first | with_reducible assumption | omega | assumption, ?_⟩
    refine ⟨by first | with_reducible assumption | omega | assumption, ?_⟩
    exact .inr (.inl ⟨(), hm, rfl, rfl, rfl⟩)
theorem ok99 : FokM Tryd.prog none1 99 Tryd.f99 := ⟨mixed, by kernel_rfl, by kernel_rfl, by kernel_rfl, by kernel_rfl⟩
theorem r99 (l : List Int) (r : Room) (v : Int) (hp : (lim l.length ∧ rok l r) ∧ v ∈ l) : Body ⟨Tryd.prog, Sof (P := Tryd.prog) [], Pof (P := Tryd.prog) [], H.nil.base, 300⟩ none1 Tryd.f99 [ls l r, I v] .nil (I (fi l v), .nil) := by
  have hl := lp99 l r v hp.1.1 hp.1.2
  refine body_s ([Ans.loop [(0 : Nat), (1 : Nat), (7 : Nat), (8 : Nat)] [Out.mk Unit AX.ret [(4 : Nat)] (fun x => v ∈ l) (fun x => [I (↑(fi l v) : Int)]) (fun x => H.nil) fun y => [], Out.mk Unit (AX.exit (0 : Nat)) [] (fun x => ¬v ∈ l) (fun x => []) (fun x => H.nil) fun y => []]]) (LoopS (Env.mk Tryd.prog (Sof (P := Tryd.prog) []) (Pof (P := Tryd.prog) []) H.nil.base (300 : Nat)) (loopAt Tryd.f99 (0 : Nat)) (19 : Nat) [(0 : Nat), (1 : Nat), (7 : Nat), (8 : Nat)] [AV.sl (ints l) l.length r, I v, I (↑l.length : Int), I 0] (H.mk [] [] []) [Out.mk Unit AX.ret [(4 : Nat)] (fun x => v ∈ l) (fun x => [I (↑(fi l v) : Int)]) (fun x => H.nil) fun y => [], Out.mk Unit (AX.exit (0 : Nat)) [] (fun x => ¬v ∈ l) (fun x => []) (fun x => H.nil) fun y => []] ∧ (∀ (y : Unit), List.Mem v l → ∀ (u : Nat → AV), (I (↑(fi l v) : Int), H.mk [] [] []) = (I (↑(fi l v) : Int), H.mk [] [] [])) ∧ (∀ (y : Unit), ¬v ∈ l → ∀ (u : Nat → AV), (I (-1 : Int), H.mk [] [] []) = (I (↑(fi l v) : Int), H.mk [] [] [])) ∧ True) (by kernel_rfl) ?_
  refine ⟨hl, ?_⟩
  refine And.intro ?_ ?_
  · skip
    intro y
    intro w1
    intro u
    first | rfl | exact absurd hp.2 (by assumption)
  · skip
    refine And.intro ?_ ?_
    · skip
      intro y
      intro w1
      intro u
      first | rfl | exact absurd hp.2 (by assumption)
    · skip
      trivial
noncomputable def c99 : PCtr Tryd.prog := sctr ok99 (X := List Int × Room × Int) (fun x => [ls x.1 x.2.1, I x.2.2]) (fun x => (lim x.1.length ∧ rok x.1 x.2.1) ∧ x.2.2 ∈ x.1) (fun x => I (fi x.1 x.2.2)) (by intro x y e _ _; simp [Int.natCast_inj] at e; simp [e]) (fun x => by simp [AV.bnds, AV.bnd, AV.wk, rm_wk_bnd]) (fun x => by first | rfl | (simp [AV.bnd, rm_wk_bnd]; done)  | (simp [AV.bnd, AV.bnds, rm_wk_bnd]; done) | simp [AV.bnd, AV.bnds, Room.bnd, rm_wk_bnd]) (fun x hx => ⟨_, _, _, .nil, r99 (x.1) (x.2.1).wk (x.2.2) (by first | exact hx | (simp only [rok_wk]; exact hx) | (simp only [rok_wk, lst_wk]; exact hx) | (simp only [rok_wk, lst_wk, lsn_wk]; exact hx))⟩)
theorem ok57 : FokM Tryd.prog none1 57 Tryd.f57 := ⟨mixed, by kernel_rfl, by kernel_rfl, by kernel_rfl, by kernel_rfl⟩
theorem r57 (l : List Int) (r : Room) (v : Int) (hp : (lim l.length ∧ rok l r) ∧ v ∈ l) : Body ⟨Tryd.prog, Sof (P := Tryd.prog) [c99.to], Pof (P := Tryd.prog) [], H.nil.base, 300⟩ none1 Tryd.f57 [ls l r, I v] .nil (.bool true, .nil) := by
  refine body_s ([Ans.o (Orc.val 7 (I (↑(fi l v) : Int)) (H.mk [] [] [])), Ans.o Orc.dflt]) (aCall (Sof [c99.to]) (AV.fn (Fn.func (99 : Nat)) [] []) [AV.sl (ints l) l.length r, I v] (H.mk [] [] []) = some (I (↑(fi l v) : Int), H.mk [] [] []) ∧ (AV.bool true, H.mk [] [] []) = (AV.bool true, H.mk [] [] [])) (by kernel_rfl) ?_
  refine ⟨acall_hit (c := c99.to) (l, r, v) _ rfl hp, ?_⟩
  first | rfl | (exfalso; omega)
noncomputable def c57 : PCtr Tryd.prog := sctr ok57 (X := List Int × Room × Int) (fun x => [ls x.1 x.2.1, I x.2.2]) (fun x => (lim x.1.length ∧ rok x.1 x.2.1) ∧ x.2.2 ∈ x.1) (fun x => .bool true) (by intro x y e _ _; simp [Int.natCast_inj] at e; simp [e]) (fun x => by simp [AV.bnds, AV.bnd, AV.wk, rm_wk_bnd]) (fun x => by first | rfl | (simp [AV.bnd, rm_wk_bnd]; done)  | (simp [AV.bnd, AV.bnds, rm_wk_bnd]; done) | simp [AV.bnd, AV.bnds, Room.bnd, rm_wk_bnd]) (fun x hx => ⟨_, _, _, .pure c99 (.nil), r57 (x.1) (x.2.1).wk (x.2.2) (by first | exact hx | (simp only [rok_wk]; exact hx) | (simp only [rok_wk, lst_wk]; exact hx) | (simp only [rok_wk, lst_wk, lsn_wk]; exact hx))⟩)
end Go.Proofs.Evd

