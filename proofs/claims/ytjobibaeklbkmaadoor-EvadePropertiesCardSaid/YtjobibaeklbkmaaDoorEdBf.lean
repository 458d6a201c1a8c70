/- Layer 8: Spread and Property. -/
import Derived.Test.YtjobibaeklbkmaaDoorEdBd
import Derived.Test.YtjobibaeklbkmaaDoorEdBe
import Derived.Test.YtjobibaeklbkmaaDoorEdAe
import Derived.KernelRfl
set_option linter.unusedSimpArgs false
set_option linter.unusedVariables false
set_option linter.unnecessarySimpa false
set_option maxHeartbeats 4000000
set_option maxRecDepth 100000
namespace Go.Proofs.Evd
open Go Go.VM
open Go.Proofs.Sur (W w_wrap w_nat w_inj w_eq0 w_and w_or w_andn w_shl w_shr neg_nat sub_nat tz tz_ok cl bits_cons bits_0 bits_len andn andn_bit andn_le i_wrap i_and i_or i_andn i_shl i_shr bit_01)

theorem ok95 : FokM Tryd.prog none1 95 Tryd.f95 := ⟨mixed, by kernel_rfl, by kernel_rfl, by kernel_rfl, by kernel_rfl⟩
theorem r95 (m : Int) (hp : True) : Body ⟨Tryd.prog, Sof (P := Tryd.prog) [], Pof (P := Tryd.prog) [], H.nil.base, 300⟩ none1 Tryd.f95 [I m] .nil (.bool (decide (2 ≤ m ∧ m ≤ 4)), .nil) := by
  refine body_s ([Ans.fork [Ans.fork [] []] []]) (((2 : Int) ≤ m → (m ≤ (4 : Int) → (AV.bool true, H.mk [] [] []) = (AV.bool (decide ((2 : Int) ≤ m ∧ m ≤ (4 : Int))), H.mk [] [] [])) ∧ ((4 : Int) < m → (AV.bool false, H.mk [] [] []) = (AV.bool (decide ((2 : Int) ≤ m ∧ m ≤ (4 : Int))), H.mk [] [] []))) ∧ (m < (2 : Int) → (AV.bool false, H.mk [] [] []) = (AV.bool (decide ((2 : Int) ≤ m ∧ m ≤ (4 : Int))), H.mk [] [] []))) (by kernel_rfl) ?_
  refine And.intro ?_ ?_
  · skip
    intro w0
    refine And.intro ?_ ?_
    · skip
      intro w1
      first | with_reducible rfl | (refine bleaf_t ?_; omega) | (refine bleaf_f ?_; omega) | (refine ileaf ?_; omega) | rfl | (exfalso; omega)
    · skip
      intro w1
      first | with_reducible rfl | (refine bleaf_t ?_; omega) | (refine bleaf_f ?_; omega) | (refine ileaf ?_; omega) | rfl | (exfalso; omega)
  · skip
    intro w0
    first | with_reducible rfl | (refine bleaf_t ?_; omega) | (refine bleaf_f ?_; omega) | (refine ileaf ?_; omega) | rfl | (exfalso; omega)
noncomputable def c95 : PCtr Tryd.prog := sctr ok95 (X := Int) (fun x => [I x]) (fun x => True) (fun x => .bool (decide (2 ≤ x ∧ x ≤ 4))) (by intro x y e _ _; simp [Int.natCast_inj] at e; simp [e]) (fun x => by simp [AV.bnds, AV.bnd, AV.wk, rm_wk_bnd]) (fun x => by first | rfl | (simp [AV.bnd, rm_wk_bnd]; done)  | (simp [AV.bnd, AV.bnds, rm_wk_bnd]; done) | simp [AV.bnd, AV.bnds, Room.bnd, rm_wk_bnd]) (fun x hx => ⟨_, _, _, .nil, r95 (x) hx⟩)
theorem ok49 : FokM Tryd.prog none1 49 Tryd.f49 := ⟨mixed, by kernel_rfl, by kernel_rfl, by kernel_rfl, by kernel_rfl⟩
theorem r49 (m : Int) (hp : True) : Body ⟨Tryd.prog, Sof (P := Tryd.prog) [], Pof (P := Tryd.prog) [], H.nil.base, 300⟩ none1 Tryd.f49 [I m] .nil (.bool (decide (2 ≤ m ∧ m ≤ 4)), .nil) := by
  refine body_s ([Ans.fork [Ans.fork [] []] []]) (((2 : Int) ≤ m → (m ≤ (4 : Int) → (AV.bool true, H.mk [] [] []) = (AV.bool (decide ((2 : Int) ≤ m ∧ m ≤ (4 : Int))), H.mk [] [] [])) ∧ ((4 : Int) < m → (AV.bool false, H.mk [] [] []) = (AV.bool (decide ((2 : Int) ≤ m ∧ m ≤ (4 : Int))), H.mk [] [] []))) ∧ (m < (2 : Int) → (AV.bool false, H.mk [] [] []) = (AV.bool (decide ((2 : Int) ≤ m ∧ m ≤ (4 : Int))), H.mk [] [] []))) (by kernel_rfl) ?_
  refine And.intro ?_ ?_
  · skip
    intro w0
    refine And.intro ?_ ?_
    · skip
      intro w1
      first | with_reducible rfl | (refine bleaf_t ?_; omega) | (refine bleaf_f ?_; omega) | (refine ileaf ?_; omega) | rfl | (exfalso; omega)
    · skip
      intro w1
      first | with_reducible rfl | (refine bleaf_t ?_; omega) | (refine bleaf_f ?_; omega) | (refine ileaf ?_; omega) | rfl | (exfalso; omega)
  · skip
    intro w0
    first | with_reducible rfl | (refine bleaf_t ?_; omega) | (refine bleaf_f ?_; omega) | (refine ileaf ?_; omega) | rfl | (exfalso; omega)
noncomputable def c49 : PCtr Tryd.prog := sctr ok49 (X := Int) (fun x => [I x]) (fun x => True) (fun x => .bool (decide (2 ≤ x ∧ x ≤ 4))) (by intro x y e _ _; simp [Int.natCast_inj] at e; simp [e]) (fun x => by simp [AV.bnds, AV.bnd, AV.wk, rm_wk_bnd]) (fun x => by first | rfl | (simp [AV.bnd, rm_wk_bnd]; done)  | (simp [AV.bnd, AV.bnds, rm_wk_bnd]; done) | simp [AV.bnd, AV.bnds, Room.bnd, rm_wk_bnd]) (fun x hx => ⟨_, _, _, .nil, r49 (x) hx⟩)
theorem ok50 : FokM Tryd.prog none1 50 Tryd.f50 := ⟨mixed, by kernel_rfl, by kernel_rfl, by kernel_rfl, by kernel_rfl⟩
theorem r50 (m : Nat) (hp : 2 ≤ m ∧ m ≤ 4) : Body ⟨Tryd.prog, Sof (P := Tryd.prog) [], Pof (P := Tryd.prog) [], H.nil.base, 300⟩ none1 Tryd.f50 [I m] .nil (I (nP m), .nil) := by
  have ev0 : IntKind.i64.wrap ((m : Int) - 1) = ((m - 1 : Nat) : Int) := by rw [wr _ (by omega) (by omega)]; omega
  have hc : m = 2 ∨ m = 3 ∨ m = 4 := by omega
  have ev1 : IntKind.i64.wrap ((m : Int) * ((m - 1 : Nat) : Int)) = ((m * (m - 1) : Nat) : Int) := by
    rcases hc with rfl | rfl | rfl <;> decide
  have ev2 : IntKind.i64.wrap (((m * (m - 1) : Nat) : Int).tdiv 2) = ((nP m : Nat) : Int) := by
    rcases hc with rfl | rfl | rfl <;> decide
  refine body_s ([Ans.o (Orc.val 5 (I (↑(m - (1 : Nat)) : Int)) H.nil), Ans.o (Orc.val 6 (I (↑(m * (m - (1 : Nat))) : Int)) H.nil), Ans.o (Orc.val 7 (I (↑(nP m) : Int)) H.nil)]) (aBin Tryd.prog BinOp.sub (3 : Nat) (I (↑m : Int)) (I 1) = some (I (↑(m - (1 : Nat)) : Int)) ∧ aBin Tryd.prog BinOp.mul (3 : Nat) (I (↑m : Int)) (I (↑(m - (1 : Nat)) : Int)) = some (I (↑(m * (m - (1 : Nat))) : Int)) ∧ aBin Tryd.prog BinOp.quo (3 : Nat) (I (↑(m * (m - (1 : Nat))) : Int)) (I 2) = some (I (↑(nP m) : Int)) ∧ (I (↑(nP m) : Int), H.mk [] [] []) = (I (↑(nP m) : Int), H.mk [] [] [])) (by kernel_rfl) ?_
  refine ⟨told_sub (by with_reducible assumption), ?_⟩
  refine ⟨told_mul (by with_reducible assumption), ?_⟩
  refine ⟨told_quo (by first | decide | omega) (by with_reducible assumption), ?_⟩
  first | with_reducible rfl | (refine bleaf_t ?_; omega) | (refine bleaf_f ?_; omega) | (refine ileaf ?_; omega) | rfl | (exfalso; omega)
noncomputable def c50 : PCtr Tryd.prog := sctr ok50 (X := Nat) (fun x => [I x]) (fun x => 2 ≤ x ∧ x ≤ 4) (fun x => I (nP x)) (by intro x y e _ _; simp [Int.natCast_inj] at e; simp [e]) (fun x => by simp [AV.bnds, AV.bnd, AV.wk, rm_wk_bnd]) (fun x => by first | rfl | (simp [AV.bnd, rm_wk_bnd]; done)  | (simp [AV.bnd, AV.bnds, rm_wk_bnd]; done) | simp [AV.bnd, AV.bnds, Room.bnd, rm_wk_bnd]) (fun x hx => ⟨_, _, _, .nil, r50 (x) hx⟩)
def cells96 : Nat → List AV
  | 2 => ps2.flatMap fun p => [I p.1, I p.2]
  | 3 => ps3.flatMap fun p => [I p.1, I p.2]
  | _ => ps4.flatMap fun p => [I p.1, I p.2]
noncomputable def c96 : PCtr Tryd.prog where
  f := 96
  X := Nat
  args m := [I m]
  pre m := 2 ≤ m ∧ m ≤ 4
  v m := .sl (cells96 m) (nP m) .no
  det := by
    intro m m' e _ _
    simp at e
    have : m = m' := by omega
    subst this; rfl
  ok := by
    intro m h
    refine ⟨by kernel_rfl, fun H => ?_⟩
    have hc : m = 2 ∨ m = 3 ∨ m = 4 := by omega
    rcases hc with rfl | rfl | rfl
    · exact pure_call a96_2 rfl rfl H
    · exact pure_call a96_3 rfl rfl H
    · exact pure_call a96_4 rfl rfl H
/-- the least property with graphs -/
def spV (m : Nat) (F : W) : W := cls (fix m F)
theorem nl_ic (k : List Nat) : nl (ic k) = k := by simp [nl, ic, List.map_map, Function.comp_def]
theorem rng_ic {n : Nat} (hn : n ≤ 6) {k : List Nat} (h : oks n (ic k)) : rng (ic k) := fun i hi => by
  have := h i hi
  have := p64 hn
  omega
@[simp] theorem ic_inj_iff (k l : List Nat) : (ic k = ic l) ↔ k = l := ⟨ic_inj, fun h => h ▸ rfl⟩
theorem pd_t {m : Nat} (h : 2 ≤ m ∧ m ≤ 4) : decide (2 ≤ (m : Int) ∧ (m : Int) ≤ 4) = true := decide_eq_true (by omega)
theorem ok48g : FokM Tryd.prog none1 48 Tryd.f48 := ⟨mixed, by kernel_rfl, by kernel_rfl, by kernel_rfl, by kernel_rfl⟩
theorem r48g (m : Nat) (k : List Nat) (r : Room) (hp : (2 ≤ m ∧ m ≤ 4) ∧ rok (ic k) r ∧ okS (nP m : Nat) (ic k)) : Body ⟨Tryd.prog, Sof (P := Tryd.prog) [c95.to, c96.to, c65g.to, c97.to, c67.to], Pof (P := Tryd.prog) [], H.nil.base, 300⟩ none1 Tryd.f48 [I m, ls (ic k) r] .nil (.tup [ls (lst (spV m (fm k))) (rn (lst (spV m (fm k)))), I 0], .nil) := by
  have hd := pd_t hp.1
  have hn := nP_6 hp.1.2
  have h64 := p64 hn
  have p2 := Nat.two_pow_pos (nP m)
  have hr64 : 2 ^ nP m - 1 < 64 := by omega
  have p65 : (rok (ic k) r ∧ rng (ic k)) ∧ okS (nP m : Nat) (ic k) := ⟨⟨hp.2.1, rng_ic hn (by have := hp.2.2.2.2; simpa using this)⟩, hp.2.2⟩
  have p97 : (2 ≤ m ∧ m ≤ 4) ∧ 2 ^ nP m - 1 < 64 := ⟨hp.1, hr64⟩
  rw [show fm k = fm (nl (ic k)) by rw [nl_ic]]
  refine body_s ([Ans.o (Orc.val 9 (AV.bool true) (H.mk [] [] [])), Ans.o (Orc.val 13 (AV.sl (cells96 m) (nP m) Room.no) (H.mk [] [] [])), Ans.o (Orc.val 16 (AV.tup [AV.agg [I (↑((2 : Nat) ^ nP m - (1 : Nat)) : Int), AV.int IntKind.u64 (↑(BitVec.toNat (fm (nl (ic k)))) : Int)], AV.bool true]) (H.mk [] [] [])), Ans.o (Orc.val 23 (AV.agg [I (↑((2 : Nat) ^ nP m - (1 : Nat)) : Int), AV.int IntKind.u64 (↑(BitVec.toNat (cls (fix m (fm (nl (ic k)))))) : Int)]) (H.mk [[I (↑((2 : Nat) ^ nP m - (1 : Nat)) : Int), AV.int IntKind.u64 (↑(BitVec.toNat (fm (nl (ic k)))) : Int)]] [] [])), Ans.o (Orc.val 24 (AV.sl (ints (lst (cls (fix m (fm (nl (ic k))))))) (lst (cls (fix m (fm (nl (ic k)))))).length (rn (lst (cls (fix m (fm (nl (ic k)))))))) (H.mk [[I (↑((2 : Nat) ^ nP m - (1 : Nat)) : Int), AV.int IntKind.u64 (↑(BitVec.toNat (fm (nl (ic k)))) : Int)]] [] []))]) (aCall (Sof [c95.to, c96.to, c65g.to, c97.to, c67.to]) (AV.fn (Fn.func (95 : Nat)) [] []) [I (↑m : Int)] (H.mk [] [] []) = some (AV.bool true, H.mk [] [] []) ∧ aCall (Sof [c95.to, c96.to, c65g.to, c97.to, c67.to]) (AV.fn (Fn.func (96 : Nat)) [] []) [I (↑m : Int)] (H.mk [] [] []) = some (AV.sl (cells96 m) (nP m) Room.no, H.mk [] [] []) ∧ aCall (Sof [c95.to, c96.to, c65g.to, c97.to, c67.to]) (AV.fn (Fn.func (65 : Nat)) [] []) [I (↑(nP m) : Int), AV.sl (ints (ic k)) (ic k).length r] (H.mk [] [] []) = some (AV.tup [AV.agg [I (↑((2 : Nat) ^ nP m - (1 : Nat)) : Int), AV.int IntKind.u64 (↑(BitVec.toNat (fm (nl (ic k)))) : Int)], AV.bool true], H.mk [] [] []) ∧ aCall (Sof [c95.to, c96.to, c65g.to, c97.to, c67.to]) (AV.fn (Fn.func (97 : Nat)) [] []) [AV.agg [I (↑((2 : Nat) ^ nP m - (1 : Nat)) : Int), AV.int IntKind.u64 (↑(BitVec.toNat (fm (nl (ic k)))) : Int)], I (↑m : Int)] (H.mk [[I (↑((2 : Nat) ^ nP m - (1 : Nat)) : Int), AV.int IntKind.u64 (↑(BitVec.toNat (fm (nl (ic k)))) : Int)]] [] []) = some (AV.agg [I (↑((2 : Nat) ^ nP m - (1 : Nat)) : Int), AV.int IntKind.u64 (↑(BitVec.toNat (cls (fix m (fm (nl (ic k)))))) : Int)], H.mk [[I (↑((2 : Nat) ^ nP m - (1 : Nat)) : Int), AV.int IntKind.u64 (↑(BitVec.toNat (fm (nl (ic k)))) : Int)]] [] []) ∧ aCall (Sof [c95.to, c96.to, c65g.to, c97.to, c67.to]) (AV.fn (Fn.func (67 : Nat)) [] []) [AV.agg [I (↑((2 : Nat) ^ nP m - (1 : Nat)) : Int), AV.int IntKind.u64 (↑(BitVec.toNat (cls (fix m (fm (nl (ic k)))))) : Int)]] (H.mk [[I (↑((2 : Nat) ^ nP m - (1 : Nat)) : Int), AV.int IntKind.u64 (↑(BitVec.toNat (fm (nl (ic k)))) : Int)]] [] []) = some (AV.sl (ints (lst (cls (fix m (fm (nl (ic k))))))) (lst (cls (fix m (fm (nl (ic k)))))).length (rn (lst (cls (fix m (fm (nl (ic k))))))), H.mk [[I (↑((2 : Nat) ^ nP m - (1 : Nat)) : Int), AV.int IntKind.u64 (↑(BitVec.toNat (fm (nl (ic k)))) : Int)]] [] []) ∧ leave (Base.mk H.nil.blk.length H.nil.toks.length H.nil.maps.length) (AV.tup [AV.sl (ints (lst (cls (fix m (fm (nl (ic k))))))) (lst (cls (fix m (fm (nl (ic k)))))).length (rn (lst (cls (fix m (fm (nl (ic k))))))), I 0]) (H.mk [[I (↑((2 : Nat) ^ nP m - (1 : Nat)) : Int), AV.int IntKind.u64 (↑(BitVec.toNat (fm (nl (ic k)))) : Int)]] [] []) = (AV.tup [AV.sl (ints (lst (spV m (fm (nl (ic k)))))) (lst (spV m (fm (nl (ic k))))).length (rn (lst (spV m (fm (nl (ic k)))))), I 0], H.mk [] [] [])) (by kernel_rfl) ?_
  refine ⟨acall_b (acall_hit (c := c95.to) (m : Int) _ rfl trivial) hd, ?_⟩
  refine ⟨acall_hit (c := c96.to) m _ rfl hp.1, ?_⟩
  refine ⟨acall_hit (c := c65g.to) (nP m, ic k, r) _ rfl p65, ?_⟩
  refine ⟨acall_hit (c := c97.to) (2 ^ nP m - 1, fm (nl (ic k)), m) _ rfl p97, ?_⟩
  refine ⟨acall_hit (c := c67.to) (2 ^ nP m - 1, cls (fix m (fm (nl (ic k))))) _ rfl trivial, ?_⟩
  first | rfl | (exfalso; omega) | exact leave_bs _ (by simp [AV.bnd, AV.bnds, rm_wk_bnd])
noncomputable def c48g : PCtr Tryd.prog := sctr ok48g (X := Nat × List Nat × Room) (fun x => [I x.1, ls (ic x.2.1) x.2.2]) (fun x => (2 ≤ x.1 ∧ x.1 ≤ 4) ∧ rok (ic x.2.1) x.2.2 ∧ okS (nP x.1 : Nat) (ic x.2.1)) (fun x => .tup [ls (lst (spV x.1 (fm x.2.1))) (rn (lst (spV x.1 (fm x.2.1)))), I 0]) (by intro x y e _ _; simp [Int.natCast_inj] at e; simp [e]) (fun x => by simp [AV.bnds, AV.bnd, AV.wk, rm_wk_bnd]) (fun x => by first | rfl | (simp [AV.bnd, rm_wk_bnd]; done)  | (simp [AV.bnd, AV.bnds, rm_wk_bnd]; done) | simp [AV.bnd, AV.bnds, Room.bnd, rm_wk_bnd]) (fun x hx => ⟨_, _, _, .pure c95 (.pure c96 (.pure c65g (.pure c97 (.pure c67 (.nil))))), r48g (x.1) (x.2.1) (x.2.2).wk (by first | exact hx | (simp only [rok_wk]; exact hx) | (simp only [rok_wk, lst_wk]; exact hx) | (simp only [rok_wk, lst_wk, lsn_wk]; exact hx))⟩)
theorem ok48b : FokM Tryd.prog none1 48 Tryd.f48 := ⟨mixed, by kernel_rfl, by kernel_rfl, by kernel_rfl, by kernel_rfl⟩
theorem r48b (m : Nat) (l : List Int) (r : Room) (hp : ((2 ≤ m ∧ m ≤ 4) ∧ lim l.length ∧ rok l r ∧ rng l) ∧ ¬ okS (nP m : Nat) l) : Body ⟨Tryd.prog, Sof (P := Tryd.prog) [c95.to, c96.to, c65b.to], Pof (P := Tryd.prog) [], H.nil.base, 300⟩ none1 Tryd.f48 [I m, ls l r] .nil (.tup [.sl [] 0 .nil, I 2], .nil) := by
  have hd := pd_t hp.1.1
  have p65 : (lim l.length ∧ rok l r ∧ rng l) ∧ ¬ okS (nP m : Nat) l := ⟨hp.1.2, hp.2⟩
  refine body_s ([Ans.o (Orc.val 9 (AV.bool true) (H.mk [] [] [])), Ans.o (Orc.val 13 (AV.sl (cells96 m) (nP m) Room.no) (H.mk [] [] [])), Ans.o (Orc.val 16 (AV.tup [AV.agg [I 0, AV.int IntKind.u64 (0 : Int)], AV.bool false]) (H.mk [] [] []))]) (aCall (Sof [c95.to, c96.to, c65b.to]) (AV.fn (Fn.func (95 : Nat)) [] []) [I (↑m : Int)] (H.mk [] [] []) = some (AV.bool true, H.mk [] [] []) ∧ aCall (Sof [c95.to, c96.to, c65b.to]) (AV.fn (Fn.func (96 : Nat)) [] []) [I (↑m : Int)] (H.mk [] [] []) = some (AV.sl (cells96 m) (nP m) Room.no, H.mk [] [] []) ∧ aCall (Sof [c95.to, c96.to, c65b.to]) (AV.fn (Fn.func (65 : Nat)) [] []) [I (↑(nP m) : Int), AV.sl (ints l) l.length r] (H.mk [] [] []) = some (AV.tup [AV.agg [I 0, AV.int IntKind.u64 (0 : Int)], AV.bool false], H.mk [] [] []) ∧ (AV.tup [AV.sl [] (0 : Nat) Room.nil, I 2], H.mk [] [] []) = (AV.tup [AV.sl [] (0 : Nat) Room.nil, I 2], H.mk [] [] [])) (by kernel_rfl) ?_
  refine ⟨acall_b (acall_hit (c := c95.to) (m : Int) _ rfl trivial) hd, ?_⟩
  refine ⟨acall_hit (c := c96.to) m _ rfl hp.1.1, ?_⟩
  refine ⟨acall_hit (c := c65b.to) ((nP m : Nat), l, r) _ rfl p65, ?_⟩
  first | rfl | (exfalso; omega)
noncomputable def c48b : PCtr Tryd.prog := sctr ok48b (X := Nat × List Int × Room) (fun x => [I x.1, ls x.2.1 x.2.2]) (fun x => ((2 ≤ x.1 ∧ x.1 ≤ 4) ∧ lim x.2.1.length ∧ rok x.2.1 x.2.2 ∧ rng x.2.1) ∧ ¬ okS (nP x.1 : Nat) x.2.1) (fun x => .tup [.sl [] 0 .nil, I 2]) (by intro x y e _ _; simp [Int.natCast_inj] at e; simp [e]) (fun x => by simp [AV.bnds, AV.bnd, AV.wk, rm_wk_bnd]) (fun x => by first | rfl | (simp [AV.bnd, rm_wk_bnd]; done)  | (simp [AV.bnd, AV.bnds, rm_wk_bnd]; done) | simp [AV.bnd, AV.bnds, Room.bnd, rm_wk_bnd]) (fun x hx => ⟨_, _, _, .pure c95 (.pure c96 (.pure c65b (.nil))), r48b (x.1) (x.2.1) (x.2.2).wk (by first | exact hx | (simp only [rok_wk]; exact hx) | (simp only [rok_wk, lst_wk]; exact hx) | (simp only [rok_wk, lst_wk, lsn_wk]; exact hx))⟩)
theorem ok48m : FokM Tryd.prog none1 48 Tryd.f48 := ⟨mixed, by kernel_rfl, by kernel_rfl, by kernel_rfl, by kernel_rfl⟩
theorem r48m (m : Int) (l : List Int) (r : Room) (hp : ¬ (2 ≤ m ∧ m ≤ 4)) : Body ⟨Tryd.prog, Sof (P := Tryd.prog) [c95.to], Pof (P := Tryd.prog) [], H.nil.base, 300⟩ none1 Tryd.f48 [I m, ls l r] .nil (.tup [.sl [] 0 .nil, I 2], .nil) := by
  have hd : decide (2 ≤ m ∧ m ≤ 4) = false := decide_eq_false hp
  refine body_s ([Ans.o (Orc.val 9 (AV.bool false) (H.mk [] [] []))]) (aCall (Sof [c95.to]) (AV.fn (Fn.func (95 : Nat)) [] []) [I m] (H.mk [] [] []) = some (AV.bool false, H.mk [] [] []) ∧ (AV.tup [AV.sl [] (0 : Nat) Room.nil, I 2], H.mk [] [] []) = (AV.tup [AV.sl [] (0 : Nat) Room.nil, I 2], H.mk [] [] [])) (by kernel_rfl) ?_
  refine ⟨acall_b (acall_hit (c := c95.to) m _ rfl trivial) hd, ?_⟩
  first | rfl | (exfalso; omega)
noncomputable def c48m : PCtr Tryd.prog := sctr ok48m (X := Int × List Int × Room) (fun x => [I x.1, ls x.2.1 x.2.2]) (fun x => ¬ (2 ≤ x.1 ∧ x.1 ≤ 4)) (fun x => .tup [.sl [] 0 .nil, I 2]) (by intro x y e _ _; simp [Int.natCast_inj] at e; simp [e]) (fun x => by simp [AV.bnds, AV.bnd, AV.wk, rm_wk_bnd]) (fun x => by first | rfl | (simp [AV.bnd, rm_wk_bnd]; done)  | (simp [AV.bnd, AV.bnds, rm_wk_bnd]; done) | simp [AV.bnd, AV.bnds, Room.bnd, rm_wk_bnd]) (fun x hx => ⟨_, _, _, .pure c95 (.nil), r48m (x.1) (x.2.1) (x.2.2).wk (by first | exact hx | (simp only [rok_wk]; exact hx) | (simp only [rok_wk, lst_wk]; exact hx) | (simp only [rok_wk, lst_wk, lsn_wk]; exact hx))⟩)
theorem sp_same {m : Nat} (hm : 2 ≤ m ∧ m ≤ 4) {F : W} (hd : Dn F) (hI : Inv m F) : cls (fix m F) = F := by
  rw [fix_same (of_inv hm hI)]; exact cls_fix.2 hd
theorem ok47t : FokM Tryd.prog none1 47 Tryd.f47 := ⟨mixed, by kernel_rfl, by kernel_rfl, by kernel_rfl, by kernel_rfl⟩
theorem r47t (m : Nat) (F : W) (r : Room) (hp : (2 ≤ m ∧ m ≤ 4) ∧ (Fm (nP m : Nat) (lst F) F ∧ rok (lst F) r) ∧ Inv m F) : Body ⟨Tryd.prog, Sof (P := Tryd.prog) [c95.to, c96.to, c74g.to, c97.to], Pof (P := Tryd.prog) [], H.nil.base, 300⟩ none1 Tryd.f47 [I m, ls (lst F) r] .nil (.tup [.bool true, I 0], .nil) := by
  have hd := pd_t hp.1
  have hr64 := full_lt hp.2.1.1
  have p97 : (2 ≤ m ∧ m ≤ 4) ∧ 2 ^ ((nP m : Nat) : Int).toNat - 1 < 64 := ⟨hp.1, hr64⟩
  have hsame := sp_same hp.1 hp.2.1.1.dn hp.2.2
  have heq : aBin Tryd.prog .eql 76 (fA (2 ^ ((nP m : Nat) : Int).toNat - 1) F) (fA (2 ^ ((nP m : Nat) : Int).toNat - 1) (cls (fix m F))) = some (.bool true) := by
    have h1 : Tryd.prog.eqGuardType Tryd.prog.depth 76 = false := by kernel_rfl
    have hne : decide ((2 ^ ((nP m : Nat) : Int).toNat - 1, F) = (2 ^ ((nP m : Nat) : Int).toNat - 1, cls (fix m F))) = true := decide_eq_true (by rw [hsame])
    simp only [aBin, h1, fA_eq, hne, eqOnly]; rfl
  refine body_s ([Ans.o (Orc.val 9 (AV.bool true) (H.mk [] [] [])), Ans.o (Orc.val 13 (AV.sl (cells96 m) (nP m) Room.no) (H.mk [] [] [])), Ans.o (Orc.val 16 (AV.tup [AV.agg [I (↑((2 : Nat) ^ (↑(nP m) : Int).toNat - (1 : Nat)) : Int), u64A F], AV.bool true]) (H.mk [] [] [])), Ans.o (Orc.val 24 (AV.agg [I (↑((2 : Nat) ^ (↑(nP m) : Int).toNat - (1 : Nat)) : Int), AV.int IntKind.u64 (↑(BitVec.toNat (cls (fix m F))) : Int)]) (H.mk [[I (↑((2 : Nat) ^ (↑(nP m) : Int).toNat - (1 : Nat)) : Int), u64A F]] [] [])), Ans.bfork (25 : Nat) [] []]) (aCall (Sof [c95.to, c96.to, c74g.to, c97.to]) (AV.fn (Fn.func (95 : Nat)) [] []) [I (↑m : Int)] (H.mk [] [] []) = some (AV.bool true, H.mk [] [] []) ∧ aCall (Sof [c95.to, c96.to, c74g.to, c97.to]) (AV.fn (Fn.func (96 : Nat)) [] []) [I (↑m : Int)] (H.mk [] [] []) = some (AV.sl (cells96 m) (nP m) Room.no, H.mk [] [] []) ∧ aCall (Sof [c95.to, c96.to, c74g.to, c97.to]) (AV.fn (Fn.func (74 : Nat)) [] []) [I (↑(nP m) : Int), AV.sl (ints (lst F)) (lst F).length r] (H.mk [] [] []) = some (AV.tup [AV.agg [I (↑((2 : Nat) ^ (↑(nP m) : Int).toNat - (1 : Nat)) : Int), u64A F], AV.bool true], H.mk [] [] []) ∧ aCall (Sof [c95.to, c96.to, c74g.to, c97.to]) (AV.fn (Fn.func (97 : Nat)) [] []) [AV.agg [I (↑((2 : Nat) ^ (↑(nP m) : Int).toNat - (1 : Nat)) : Int), u64A F], I (↑m : Int)] (H.mk [[I (↑((2 : Nat) ^ (↑(nP m) : Int).toNat - (1 : Nat)) : Int), u64A F]] [] []) = some (AV.agg [I (↑((2 : Nat) ^ (↑(nP m) : Int).toNat - (1 : Nat)) : Int), AV.int IntKind.u64 (↑(BitVec.toNat (cls (fix m F))) : Int)], H.mk [[I (↑((2 : Nat) ^ (↑(nP m) : Int).toNat - (1 : Nat)) : Int), u64A F]] [] []) ∧ (((↑((2 : Nat) ^ (↑(nP m) : Int).toNat - (1 : Nat)) : Int) == (↑((2 : Nat) ^ (↑(nP m) : Int).toNat - (1 : Nat)) : Int) && ((↑(BitVec.toNat F) : Int) == (↑(BitVec.toNat (cls (fix m F))) : Int) && true)) = true → (AV.tup [AV.bool true, I 0], H.mk [] [] []) = (AV.tup [AV.bool true, I 0], H.mk [] [] [])) ∧ (((↑((2 : Nat) ^ (↑(nP m) : Int).toNat - (1 : Nat)) : Int) == (↑((2 : Nat) ^ (↑(nP m) : Int).toNat - (1 : Nat)) : Int) && ((↑(BitVec.toNat F) : Int) == (↑(BitVec.toNat (cls (fix m F))) : Int) && true)) = false → (AV.tup [AV.bool false, I 0], H.mk [] [] []) = (AV.tup [AV.bool true, I 0], H.mk [] [] []))) (by kernel_rfl) ?_
  refine ⟨acall_b (acall_hit (c := c95.to) (m : Int) _ rfl trivial) hd, ?_⟩
  refine ⟨acall_hit (c := c96.to) m _ rfl hp.1, ?_⟩
  refine ⟨acall_hit (c := c74g.to) (((nP m : Nat) : Int), F, r) _ rfl hp.2.1, ?_⟩
  refine ⟨acall_hit (c := c97.to) (2 ^ ((nP m : Nat) : Int).toNat - 1, F, m) _ rfl p97, ?_⟩
  refine And.intro ?_ ?_
  · skip
    intro w0
    first | rfl | (exfalso; omega) | (exfalso; simp [hsame] at w0) | (exfalso; simp [hsame] at w1)
  · skip
    intro w0
    first | rfl | (exfalso; omega) | (exfalso; simp [hsame] at w0) | (exfalso; simp [hsame] at w1)
noncomputable def c47t : PCtr Tryd.prog := sctr ok47t (X := Nat × W × Room) (fun x => [I x.1, ls (lst x.2.1) x.2.2]) (fun x => (2 ≤ x.1 ∧ x.1 ≤ 4) ∧ (Fm (nP x.1 : Nat) (lst x.2.1) x.2.1 ∧ rok (lst x.2.1) x.2.2) ∧ Inv x.1 x.2.1) (fun x => .tup [.bool true, I 0]) (by intro x y e _ _; simp [Int.natCast_inj] at e; simp [e]) (fun x => by simp [AV.bnds, AV.bnd, AV.wk, rm_wk_bnd]) (fun x => by first | rfl | (simp [AV.bnd, rm_wk_bnd]; done)  | (simp [AV.bnd, AV.bnds, rm_wk_bnd]; done) | simp [AV.bnd, AV.bnds, Room.bnd, rm_wk_bnd]) (fun x hx => ⟨_, _, _, .pure c95 (.pure c96 (.pure c74g (.pure c97 (.nil)))), r47t (x.1) (x.2.1) (x.2.2).wk (by first | exact hx | (simp only [rok_wk]; exact hx) | (simp only [rok_wk, lst_wk]; exact hx) | (simp only [rok_wk, lst_wk, lsn_wk]; exact hx))⟩)
/-! ### Contains -/
end Go.Proofs.Evd

