/- Layer 8: EvadeProperties. -/
import Derived.Test.YtjobibaeklbkmaaDoorEdBj
import Derived.Test.YtjobibaeklbkmaaDoorEdBl
import Derived.Test.YtjobibaeklbkmaaDoorEdAe
import Derived.KernelRfl
set_option linter.unusedSimpArgs false
set_option linter.unusedVariables false
set_option linter.unnecessarySimpa false
set_option maxHeartbeats 4000000
set_option maxRecDepth 100000
namespace Go.Proofs.Evd
open Go Go.VM
open Go.Proofs.Sur (W w_wrap w_nat w_inj w_eq0 w_and w_or w_andn w_shl w_shr neg_nat sub_nat tz tz_ok cl bits_cons bits_0 bits_len andn andn_bit andn_le i_wrap i_and i_or i_andn i_shl i_shr bit_01)

theorem not_inv {m : Nat} (hm : 2 ≤ m ∧ m ≤ 4) {F : W} (hr : Rg (nP m) F) (h : ¬ Inv m F) : ¬ cls (fix m F) = F := fun e => h (by
  have := inv_cls (itr_rg hm hr 64) (inv_of (fix_fix m F))
  rw [show itr m F 64 = fix m F from rfl, e] at this
  exact this)
theorem ok7 : FokM Tryd.prog none1 7 Tryd.f7 := ⟨mixed, by kernel_rfl, by kernel_rfl, by kernel_rfl, by kernel_rfl⟩
theorem r7ts (m : Nat) (hm : 2 ≤ m ∧ m ≤ 4) (F : W) (q : Room) (hf : Fm (nP m : Nat) (lst F) F) (hq : rok (lst F) q) (hqe : em (lst F) q) (hI : Inv m F) (k : List Nat) (r : Room) (hs1 : okS (nP m : Nat) (ic k)) (hr : rok (ic k) r) (he : em (ic k) r) : Body (En6 [c18o.to, c47t.to, c48g.to, c51.to, c22.to, c49.to, c50.to, c21.to, c24.to, c52.to, c26.to]) none1 Tryd.f7 [I m, ls (lst F) q, ls (ic k) r] .nil (.bool true, .nil) := by
  have hd49 := pd_t hm
  have hrg := hf.rg
  rw [Int.toNat_natCast] at hrg
  have hlf : lim (lst F).length := by have := lst_len F; simp only [lim]; omega
  have p18f : (elts F).length ≤ 70 ∧ rok (lst F) q ∧ em (lst F) q := ⟨elts_70 F, hq, hqe⟩
  have p24 : lim (lst F).length ∧ rok (lst F) q := ⟨hlf, hq⟩
  have hb24 : famB (nP m : Nat) (lst F) = true := famB_t ⟨F, hf⟩
  have p52 : (2 ≤ m ∧ m ≤ 4) ∧ Fm (nP m : Nat) (lst F) F ∧ rok (lst F) q := ⟨hm, hf, hq⟩
  have hb52 : exB m F = true := exB_t ((ex_inv hm hrg).2 hI)
  have p47 : (2 ≤ m ∧ m ≤ 4) ∧ (Fm (nP m : Nat) (lst F) F ∧ rok (lst F) (rcl q)) ∧ Inv m F := ⟨hm, ⟨hf, rcl_rok hq⟩, hI⟩
  have hk64 : k.length ≤ 64 := by have := hs1.2.1; rwa [ic_len] at this
  have hk : lim (ic k).length := by have := ic_len k; simp only [lim]; omega
  have p18 : k.length ≤ 70 ∧ rok (ic k) r ∧ em (ic k) r := ⟨by omega, hr, he⟩
  have p21 : lim (ic k).length ∧ rok (ic k) r := ⟨hk, hr⟩
  have hb21 := gB_t hs1
  have p48 : (2 ≤ m ∧ m ≤ 4) ∧ rok (ic k) (rcl r) ∧ okS (nP m : Nat) (ic k) := ⟨hm, rcl_rok hr, hs1⟩
  have p51 : (2 ≤ m ∧ m ≤ 4) ∧ rok (ic k) r ∧ okS (nP m : Nat) (ic k) := ⟨hm, hr, hs1⟩
  have p22 : lim (lst (spV m (fm k))).length ∧ rok (lst (spV m (fm k))) (rn (lst (spV m (fm k)))) ∧ rok (lst (spV m (fm k))) (rn (lst (spV m (fm k)))) := ⟨by have := lst_len (spV m (fm k)); simp only [lim]; omega, rn_rok _, rn_rok _⟩
  have q22 : decide (lst (spV m (fm k)) = lst (spV m (fm k))) = true := decide_eq_true rfl
  refine body_s ([Ans.o (Orc.val 14 (AV.sl (ints (ic (elts F))) (ic (elts F)).length (rcl q)) (H.mk [] [] [])), Ans.o (Orc.val 15 (AV.tup [AV.bool true, I 0]) (H.mk [] [] [])), Ans.o (Orc.val 21 (AV.sl (ints (ic k)) (ic k).length (rcl r)) (H.mk [] [] [])), Ans.o (Orc.val 22 (AV.tup [AV.sl (ints (lst (spV m (fm k)))) (lst (spV m (fm k))).length (rn (lst (spV m (fm k)))), I 0]) (H.mk [] [] [])), Ans.o (Orc.val 26 (AV.bool true) (H.mk [] [] [])), Ans.o (Orc.val 47 (I (↑(nP m) : Int)) (H.mk [] [] [])), Ans.o (Orc.val 49 (AV.bool true) (H.mk [] [] [])), Ans.o (Orc.val 53 (AV.sl (ints (lst (spV m (fm k)))) (lst (spV m (fm k))).length (rn (lst (spV m (fm k))))) (H.mk [] [] [])), Ans.o (Orc.val 54 (AV.bool true) (H.mk [] [] [])), Ans.o Orc.dflt, Ans.o (Orc.val 68 (I (↑(nP m) : Int)) (H.mk [] [] [])), Ans.o (Orc.val 70 (AV.bool true) (H.mk [] [] [])), Ans.o (Orc.val 84 (AV.bool true) (H.mk [] [] [])), Ans.o Orc.dflt, Ans.o (Orc.val 91 (AV.bool true) (H.mk [] [] []))]) (aCall (Sof [c18o.to, c47t.to, c48g.to, c51.to, c22.to, c49.to, c50.to, c21.to, c24.to, c52.to, c26.to]) (AV.fn (Fn.func (18 : Nat)) [] []) [AV.sl (ints (lst F)) (lst F).length q] (H.mk [] [] []) = some (AV.sl (ints (ic (elts F))) (ic (elts F)).length (rcl q), H.mk [] [] []) ∧ aCall (Sof [c18o.to, c47t.to, c48g.to, c51.to, c22.to, c49.to, c50.to, c21.to, c24.to, c52.to, c26.to]) (AV.fn (Fn.func (47 : Nat)) [] []) [I (↑m : Int), AV.sl (ints (ic (elts F))) (ic (elts F)).length (rcl q)] (H.mk [] [] []) = some (AV.tup [AV.bool true, I 0], H.mk [] [] []) ∧ aCall (Sof [c18o.to, c47t.to, c48g.to, c51.to, c22.to, c49.to, c50.to, c21.to, c24.to, c52.to, c26.to]) (AV.fn (Fn.func (18 : Nat)) [] []) [AV.sl (ints (ic k)) (ic k).length r] (H.mk [] [] []) = some (AV.sl (ints (ic k)) (ic k).length (rcl r), H.mk [] [] []) ∧ aCall (Sof [c18o.to, c47t.to, c48g.to, c51.to, c22.to, c49.to, c50.to, c21.to, c24.to, c52.to, c26.to]) (AV.fn (Fn.func (48 : Nat)) [] []) [I (↑m : Int), AV.sl (ints (ic k)) (ic k).length (rcl r)] (H.mk [] [] []) = some (AV.tup [AV.sl (ints (lst (spV m (fm k)))) (lst (spV m (fm k))).length (rn (lst (spV m (fm k)))), I 0], H.mk [] [] []) ∧ aCall (Sof [c18o.to, c47t.to, c48g.to, c51.to, c22.to, c49.to, c50.to, c21.to, c24.to, c52.to, c26.to]) (AV.fn (Fn.func (49 : Nat)) [] []) [I (↑m : Int)] (H.mk [] [] []) = some (AV.bool true, H.mk [] [] []) ∧ aCall (Sof [c18o.to, c47t.to, c48g.to, c51.to, c22.to, c49.to, c50.to, c21.to, c24.to, c52.to, c26.to]) (AV.fn (Fn.func (50 : Nat)) [] []) [I (↑m : Int)] (H.mk [] [] []) = some (I (↑(nP m) : Int), H.mk [] [] []) ∧ aCall (Sof [c18o.to, c47t.to, c48g.to, c51.to, c22.to, c49.to, c50.to, c21.to, c24.to, c52.to, c26.to]) (AV.fn (Fn.func (21 : Nat)) [] []) [I (↑(nP m) : Int), AV.sl (ints (ic k)) (ic k).length r] (H.mk [] [] []) = some (AV.bool true, H.mk [] [] []) ∧ aCall (Sof [c18o.to, c47t.to, c48g.to, c51.to, c22.to, c49.to, c50.to, c21.to, c24.to, c52.to, c26.to]) (AV.fn (Fn.func (51 : Nat)) [] []) [I (↑m : Int), AV.sl (ints (ic k)) (ic k).length r] (H.mk [] [] []) = some (AV.sl (ints (lst (spV m (fm k)))) (lst (spV m (fm k))).length (rn (lst (spV m (fm k)))), H.mk [] [] []) ∧ aCall (Sof [c18o.to, c47t.to, c48g.to, c51.to, c22.to, c49.to, c50.to, c21.to, c24.to, c52.to, c26.to]) (AV.fn (Fn.func (22 : Nat)) [] []) [AV.sl (ints (lst (spV m (fm k)))) (lst (spV m (fm k))).length (rn (lst (spV m (fm k)))), AV.sl (ints (lst (spV m (fm k)))) (lst (spV m (fm k))).length (rn (lst (spV m (fm k))))] (H.mk [] [] []) = some (AV.bool true, H.mk [] [] []) ∧ aCall (Sof [c18o.to, c47t.to, c48g.to, c51.to, c22.to, c49.to, c50.to, c21.to, c24.to, c52.to, c26.to]) (AV.fn (Fn.func (50 : Nat)) [] []) [I (↑m : Int)] (H.mk [] [] []) = some (I (↑(nP m) : Int), H.mk [] [] []) ∧ aCall (Sof [c18o.to, c47t.to, c48g.to, c51.to, c22.to, c49.to, c50.to, c21.to, c24.to, c52.to, c26.to]) (AV.fn (Fn.func (24 : Nat)) [] []) [I (↑(nP m) : Int), AV.sl (ints (lst F)) (lst F).length q] (H.mk [] [] []) = some (AV.bool true, H.mk [] [] []) ∧ aCall (Sof [c18o.to, c47t.to, c48g.to, c51.to, c22.to, c49.to, c50.to, c21.to, c24.to, c52.to, c26.to]) (AV.fn (Fn.func (52 : Nat)) [] []) [I (↑m : Int), AV.sl (ints (lst F)) (lst F).length q] (H.mk [] [] []) = some (AV.bool true, H.mk [] [] []) ∧ aCall (Sof [c18o.to, c47t.to, c48g.to, c51.to, c22.to, c49.to, c50.to, c21.to, c24.to, c52.to, c26.to]) (AV.fn (Fn.func (26 : Nat)) [] []) [] (H.mk [] [] []) = some (AV.bool true, H.mk [] [] []) ∧ (AV.bool true, H.mk [] [] []) = (AV.bool true, H.mk [] [] [])) (by kernel_rfl) ?_
  refine ⟨by first | exact acall_hit (c := c18o.to) (.inl (elts F, q)) _ rfl p18f | exact acall_hit (c := c18o.to) (.inl (k, r)) _ rfl p18, ?_⟩
  refine ⟨acall_hit (c := c47t.to) (m, F, rcl q) _ rfl p47, ?_⟩
  refine ⟨by first | exact acall_hit (c := c18o.to) (.inl (elts F, q)) _ rfl p18f | exact acall_hit (c := c18o.to) (.inl (k, r)) _ rfl p18, ?_⟩
  refine ⟨acall_hit (c := c48g.to) (m, k, rcl r) _ rfl p48, ?_⟩
  refine ⟨acall_b (acall_hit (c := c49.to) (m : Int) _ rfl trivial) hd49, ?_⟩
  refine ⟨acall_hit (c := c50.to) m _ rfl hm, ?_⟩
  refine ⟨acall_b (acall_hit (c := c21.to) ((nP m : Int), ic k, r) _ rfl p21) hb21, ?_⟩
  refine ⟨acall_hit (c := c51.to) (m, k, r) _ rfl p51, ?_⟩
  refine ⟨acall_b (acall_hit (c := c22.to) (lst (spV m (fm k)), rn (lst (spV m (fm k))), lst (spV m (fm k)), rn (lst (spV m (fm k)))) _ rfl p22) q22, ?_⟩
  refine ⟨acall_hit (c := c50.to) m _ rfl hm, ?_⟩
  refine ⟨acall_b (acall_hit (c := c24.to) ((nP m : Int), lst F, q) _ rfl p24) hb24, ?_⟩
  refine ⟨acall_b (acall_hit (c := c52.to) (m, F, q) _ rfl p52) hb52, ?_⟩
  refine ⟨acall_hit (c := c26.to) () _ rfl trivial, ?_⟩
  first | rfl | (exfalso; omega)
theorem r7tn (m : Nat) (hm : 2 ≤ m ∧ m ≤ 4) (F : W) (q : Room) (hf : Fm (nP m : Nat) (lst F) F) (hq : rok (lst F) q) (hqe : em (lst F) q) (hI : Inv m F) (l : List Int) (r : Room) (hs1 : ¬ okS (nP m : Nat) l) (hl : lim l.length) (hr : rok l r) (he : em l r) (hg : rng l) : Body (En6 [c18o.to, c47t.to, c48b.to, c49.to, c50.to, c21.to, c24.to, c52.to, c26.to]) none1 Tryd.f7 [I m, ls (lst F) q, ls (l) r] .nil (.bool true, .nil) := by
  have hd49 := pd_t hm
  have hrg := hf.rg
  rw [Int.toNat_natCast] at hrg
  have hlf : lim (lst F).length := by have := lst_len F; simp only [lim]; omega
  have p18f : (elts F).length ≤ 70 ∧ rok (lst F) q ∧ em (lst F) q := ⟨elts_70 F, hq, hqe⟩
  have p24 : lim (lst F).length ∧ rok (lst F) q := ⟨hlf, hq⟩
  have hb24 : famB (nP m : Nat) (lst F) = true := famB_t ⟨F, hf⟩
  have p52 : (2 ≤ m ∧ m ≤ 4) ∧ Fm (nP m : Nat) (lst F) F ∧ rok (lst F) q := ⟨hm, hf, hq⟩
  have hb52 : exB m F = true := exB_t ((ex_inv hm hrg).2 hI)
  have p47 : (2 ≤ m ∧ m ≤ 4) ∧ (Fm (nP m : Nat) (lst F) F ∧ rok (lst F) (rcl q)) ∧ Inv m F := ⟨hm, ⟨hf, rcl_rok hq⟩, hI⟩
  have p18 : lim l.length ∧ rok l r ∧ em l r := ⟨hl, hr, he⟩
  have p21 : lim l.length ∧ rok l r := ⟨hl, hr⟩
  have hb21 := gB_f hs1
  have p48 : ((2 ≤ m ∧ m ≤ 4) ∧ lim (cut l).length ∧ rok (cut l) (rcl r) ∧ rng (cut l)) ∧ ¬ okS (nP m : Nat) (cut l) := ⟨⟨hm, cut_lim l, cut_rok hr, cut_rng hg⟩, cut_okS hs1⟩
  refine body_s ([Ans.o (Orc.val 14 (AV.sl (ints (ic (elts F))) (ic (elts F)).length (rcl q)) (H.mk [] [] [])), Ans.o (Orc.val 15 (AV.tup [AV.bool true, I 0]) (H.mk [] [] [])), Ans.o (Orc.val 21 (AV.sl (ints (cut l)) (cut l).length (rcl r)) (H.mk [] [] [])), Ans.o (Orc.val 22 (AV.tup [AV.sl [] (0 : Nat) Room.nil, I 2]) (H.mk [] [] [])), Ans.o (Orc.val 26 (AV.bool true) (H.mk [] [] [])), Ans.o (Orc.val 47 (I (↑(nP m) : Int)) (H.mk [] [] [])), Ans.o (Orc.val 49 (AV.bool false) (H.mk [] [] [])), Ans.o Orc.dflt, Ans.o Orc.dflt, Ans.o (Orc.val 68 (I (↑(nP m) : Int)) (H.mk [] [] [])), Ans.o (Orc.val 70 (AV.bool true) (H.mk [] [] [])), Ans.o (Orc.val 84 (AV.bool true) (H.mk [] [] [])), Ans.o Orc.dflt, Ans.o (Orc.val 91 (AV.bool true) (H.mk [] [] []))]) (aCall (Sof [c18o.to, c47t.to, c48b.to, c49.to, c50.to, c21.to, c24.to, c52.to, c26.to]) (AV.fn (Fn.func (18 : Nat)) [] []) [AV.sl (ints (lst F)) (lst F).length q] (H.mk [] [] []) = some (AV.sl (ints (ic (elts F))) (ic (elts F)).length (rcl q), H.mk [] [] []) ∧ aCall (Sof [c18o.to, c47t.to, c48b.to, c49.to, c50.to, c21.to, c24.to, c52.to, c26.to]) (AV.fn (Fn.func (47 : Nat)) [] []) [I (↑m : Int), AV.sl (ints (ic (elts F))) (ic (elts F)).length (rcl q)] (H.mk [] [] []) = some (AV.tup [AV.bool true, I 0], H.mk [] [] []) ∧ aCall (Sof [c18o.to, c47t.to, c48b.to, c49.to, c50.to, c21.to, c24.to, c52.to, c26.to]) (AV.fn (Fn.func (18 : Nat)) [] []) [AV.sl (ints l) l.length r] (H.mk [] [] []) = some (AV.sl (ints (cut l)) (cut l).length (rcl r), H.mk [] [] []) ∧ aCall (Sof [c18o.to, c47t.to, c48b.to, c49.to, c50.to, c21.to, c24.to, c52.to, c26.to]) (AV.fn (Fn.func (48 : Nat)) [] []) [I (↑m : Int), AV.sl (ints (cut l)) (cut l).length (rcl r)] (H.mk [] [] []) = some (AV.tup [AV.sl [] (0 : Nat) Room.nil, I 2], H.mk [] [] []) ∧ aCall (Sof [c18o.to, c47t.to, c48b.to, c49.to, c50.to, c21.to, c24.to, c52.to, c26.to]) (AV.fn (Fn.func (49 : Nat)) [] []) [I (↑m : Int)] (H.mk [] [] []) = some (AV.bool true, H.mk [] [] []) ∧ aCall (Sof [c18o.to, c47t.to, c48b.to, c49.to, c50.to, c21.to, c24.to, c52.to, c26.to]) (AV.fn (Fn.func (50 : Nat)) [] []) [I (↑m : Int)] (H.mk [] [] []) = some (I (↑(nP m) : Int), H.mk [] [] []) ∧ aCall (Sof [c18o.to, c47t.to, c48b.to, c49.to, c50.to, c21.to, c24.to, c52.to, c26.to]) (AV.fn (Fn.func (21 : Nat)) [] []) [I (↑(nP m) : Int), AV.sl (ints l) l.length r] (H.mk [] [] []) = some (AV.bool false, H.mk [] [] []) ∧ aCall (Sof [c18o.to, c47t.to, c48b.to, c49.to, c50.to, c21.to, c24.to, c52.to, c26.to]) (AV.fn (Fn.func (50 : Nat)) [] []) [I (↑m : Int)] (H.mk [] [] []) = some (I (↑(nP m) : Int), H.mk [] [] []) ∧ aCall (Sof [c18o.to, c47t.to, c48b.to, c49.to, c50.to, c21.to, c24.to, c52.to, c26.to]) (AV.fn (Fn.func (24 : Nat)) [] []) [I (↑(nP m) : Int), AV.sl (ints (lst F)) (lst F).length q] (H.mk [] [] []) = some (AV.bool true, H.mk [] [] []) ∧ aCall (Sof [c18o.to, c47t.to, c48b.to, c49.to, c50.to, c21.to, c24.to, c52.to, c26.to]) (AV.fn (Fn.func (52 : Nat)) [] []) [I (↑m : Int), AV.sl (ints (lst F)) (lst F).length q] (H.mk [] [] []) = some (AV.bool true, H.mk [] [] []) ∧ aCall (Sof [c18o.to, c47t.to, c48b.to, c49.to, c50.to, c21.to, c24.to, c52.to, c26.to]) (AV.fn (Fn.func (26 : Nat)) [] []) [] (H.mk [] [] []) = some (AV.bool true, H.mk [] [] []) ∧ (AV.bool true, H.mk [] [] []) = (AV.bool true, H.mk [] [] [])) (by kernel_rfl) ?_
  refine ⟨by first | exact acall_hit (c := c18o.to) (.inl (elts F, q)) _ rfl p18f | exact acall_hit (c := c18o.to) (.inr (l, r)) _ rfl p18, ?_⟩
  refine ⟨acall_hit (c := c47t.to) (m, F, rcl q) _ rfl p47, ?_⟩
  refine ⟨by first | exact acall_hit (c := c18o.to) (.inl (elts F, q)) _ rfl p18f | exact acall_hit (c := c18o.to) (.inr (l, r)) _ rfl p18, ?_⟩
  refine ⟨acall_hit (c := c48b.to) (m, cut l, rcl r) _ rfl p48, ?_⟩
  refine ⟨acall_b (acall_hit (c := c49.to) (m : Int) _ rfl trivial) hd49, ?_⟩
  refine ⟨acall_hit (c := c50.to) m _ rfl hm, ?_⟩
  refine ⟨acall_b (acall_hit (c := c21.to) ((nP m : Int), l, r) _ rfl p21) hb21, ?_⟩
  refine ⟨acall_hit (c := c50.to) m _ rfl hm, ?_⟩
  refine ⟨acall_b (acall_hit (c := c24.to) ((nP m : Int), lst F, q) _ rfl p24) hb24, ?_⟩
  refine ⟨acall_b (acall_hit (c := c52.to) (m, F, q) _ rfl p52) hb52, ?_⟩
  refine ⟨acall_hit (c := c26.to) () _ rfl trivial, ?_⟩
  first | rfl | (exfalso; omega)
theorem r7fs (m : Nat) (hm : 2 ≤ m ∧ m ≤ 4) (F : W) (q : Room) (hf : Fm (nP m : Nat) (lst F) F) (hq : rok (lst F) q) (hqe : em (lst F) q) (hI : ¬ Inv m F) (k : List Nat) (r : Room) (hs1 : okS (nP m : Nat) (ic k)) (hr : rok (ic k) r) (he : em (ic k) r) : Body (En6 [c18o.to, c47f.to, c48g.to, c51.to, c22.to, c49.to, c50.to, c21.to, c24.to, c52.to, c26.to]) none1 Tryd.f7 [I m, ls (lst F) q, ls (ic k) r] .nil (.bool true, .nil) := by
  have hd49 := pd_t hm
  have hrg := hf.rg
  rw [Int.toNat_natCast] at hrg
  have hlf : lim (lst F).length := by have := lst_len F; simp only [lim]; omega
  have p18f : (elts F).length ≤ 70 ∧ rok (lst F) q ∧ em (lst F) q := ⟨elts_70 F, hq, hqe⟩
  have p24 : lim (lst F).length ∧ rok (lst F) q := ⟨hlf, hq⟩
  have hb24 : famB (nP m : Nat) (lst F) = true := famB_t ⟨F, hf⟩
  have p52 : (2 ≤ m ∧ m ≤ 4) ∧ Fm (nP m : Nat) (lst F) F ∧ rok (lst F) q := ⟨hm, hf, hq⟩
  have hb52 : exB m F = false := exB_f (fun h => hI ((ex_inv hm hrg).1 h))
  have p47 : (2 ≤ m ∧ m ≤ 4) ∧ (Fm (nP m : Nat) (lst F) F ∧ rok (lst F) (rcl q)) ∧ ¬ cls (fix m F) = F := ⟨hm, ⟨hf, rcl_rok hq⟩, not_inv hm hrg hI⟩
  have hk64 : k.length ≤ 64 := by have := hs1.2.1; rwa [ic_len] at this
  have hk : lim (ic k).length := by have := ic_len k; simp only [lim]; omega
  have p18 : k.length ≤ 70 ∧ rok (ic k) r ∧ em (ic k) r := ⟨by omega, hr, he⟩
  have p21 : lim (ic k).length ∧ rok (ic k) r := ⟨hk, hr⟩
  have hb21 := gB_t hs1
  have p48 : (2 ≤ m ∧ m ≤ 4) ∧ rok (ic k) (rcl r) ∧ okS (nP m : Nat) (ic k) := ⟨hm, rcl_rok hr, hs1⟩
  have p51 : (2 ≤ m ∧ m ≤ 4) ∧ rok (ic k) r ∧ okS (nP m : Nat) (ic k) := ⟨hm, hr, hs1⟩
  have p22 : lim (lst (spV m (fm k))).length ∧ rok (lst (spV m (fm k))) (rn (lst (spV m (fm k)))) ∧ rok (lst (spV m (fm k))) (rn (lst (spV m (fm k)))) := ⟨by have := lst_len (spV m (fm k)); simp only [lim]; omega, rn_rok _, rn_rok _⟩
  have q22 : decide (lst (spV m (fm k)) = lst (spV m (fm k))) = true := decide_eq_true rfl
  refine body_s ([Ans.o (Orc.val 14 (AV.sl (ints (ic (elts F))) (ic (elts F)).length (rcl q)) (H.mk [] [] [])), Ans.o (Orc.val 15 (AV.tup [AV.bool false, I 0]) (H.mk [] [] [])), Ans.o (Orc.val 21 (AV.sl (ints (ic k)) (ic k).length (rcl r)) (H.mk [] [] [])), Ans.o (Orc.val 22 (AV.tup [AV.sl (ints (lst (spV m (fm k)))) (lst (spV m (fm k))).length (rn (lst (spV m (fm k)))), I 0]) (H.mk [] [] [])), Ans.o (Orc.val 26 (AV.bool true) (H.mk [] [] [])), Ans.o (Orc.val 47 (I (↑(nP m) : Int)) (H.mk [] [] [])), Ans.o (Orc.val 49 (AV.bool true) (H.mk [] [] [])), Ans.o (Orc.val 53 (AV.sl (ints (lst (spV m (fm k)))) (lst (spV m (fm k))).length (rn (lst (spV m (fm k))))) (H.mk [] [] [])), Ans.o (Orc.val 54 (AV.bool true) (H.mk [] [] [])), Ans.o Orc.dflt, Ans.o (Orc.val 68 (I (↑(nP m) : Int)) (H.mk [] [] [])), Ans.o (Orc.val 70 (AV.bool true) (H.mk [] [] [])), Ans.o (Orc.val 84 (AV.bool false) (H.mk [] [] [])), Ans.o Orc.dflt, Ans.o (Orc.val 91 (AV.bool true) (H.mk [] [] []))]) (aCall (Sof [c18o.to, c47f.to, c48g.to, c51.to, c22.to, c49.to, c50.to, c21.to, c24.to, c52.to, c26.to]) (AV.fn (Fn.func (18 : Nat)) [] []) [AV.sl (ints (lst F)) (lst F).length q] (H.mk [] [] []) = some (AV.sl (ints (ic (elts F))) (ic (elts F)).length (rcl q), H.mk [] [] []) ∧ aCall (Sof [c18o.to, c47f.to, c48g.to, c51.to, c22.to, c49.to, c50.to, c21.to, c24.to, c52.to, c26.to]) (AV.fn (Fn.func (47 : Nat)) [] []) [I (↑m : Int), AV.sl (ints (ic (elts F))) (ic (elts F)).length (rcl q)] (H.mk [] [] []) = some (AV.tup [AV.bool false, I 0], H.mk [] [] []) ∧ aCall (Sof [c18o.to, c47f.to, c48g.to, c51.to, c22.to, c49.to, c50.to, c21.to, c24.to, c52.to, c26.to]) (AV.fn (Fn.func (18 : Nat)) [] []) [AV.sl (ints (ic k)) (ic k).length r] (H.mk [] [] []) = some (AV.sl (ints (ic k)) (ic k).length (rcl r), H.mk [] [] []) ∧ aCall (Sof [c18o.to, c47f.to, c48g.to, c51.to, c22.to, c49.to, c50.to, c21.to, c24.to, c52.to, c26.to]) (AV.fn (Fn.func (48 : Nat)) [] []) [I (↑m : Int), AV.sl (ints (ic k)) (ic k).length (rcl r)] (H.mk [] [] []) = some (AV.tup [AV.sl (ints (lst (spV m (fm k)))) (lst (spV m (fm k))).length (rn (lst (spV m (fm k)))), I 0], H.mk [] [] []) ∧ aCall (Sof [c18o.to, c47f.to, c48g.to, c51.to, c22.to, c49.to, c50.to, c21.to, c24.to, c52.to, c26.to]) (AV.fn (Fn.func (49 : Nat)) [] []) [I (↑m : Int)] (H.mk [] [] []) = some (AV.bool true, H.mk [] [] []) ∧ aCall (Sof [c18o.to, c47f.to, c48g.to, c51.to, c22.to, c49.to, c50.to, c21.to, c24.to, c52.to, c26.to]) (AV.fn (Fn.func (50 : Nat)) [] []) [I (↑m : Int)] (H.mk [] [] []) = some (I (↑(nP m) : Int), H.mk [] [] []) ∧ aCall (Sof [c18o.to, c47f.to, c48g.to, c51.to, c22.to, c49.to, c50.to, c21.to, c24.to, c52.to, c26.to]) (AV.fn (Fn.func (21 : Nat)) [] []) [I (↑(nP m) : Int), AV.sl (ints (ic k)) (ic k).length r] (H.mk [] [] []) = some (AV.bool true, H.mk [] [] []) ∧ aCall (Sof [c18o.to, c47f.to, c48g.to, c51.to, c22.to, c49.to, c50.to, c21.to, c24.to, c52.to, c26.to]) (AV.fn (Fn.func (51 : Nat)) [] []) [I (↑m : Int), AV.sl (ints (ic k)) (ic k).length r] (H.mk [] [] []) = some (AV.sl (ints (lst (spV m (fm k)))) (lst (spV m (fm k))).length (rn (lst (spV m (fm k)))), H.mk [] [] []) ∧ aCall (Sof [c18o.to, c47f.to, c48g.to, c51.to, c22.to, c49.to, c50.to, c21.to, c24.to, c52.to, c26.to]) (AV.fn (Fn.func (22 : Nat)) [] []) [AV.sl (ints (lst (spV m (fm k)))) (lst (spV m (fm k))).length (rn (lst (spV m (fm k)))), AV.sl (ints (lst (spV m (fm k)))) (lst (spV m (fm k))).length (rn (lst (spV m (fm k))))] (H.mk [] [] []) = some (AV.bool true, H.mk [] [] []) ∧ aCall (Sof [c18o.to, c47f.to, c48g.to, c51.to, c22.to, c49.to, c50.to, c21.to, c24.to, c52.to, c26.to]) (AV.fn (Fn.func (50 : Nat)) [] []) [I (↑m : Int)] (H.mk [] [] []) = some (I (↑(nP m) : Int), H.mk [] [] []) ∧ aCall (Sof [c18o.to, c47f.to, c48g.to, c51.to, c22.to, c49.to, c50.to, c21.to, c24.to, c52.to, c26.to]) (AV.fn (Fn.func (24 : Nat)) [] []) [I (↑(nP m) : Int), AV.sl (ints (lst F)) (lst F).length q] (H.mk [] [] []) = some (AV.bool true, H.mk [] [] []) ∧ aCall (Sof [c18o.to, c47f.to, c48g.to, c51.to, c22.to, c49.to, c50.to, c21.to, c24.to, c52.to, c26.to]) (AV.fn (Fn.func (52 : Nat)) [] []) [I (↑m : Int), AV.sl (ints (lst F)) (lst F).length q] (H.mk [] [] []) = some (AV.bool false, H.mk [] [] []) ∧ aCall (Sof [c18o.to, c47f.to, c48g.to, c51.to, c22.to, c49.to, c50.to, c21.to, c24.to, c52.to, c26.to]) (AV.fn (Fn.func (26 : Nat)) [] []) [] (H.mk [] [] []) = some (AV.bool true, H.mk [] [] []) ∧ (AV.bool true, H.mk [] [] []) = (AV.bool true, H.mk [] [] [])) (by kernel_rfl) ?_
  refine ⟨by first | exact acall_hit (c := c18o.to) (.inl (elts F, q)) _ rfl p18f | exact acall_hit (c := c18o.to) (.inl (k, r)) _ rfl p18, ?_⟩
  refine ⟨acall_hit (c := c47f.to) (m, F, rcl q) _ rfl p47, ?_⟩
  refine ⟨by first | exact acall_hit (c := c18o.to) (.inl (elts F, q)) _ rfl p18f | exact acall_hit (c := c18o.to) (.inl (k, r)) _ rfl p18, ?_⟩
  refine ⟨acall_hit (c := c48g.to) (m, k, rcl r) _ rfl p48, ?_⟩
  refine ⟨acall_b (acall_hit (c := c49.to) (m : Int) _ rfl trivial) hd49, ?_⟩
  refine ⟨acall_hit (c := c50.to) m _ rfl hm, ?_⟩
  refine ⟨acall_b (acall_hit (c := c21.to) ((nP m : Int), ic k, r) _ rfl p21) hb21, ?_⟩
  refine ⟨acall_hit (c := c51.to) (m, k, r) _ rfl p51, ?_⟩
  refine ⟨acall_b (acall_hit (c := c22.to) (lst (spV m (fm k)), rn (lst (spV m (fm k))), lst (spV m (fm k)), rn (lst (spV m (fm k)))) _ rfl p22) q22, ?_⟩
  refine ⟨acall_hit (c := c50.to) m _ rfl hm, ?_⟩
  refine ⟨acall_b (acall_hit (c := c24.to) ((nP m : Int), lst F, q) _ rfl p24) hb24, ?_⟩
  refine ⟨acall_b (acall_hit (c := c52.to) (m, F, q) _ rfl p52) hb52, ?_⟩
  refine ⟨acall_hit (c := c26.to) () _ rfl trivial, ?_⟩
  first | rfl | (exfalso; omega)
theorem r7fn (m : Nat) (hm : 2 ≤ m ∧ m ≤ 4) (F : W) (q : Room) (hf : Fm (nP m : Nat) (lst F) F) (hq : rok (lst F) q) (hqe : em (lst F) q) (hI : ¬ Inv m F) (l : List Int) (r : Room) (hs1 : ¬ okS (nP m : Nat) l) (hl : lim l.length) (hr : rok l r) (he : em l r) (hg : rng l) : Body (En6 [c18o.to, c47f.to, c48b.to, c49.to, c50.to, c21.to, c24.to, c52.to, c26.to]) none1 Tryd.f7 [I m, ls (lst F) q, ls (l) r] .nil (.bool true, .nil) := by
  have hd49 := pd_t hm
  have hrg := hf.rg
  rw [Int.toNat_natCast] at hrg
  have hlf : lim (lst F).length := by have := lst_len F; simp only [lim]; omega
  have p18f : (elts F).length ≤ 70 ∧ rok (lst F) q ∧ em (lst F) q := ⟨elts_70 F, hq, hqe⟩
  have p24 : lim (lst F).length ∧ rok (lst F) q := ⟨hlf, hq⟩
  have hb24 : famB (nP m : Nat) (lst F) = true := famB_t ⟨F, hf⟩
  have p52 : (2 ≤ m ∧ m ≤ 4) ∧ Fm (nP m : Nat) (lst F) F ∧ rok (lst F) q := ⟨hm, hf, hq⟩
  have hb52 : exB m F = false := exB_f (fun h => hI ((ex_inv hm hrg).1 h))
  have p47 : (2 ≤ m ∧ m ≤ 4) ∧ (Fm (nP m : Nat) (lst F) F ∧ rok (lst F) (rcl q)) ∧ ¬ cls (fix m F) = F := ⟨hm, ⟨hf, rcl_rok hq⟩, not_inv hm hrg hI⟩
  have p18 : lim l.length ∧ rok l r ∧ em l r := ⟨hl, hr, he⟩
  have p21 : lim l.length ∧ rok l r := ⟨hl, hr⟩
  have hb21 := gB_f hs1
  have p48 : ((2 ≤ m ∧ m ≤ 4) ∧ lim (cut l).length ∧ rok (cut l) (rcl r) ∧ rng (cut l)) ∧ ¬ okS (nP m : Nat) (cut l) := ⟨⟨hm, cut_lim l, cut_rok hr, cut_rng hg⟩, cut_okS hs1⟩
  refine body_s ([Ans.o (Orc.val 14 (AV.sl (ints (ic (elts F))) (ic (elts F)).length (rcl q)) (H.mk [] [] [])), Ans.o (Orc.val 15 (AV.tup [AV.bool false, I 0]) (H.mk [] [] [])), Ans.o (Orc.val 21 (AV.sl (ints (cut l)) (cut l).length (rcl r)) (H.mk [] [] [])), Ans.o (Orc.val 22 (AV.tup [AV.sl [] (0 : Nat) Room.nil, I 2]) (H.mk [] [] [])), Ans.o (Orc.val 26 (AV.bool true) (H.mk [] [] [])), Ans.o (Orc.val 47 (I (↑(nP m) : Int)) (H.mk [] [] [])), Ans.o (Orc.val 49 (AV.bool false) (H.mk [] [] [])), Ans.o Orc.dflt, Ans.o Orc.dflt, Ans.o (Orc.val 68 (I (↑(nP m) : Int)) (H.mk [] [] [])), Ans.o (Orc.val 70 (AV.bool true) (H.mk [] [] [])), Ans.o (Orc.val 84 (AV.bool false) (H.mk [] [] [])), Ans.o Orc.dflt, Ans.o (Orc.val 91 (AV.bool true) (H.mk [] [] []))]) (aCall (Sof [c18o.to, c47f.to, c48b.to, c49.to, c50.to, c21.to, c24.to, c52.to, c26.to]) (AV.fn (Fn.func (18 : Nat)) [] []) [AV.sl (ints (lst F)) (lst F).length q] (H.mk [] [] []) = some (AV.sl (ints (ic (elts F))) (ic (elts F)).length (rcl q), H.mk [] [] []) ∧ aCall (Sof [c18o.to, c47f.to, c48b.to, c49.to, c50.to, c21.to, c24.to, c52.to, c26.to]) (AV.fn (Fn.func (47 : Nat)) [] []) [I (↑m : Int), AV.sl (ints (ic (elts F))) (ic (elts F)).length (rcl q)] (H.mk [] [] []) = some (AV.tup [AV.bool false, I 0], H.mk [] [] []) ∧ aCall (Sof [c18o.to, c47f.to, c48b.to, c49.to, c50.to, c21.to, c24.to, c52.to, c26.to]) (AV.fn (Fn.func (18 : Nat)) [] []) [AV.sl (ints l) l.length r] (H.mk [] [] []) = some (AV.sl (ints (cut l)) (cut l).length (rcl r), H.mk [] [] []) ∧ aCall (Sof [c18o.to, c47f.to, c48b.to, c49.to, c50.to, c21.to, c24.to, c52.to, c26.to]) (AV.fn (Fn.func (48 : Nat)) [] []) [I (↑m : Int), AV.sl (ints (cut l)) (cut l).length (rcl r)] (H.mk [] [] []) = some (AV.tup [AV.sl [] (0 : Nat) Room.nil, I 2], H.mk [] [] []) ∧ aCall (Sof [c18o.to, c47f.to, c48b.to, c49.to, c50.to, c21.to, c24.to, c52.to, c26.to]) (AV.fn (Fn.func (49 : Nat)) [] []) [I (↑m : Int)] (H.mk [] [] []) = some (AV.bool true, H.mk [] [] []) ∧ aCall (Sof [c18o.to, c47f.to, c48b.to, c49.to, c50.to, c21.to, c24.to, c52.to, c26.to]) (AV.fn (Fn.func (50 : Nat)) [] []) [I (↑m : Int)] (H.mk [] [] []) = some (I (↑(nP m) : Int), H.mk [] [] []) ∧ aCall (Sof [c18o.to, c47f.to, c48b.to, c49.to, c50.to, c21.to, c24.to, c52.to, c26.to]) (AV.fn (Fn.func (21 : Nat)) [] []) [I (↑(nP m) : Int), AV.sl (ints l) l.length r] (H.mk [] [] []) = some (AV.bool false, H.mk [] [] []) ∧ aCall (Sof [c18o.to, c47f.to, c48b.to, c49.to, c50.to, c21.to, c24.to, c52.to, c26.to]) (AV.fn (Fn.func (50 : Nat)) [] []) [I (↑m : Int)] (H.mk [] [] []) = some (I (↑(nP m) : Int), H.mk [] [] []) ∧ aCall (Sof [c18o.to, c47f.to, c48b.to, c49.to, c50.to, c21.to, c24.to, c52.to, c26.to]) (AV.fn (Fn.func (24 : Nat)) [] []) [I (↑(nP m) : Int), AV.sl (ints (lst F)) (lst F).length q] (H.mk [] [] []) = some (AV.bool true, H.mk [] [] []) ∧ aCall (Sof [c18o.to, c47f.to, c48b.to, c49.to, c50.to, c21.to, c24.to, c52.to, c26.to]) (AV.fn (Fn.func (52 : Nat)) [] []) [I (↑m : Int), AV.sl (ints (lst F)) (lst F).length q] (H.mk [] [] []) = some (AV.bool false, H.mk [] [] []) ∧ aCall (Sof [c18o.to, c47f.to, c48b.to, c49.to, c50.to, c21.to, c24.to, c52.to, c26.to]) (AV.fn (Fn.func (26 : Nat)) [] []) [] (H.mk [] [] []) = some (AV.bool true, H.mk [] [] []) ∧ (AV.bool true, H.mk [] [] []) = (AV.bool true, H.mk [] [] [])) (by kernel_rfl) ?_
  refine ⟨by first | exact acall_hit (c := c18o.to) (.inl (elts F, q)) _ rfl p18f | exact acall_hit (c := c18o.to) (.inr (l, r)) _ rfl p18, ?_⟩
  refine ⟨acall_hit (c := c47f.to) (m, F, rcl q) _ rfl p47, ?_⟩
  refine ⟨by first | exact acall_hit (c := c18o.to) (.inl (elts F, q)) _ rfl p18f | exact acall_hit (c := c18o.to) (.inr (l, r)) _ rfl p18, ?_⟩
  refine ⟨acall_hit (c := c48b.to) (m, cut l, rcl r) _ rfl p48, ?_⟩
  refine ⟨acall_b (acall_hit (c := c49.to) (m : Int) _ rfl trivial) hd49, ?_⟩
  refine ⟨acall_hit (c := c50.to) m _ rfl hm, ?_⟩
  refine ⟨acall_b (acall_hit (c := c21.to) ((nP m : Int), l, r) _ rfl p21) hb21, ?_⟩
  refine ⟨acall_hit (c := c50.to) m _ rfl hm, ?_⟩
  refine ⟨acall_b (acall_hit (c := c24.to) ((nP m : Int), lst F, q) _ rfl p24) hb24, ?_⟩
  refine ⟨acall_b (acall_hit (c := c52.to) (m, F, q) _ rfl p52) hb52, ?_⟩
  refine ⟨acall_hit (c := c26.to) () _ rfl trivial, ?_⟩
  first | rfl | (exfalso; omega)
theorem r7bs (m : Nat) (hm : 2 ≤ m ∧ m ≤ 4) (f : List Int) (q : Room) (hf : ¬ ∃ F, Fm (nP m : Nat) f F) (hfl : lim f.length) (hq : rok f q) (hqe : em f q) (hfg : rng f) (k : List Nat) (r : Room) (hs1 : okS (nP m : Nat) (ic k)) (hr : rok (ic k) r) (he : em (ic k) r) : Body (En6 [c18o.to, c47b.to, c48g.to, c51.to, c22.to, c49.to, c50.to, c21.to, c24.to, c26.to]) none1 Tryd.f7 [I m, ls (f) q, ls (ic k) r] .nil (.bool true, .nil) := by
  have hd49 := pd_t hm
  have p18f : lim f.length ∧ rok f q ∧ em f q := ⟨hfl, hq, hqe⟩
  have p24 : lim f.length ∧ rok f q := ⟨hfl, hq⟩
  have hb24 : famB (nP m : Nat) f = false := famB_f hf
  have p47 : ((2 ≤ m ∧ m ≤ 4) ∧ lim (cut f).length ∧ rok (cut f) (rcl q) ∧ rng (cut f)) ∧ ¬ ∃ F, Fm (nP m : Nat) (cut f) F := ⟨⟨hm, cut_lim f, cut_rok hq, cut_rng hfg⟩, cut_no hf⟩
  have hk64 : k.length ≤ 64 := by have := hs1.2.1; rwa [ic_len] at this
  have hk : lim (ic k).length := by have := ic_len k; simp only [lim]; omega
  have p18 : k.length ≤ 70 ∧ rok (ic k) r ∧ em (ic k) r := ⟨by omega, hr, he⟩
  have p21 : lim (ic k).length ∧ rok (ic k) r := ⟨hk, hr⟩
  have hb21 := gB_t hs1
  have p48 : (2 ≤ m ∧ m ≤ 4) ∧ rok (ic k) (rcl r) ∧ okS (nP m : Nat) (ic k) := ⟨hm, rcl_rok hr, hs1⟩
  have p51 : (2 ≤ m ∧ m ≤ 4) ∧ rok (ic k) r ∧ okS (nP m : Nat) (ic k) := ⟨hm, hr, hs1⟩
  have p22 : lim (lst (spV m (fm k))).length ∧ rok (lst (spV m (fm k))) (rn (lst (spV m (fm k)))) ∧ rok (lst (spV m (fm k))) (rn (lst (spV m (fm k)))) := ⟨by have := lst_len (spV m (fm k)); simp only [lim]; omega, rn_rok _, rn_rok _⟩
  have q22 : decide (lst (spV m (fm k)) = lst (spV m (fm k))) = true := decide_eq_true rfl
  refine body_s ([Ans.o (Orc.val 14 (AV.sl (ints (cut f)) (cut f).length (rcl q)) (H.mk [] [] [])), Ans.o (Orc.val 15 (AV.tup [AV.bool false, I 2]) (H.mk [] [] [])), Ans.o (Orc.val 21 (AV.sl (ints (ic k)) (ic k).length (rcl r)) (H.mk [] [] [])), Ans.o (Orc.val 22 (AV.tup [AV.sl (ints (lst (spV m (fm k)))) (lst (spV m (fm k))).length (rn (lst (spV m (fm k)))), I 0]) (H.mk [] [] [])), Ans.o (Orc.val 26 (AV.bool true) (H.mk [] [] [])), Ans.o (Orc.val 47 (I (↑(nP m) : Int)) (H.mk [] [] [])), Ans.o (Orc.val 49 (AV.bool true) (H.mk [] [] [])), Ans.o (Orc.val 53 (AV.sl (ints (lst (spV m (fm k)))) (lst (spV m (fm k))).length (rn (lst (spV m (fm k))))) (H.mk [] [] [])), Ans.o (Orc.val 54 (AV.bool true) (H.mk [] [] [])), Ans.o Orc.dflt, Ans.o (Orc.val 68 (I (↑(nP m) : Int)) (H.mk [] [] [])), Ans.o (Orc.val 70 (AV.bool false) (H.mk [] [] [])), Ans.o Orc.dflt, Ans.o (Orc.val 79 (AV.bool true) (H.mk [] [] []))]) (aCall (Sof [c18o.to, c47b.to, c48g.to, c51.to, c22.to, c49.to, c50.to, c21.to, c24.to, c26.to]) (AV.fn (Fn.func (18 : Nat)) [] []) [AV.sl (ints f) f.length q] (H.mk [] [] []) = some (AV.sl (ints (cut f)) (cut f).length (rcl q), H.mk [] [] []) ∧ aCall (Sof [c18o.to, c47b.to, c48g.to, c51.to, c22.to, c49.to, c50.to, c21.to, c24.to, c26.to]) (AV.fn (Fn.func (47 : Nat)) [] []) [I (↑m : Int), AV.sl (ints (cut f)) (cut f).length (rcl q)] (H.mk [] [] []) = some (AV.tup [AV.bool false, I 2], H.mk [] [] []) ∧ aCall (Sof [c18o.to, c47b.to, c48g.to, c51.to, c22.to, c49.to, c50.to, c21.to, c24.to, c26.to]) (AV.fn (Fn.func (18 : Nat)) [] []) [AV.sl (ints (ic k)) (ic k).length r] (H.mk [] [] []) = some (AV.sl (ints (ic k)) (ic k).length (rcl r), H.mk [] [] []) ∧ aCall (Sof [c18o.to, c47b.to, c48g.to, c51.to, c22.to, c49.to, c50.to, c21.to, c24.to, c26.to]) (AV.fn (Fn.func (48 : Nat)) [] []) [I (↑m : Int), AV.sl (ints (ic k)) (ic k).length (rcl r)] (H.mk [] [] []) = some (AV.tup [AV.sl (ints (lst (spV m (fm k)))) (lst (spV m (fm k))).length (rn (lst (spV m (fm k)))), I 0], H.mk [] [] []) ∧ aCall (Sof [c18o.to, c47b.to, c48g.to, c51.to, c22.to, c49.to, c50.to, c21.to, c24.to, c26.to]) (AV.fn (Fn.func (49 : Nat)) [] []) [I (↑m : Int)] (H.mk [] [] []) = some (AV.bool true, H.mk [] [] []) ∧ aCall (Sof [c18o.to, c47b.to, c48g.to, c51.to, c22.to, c49.to, c50.to, c21.to, c24.to, c26.to]) (AV.fn (Fn.func (50 : Nat)) [] []) [I (↑m : Int)] (H.mk [] [] []) = some (I (↑(nP m) : Int), H.mk [] [] []) ∧ aCall (Sof [c18o.to, c47b.to, c48g.to, c51.to, c22.to, c49.to, c50.to, c21.to, c24.to, c26.to]) (AV.fn (Fn.func (21 : Nat)) [] []) [I (↑(nP m) : Int), AV.sl (ints (ic k)) (ic k).length r] (H.mk [] [] []) = some (AV.bool true, H.mk [] [] []) ∧ aCall (Sof [c18o.to, c47b.to, c48g.to, c51.to, c22.to, c49.to, c50.to, c21.to, c24.to, c26.to]) (AV.fn (Fn.func (51 : Nat)) [] []) [I (↑m : Int), AV.sl (ints (ic k)) (ic k).length r] (H.mk [] [] []) = some (AV.sl (ints (lst (spV m (fm k)))) (lst (spV m (fm k))).length (rn (lst (spV m (fm k)))), H.mk [] [] []) ∧ aCall (Sof [c18o.to, c47b.to, c48g.to, c51.to, c22.to, c49.to, c50.to, c21.to, c24.to, c26.to]) (AV.fn (Fn.func (22 : Nat)) [] []) [AV.sl (ints (lst (spV m (fm k)))) (lst (spV m (fm k))).length (rn (lst (spV m (fm k)))), AV.sl (ints (lst (spV m (fm k)))) (lst (spV m (fm k))).length (rn (lst (spV m (fm k))))] (H.mk [] [] []) = some (AV.bool true, H.mk [] [] []) ∧ aCall (Sof [c18o.to, c47b.to, c48g.to, c51.to, c22.to, c49.to, c50.to, c21.to, c24.to, c26.to]) (AV.fn (Fn.func (50 : Nat)) [] []) [I (↑m : Int)] (H.mk [] [] []) = some (I (↑(nP m) : Int), H.mk [] [] []) ∧ aCall (Sof [c18o.to, c47b.to, c48g.to, c51.to, c22.to, c49.to, c50.to, c21.to, c24.to, c26.to]) (AV.fn (Fn.func (24 : Nat)) [] []) [I (↑(nP m) : Int), AV.sl (ints f) f.length q] (H.mk [] [] []) = some (AV.bool false, H.mk [] [] []) ∧ aCall (Sof [c18o.to, c47b.to, c48g.to, c51.to, c22.to, c49.to, c50.to, c21.to, c24.to, c26.to]) (AV.fn (Fn.func (26 : Nat)) [] []) [] (H.mk [] [] []) = some (AV.bool true, H.mk [] [] []) ∧ (AV.bool true, H.mk [] [] []) = (AV.bool true, H.mk [] [] [])) (by kernel_rfl) ?_
  refine ⟨by first | exact acall_hit (c := c18o.to) (.inr (f, q)) _ rfl p18f | exact acall_hit (c := c18o.to) (.inl (k, r)) _ rfl p18, ?_⟩
  refine ⟨acall_hit (c := c47b.to) (m, cut f, rcl q) _ rfl p47, ?_⟩
  refine ⟨by first | exact acall_hit (c := c18o.to) (.inr (f, q)) _ rfl p18f | exact acall_hit (c := c18o.to) (.inl (k, r)) _ rfl p18, ?_⟩
  refine ⟨acall_hit (c := c48g.to) (m, k, rcl r) _ rfl p48, ?_⟩
  refine ⟨acall_b (acall_hit (c := c49.to) (m : Int) _ rfl trivial) hd49, ?_⟩
  refine ⟨acall_hit (c := c50.to) m _ rfl hm, ?_⟩
  refine ⟨acall_b (acall_hit (c := c21.to) ((nP m : Int), ic k, r) _ rfl p21) hb21, ?_⟩
  refine ⟨acall_hit (c := c51.to) (m, k, r) _ rfl p51, ?_⟩
  refine ⟨acall_b (acall_hit (c := c22.to) (lst (spV m (fm k)), rn (lst (spV m (fm k))), lst (spV m (fm k)), rn (lst (spV m (fm k)))) _ rfl p22) q22, ?_⟩
  refine ⟨acall_hit (c := c50.to) m _ rfl hm, ?_⟩
  refine ⟨acall_b (acall_hit (c := c24.to) ((nP m : Int), f, q) _ rfl p24) hb24, ?_⟩
  refine ⟨acall_hit (c := c26.to) () _ rfl trivial, ?_⟩
  first | rfl | (exfalso; omega)
theorem r7bn (m : Nat) (hm : 2 ≤ m ∧ m ≤ 4) (f : List Int) (q : Room) (hf : ¬ ∃ F, Fm (nP m : Nat) f F) (hfl : lim f.length) (hq : rok f q) (hqe : em f q) (hfg : rng f) (l : List Int) (r : Room) (hs1 : ¬ okS (nP m : Nat) l) (hl : lim l.length) (hr : rok l r) (he : em l r) (hg : rng l) : Body (En6 [c18o.to, c47b.to, c48b.to, c49.to, c50.to, c21.to, c24.to, c26.to]) none1 Tryd.f7 [I m, ls (f) q, ls (l) r] .nil (.bool true, .nil) := by
  have hd49 := pd_t hm
  have p18f : lim f.length ∧ rok f q ∧ em f q := ⟨hfl, hq, hqe⟩
  have p24 : lim f.length ∧ rok f q := ⟨hfl, hq⟩
  have hb24 : famB (nP m : Nat) f = false := famB_f hf
  have p47 : ((2 ≤ m ∧ m ≤ 4) ∧ lim (cut f).length ∧ rok (cut f) (rcl q) ∧ rng (cut f)) ∧ ¬ ∃ F, Fm (nP m : Nat) (cut f) F := ⟨⟨hm, cut_lim f, cut_rok hq, cut_rng hfg⟩, cut_no hf⟩
  have p18 : lim l.length ∧ rok l r ∧ em l r := ⟨hl, hr, he⟩
  have p21 : lim l.length ∧ rok l r := ⟨hl, hr⟩
  have hb21 := gB_f hs1
  have p48 : ((2 ≤ m ∧ m ≤ 4) ∧ lim (cut l).length ∧ rok (cut l) (rcl r) ∧ rng (cut l)) ∧ ¬ okS (nP m : Nat) (cut l) := ⟨⟨hm, cut_lim l, cut_rok hr, cut_rng hg⟩, cut_okS hs1⟩
  refine body_s ([Ans.o (Orc.val 14 (AV.sl (ints (cut f)) (cut f).length (rcl q)) (H.mk [] [] [])), Ans.o (Orc.val 15 (AV.tup [AV.bool false, I 2]) (H.mk [] [] [])), Ans.o (Orc.val 21 (AV.sl (ints (cut l)) (cut l).length (rcl r)) (H.mk [] [] [])), Ans.o (Orc.val 22 (AV.tup [AV.sl [] (0 : Nat) Room.nil, I 2]) (H.mk [] [] [])), Ans.o (Orc.val 26 (AV.bool true) (H.mk [] [] [])), Ans.o (Orc.val 47 (I (↑(nP m) : Int)) (H.mk [] [] [])), Ans.o (Orc.val 49 (AV.bool false) (H.mk [] [] [])), Ans.o Orc.dflt, Ans.o Orc.dflt, Ans.o (Orc.val 68 (I (↑(nP m) : Int)) (H.mk [] [] [])), Ans.o (Orc.val 70 (AV.bool false) (H.mk [] [] [])), Ans.o Orc.dflt, Ans.o (Orc.val 79 (AV.bool true) (H.mk [] [] []))]) (aCall (Sof [c18o.to, c47b.to, c48b.to, c49.to, c50.to, c21.to, c24.to, c26.to]) (AV.fn (Fn.func (18 : Nat)) [] []) [AV.sl (ints f) f.length q] (H.mk [] [] []) = some (AV.sl (ints (cut f)) (cut f).length (rcl q), H.mk [] [] []) ∧ aCall (Sof [c18o.to, c47b.to, c48b.to, c49.to, c50.to, c21.to, c24.to, c26.to]) (AV.fn (Fn.func (47 : Nat)) [] []) [I (↑m : Int), AV.sl (ints (cut f)) (cut f).length (rcl q)] (H.mk [] [] []) = some (AV.tup [AV.bool false, I 2], H.mk [] [] []) ∧ aCall (Sof [c18o.to, c47b.to, c48b.to, c49.to, c50.to, c21.to, c24.to, c26.to]) (AV.fn (Fn.func (18 : Nat)) [] []) [AV.sl (ints l) l.length r] (H.mk [] [] []) = some (AV.sl (ints (cut l)) (cut l).length (rcl r), H.mk [] [] []) ∧ aCall (Sof [c18o.to, c47b.to, c48b.to, c49.to, c50.to, c21.to, c24.to, c26.to]) (AV.fn (Fn.func (48 : Nat)) [] []) [I (↑m : Int), AV.sl (ints (cut l)) (cut l).length (rcl r)] (H.mk [] [] []) = some (AV.tup [AV.sl [] (0 : Nat) Room.nil, I 2], H.mk [] [] []) ∧ aCall (Sof [c18o.to, c47b.to, c48b.to, c49.to, c50.to, c21.to, c24.to, c26.to]) (AV.fn (Fn.func (49 : Nat)) [] []) [I (↑m : Int)] (H.mk [] [] []) = some (AV.bool true, H.mk [] [] []) ∧ aCall (Sof [c18o.to, c47b.to, c48b.to, c49.to, c50.to, c21.to, c24.to, c26.to]) (AV.fn (Fn.func (50 : Nat)) [] []) [I (↑m : Int)] (H.mk [] [] []) = some (I (↑(nP m) : Int), H.mk [] [] []) ∧ aCall (Sof [c18o.to, c47b.to, c48b.to, c49.to, c50.to, c21.to, c24.to, c26.to]) (AV.fn (Fn.func (21 : Nat)) [] []) [I (↑(nP m) : Int), AV.sl (ints l) l.length r] (H.mk [] [] []) = some (AV.bool false, H.mk [] [] []) ∧ aCall (Sof [c18o.to, c47b.to, c48b.to, c49.to, c50.to, c21.to, c24.to, c26.to]) (AV.fn (Fn.func (50 : Nat)) [] []) [I (↑m : Int)] (H.mk [] [] []) = some (I (↑(nP m) : Int), H.mk [] [] []) ∧ aCall (Sof [c18o.to, c47b.to, c48b.to, c49.to, c50.to, c21.to, c24.to, c26.to]) (AV.fn (Fn.func (24 : Nat)) [] []) [I (↑(nP m) : Int), AV.sl (ints f) f.length q] (H.mk [] [] []) = some (AV.bool false, H.mk [] [] []) ∧ aCall (Sof [c18o.to, c47b.to, c48b.to, c49.to, c50.to, c21.to, c24.to, c26.to]) (AV.fn (Fn.func (26 : Nat)) [] []) [] (H.mk [] [] []) = some (AV.bool true, H.mk [] [] []) ∧ (AV.bool true, H.mk [] [] []) = (AV.bool true, H.mk [] [] [])) (by kernel_rfl) ?_
  refine ⟨by first | exact acall_hit (c := c18o.to) (.inr (f, q)) _ rfl p18f | exact acall_hit (c := c18o.to) (.inr (l, r)) _ rfl p18, ?_⟩
  refine ⟨acall_hit (c := c47b.to) (m, cut f, rcl q) _ rfl p47, ?_⟩
  refine ⟨by first | exact acall_hit (c := c18o.to) (.inr (f, q)) _ rfl p18f | exact acall_hit (c := c18o.to) (.inr (l, r)) _ rfl p18, ?_⟩
  refine ⟨acall_hit (c := c48b.to) (m, cut l, rcl r) _ rfl p48, ?_⟩
  refine ⟨acall_b (acall_hit (c := c49.to) (m : Int) _ rfl trivial) hd49, ?_⟩
  refine ⟨acall_hit (c := c50.to) m _ rfl hm, ?_⟩
  refine ⟨acall_b (acall_hit (c := c21.to) ((nP m : Int), l, r) _ rfl p21) hb21, ?_⟩
  refine ⟨acall_hit (c := c50.to) m _ rfl hm, ?_⟩
  refine ⟨acall_b (acall_hit (c := c24.to) ((nP m : Int), f, q) _ rfl p24) hb24, ?_⟩
  refine ⟨acall_hit (c := c26.to) () _ rfl trivial, ?_⟩
  first | rfl | (exfalso; omega)
theorem r7m (m : Int) (hm : ¬ (2 ≤ m ∧ m ≤ 4)) (f : List Int) (q : Room) (hfl : lim f.length) (hq : rok f q) (hqe : em f q) (l : List Int) (r : Room) (hl : lim l.length) (hr : rok l r) (he : em l r) : Body (En6 [c18.to, c47m.to, c48m.to, c49.to, c26.to]) none1 Tryd.f7 [I m, ls f q, ls l r] .nil (.bool true, .nil) := by
  have p18f : lim f.length ∧ rok f q ∧ em f q := ⟨hfl, hq, hqe⟩
  have p18 : lim l.length ∧ rok l r ∧ em l r := ⟨hl, hr, he⟩
  have hd49 : decide (2 ≤ m ∧ m ≤ 4) = false := decide_eq_false hm
  refine body_s ([Ans.o (Orc.val 14 (AV.sl (ints (cut f)) (cut f).length (rcl q)) (H.mk [] [] [])), Ans.o (Orc.val 15 (AV.tup [AV.bool false, I 2]) (H.mk [] [] [])), Ans.o (Orc.val 21 (AV.sl (ints (cut l)) (cut l).length (rcl r)) (H.mk [] [] [])), Ans.o (Orc.val 22 (AV.tup [AV.sl [] (0 : Nat) Room.nil, I 2]) (H.mk [] [] [])), Ans.o (Orc.val 26 (AV.bool false) (H.mk [] [] [])), Ans.o Orc.dflt, Ans.o Orc.dflt, Ans.o Orc.dflt, Ans.o (Orc.val 44 (AV.bool true) (H.mk [] [] []))]) (aCall (Sof [c18.to, c47m.to, c48m.to, c49.to, c26.to]) (AV.fn (Fn.func (18 : Nat)) [] []) [AV.sl (ints f) f.length q] (H.mk [] [] []) = some (AV.sl (ints (cut f)) (cut f).length (rcl q), H.mk [] [] []) ∧ aCall (Sof [c18.to, c47m.to, c48m.to, c49.to, c26.to]) (AV.fn (Fn.func (47 : Nat)) [] []) [I m, AV.sl (ints (cut f)) (cut f).length (rcl q)] (H.mk [] [] []) = some (AV.tup [AV.bool false, I 2], H.mk [] [] []) ∧ aCall (Sof [c18.to, c47m.to, c48m.to, c49.to, c26.to]) (AV.fn (Fn.func (18 : Nat)) [] []) [AV.sl (ints l) l.length r] (H.mk [] [] []) = some (AV.sl (ints (cut l)) (cut l).length (rcl r), H.mk [] [] []) ∧ aCall (Sof [c18.to, c47m.to, c48m.to, c49.to, c26.to]) (AV.fn (Fn.func (48 : Nat)) [] []) [I m, AV.sl (ints (cut l)) (cut l).length (rcl r)] (H.mk [] [] []) = some (AV.tup [AV.sl [] (0 : Nat) Room.nil, I 2], H.mk [] [] []) ∧ aCall (Sof [c18.to, c47m.to, c48m.to, c49.to, c26.to]) (AV.fn (Fn.func (49 : Nat)) [] []) [I m] (H.mk [] [] []) = some (AV.bool false, H.mk [] [] []) ∧ aCall (Sof [c18.to, c47m.to, c48m.to, c49.to, c26.to]) (AV.fn (Fn.func (26 : Nat)) [] []) [] (H.mk [] [] []) = some (AV.bool true, H.mk [] [] []) ∧ (AV.bool true, H.mk [] [] []) = (AV.bool true, H.mk [] [] [])) (by kernel_rfl) ?_
  refine ⟨by first | exact acall_hit (c := c18.to) (f, q) _ rfl p18f | exact acall_hit (c := c18.to) (l, r) _ rfl p18, ?_⟩
  refine ⟨acall_hit (c := c47m.to) (m, cut f, rcl q) _ rfl hm, ?_⟩
  refine ⟨by first | exact acall_hit (c := c18.to) (f, q) _ rfl p18f | exact acall_hit (c := c18.to) (l, r) _ rfl p18, ?_⟩
  refine ⟨acall_hit (c := c48m.to) (m, cut l, rcl r) _ rfl hm, ?_⟩
  refine ⟨acall_b (acall_hit (c := c49.to) m _ rfl trivial) hd49, ?_⟩
  refine ⟨acall_hit (c := c26.to) () _ rfl trivial, ?_⟩
  first | rfl | (exfalso; omega)
theorem properties_ok (m : Int) (f l : List Int) (p q : RK) (h1 : f.length ≤ Go.maxLen) (h2 : p.mt = true → f = []) (h3 : rng f) (h4 : l.length ≤ Go.maxLen) (h5 : q.mt = true → l = []) (h6 : rng l) : CallOk Tryd.prog 7 [I m, ls f (rr p), ls l (rr q)] .nil (.bool true) .nil := by
  have hx : Go.maxLen ≤ 9223372036854775807 := by decide
  have hk : lim f.length := Nat.le_trans h1 hx
  have hl : lim l.length := Nat.le_trans h4 hx
  by_cases hm : 2 ≤ m ∧ m ≤ 4
  · obtain ⟨a, rfl⟩ : ∃ a : Nat, m = a := ⟨m.toNat, by omega⟩
    have hm' : 2 ≤ a ∧ a ≤ 4 := by omega
    by_cases hs1 : okS (nP a : Nat) l
    · have e := ic_nl (l := l) (fun i hi => (hs1.2.2 i hi).1)
      have hr := rr_rok h5
      have he := em_rr h5
      rw [← e] at hs1 hr he ⊢
      by_cases hf : ∃ F, Fm (nP a : Nat) f F
      · obtain ⟨F, hF⟩ := hf
        have e' := hF.eq
        subst e'
        by_cases hI : Inv a F
        · exact (r7ts a hm' F (rr p) hF (rr_rok h2) (em_rr h2) hI (nl l) (rr q) hs1 hr he).run ok7 (.pure _ (.pure _ (.pure _ (.pure _ (.pure _ (.pure _ (.pure _ (.pure _ (.pure _ (.pure _ (.pure _ .nil))))))))))) rfl
        · exact (r7fs a hm' F (rr p) hF (rr_rok h2) (em_rr h2) hI (nl l) (rr q) hs1 hr he).run ok7 (.pure _ (.pure _ (.pure _ (.pure _ (.pure _ (.pure _ (.pure _ (.pure _ (.pure _ (.pure _ (.pure _ .nil))))))))))) rfl
      · exact (r7bs a hm' f (rr p) hf hk (rr_rok h2) (em_rr h2) h3 (nl l) (rr q) hs1 hr he).run ok7 (.pure _ (.pure _ (.pure _ (.pure _ (.pure _ (.pure _ (.pure _ (.pure _ (.pure _ (.pure _ .nil)))))))))) rfl
    · by_cases hf : ∃ F, Fm (nP a : Nat) f F
      · obtain ⟨F, hF⟩ := hf
        have e' := hF.eq
        subst e'
        by_cases hI : Inv a F
        · exact (r7tn a hm' F (rr p) hF (rr_rok h2) (em_rr h2) hI l (rr q) hs1 hl (rr_rok h5) (em_rr h5) h6).run ok7 (.pure _ (.pure _ (.pure _ (.pure _ (.pure _ (.pure _ (.pure _ (.pure _ (.pure _ .nil))))))))) rfl
        · exact (r7fn a hm' F (rr p) hF (rr_rok h2) (em_rr h2) hI l (rr q) hs1 hl (rr_rok h5) (em_rr h5) h6).run ok7 (.pure _ (.pure _ (.pure _ (.pure _ (.pure _ (.pure _ (.pure _ (.pure _ (.pure _ .nil))))))))) rfl
      · exact (r7bn a hm' f (rr p) hf hk (rr_rok h2) (em_rr h2) h3 l (rr q) hs1 hl (rr_rok h5) (em_rr h5) h6).run ok7 (.pure _ (.pure _ (.pure _ (.pure _ (.pure _ (.pure _ (.pure _ (.pure _ .nil)))))))) rfl
  · exact (r7m m hm f (rr p) hk (rr_rok h2) (em_rr h2) l (rr q) hl (rr_rok h5) (em_rr h5)).run ok7 (.pure _ (.pure _ (.pure _ (.pure _ (.pure _ .nil))))) rfl
end Go.Proofs.Evd

