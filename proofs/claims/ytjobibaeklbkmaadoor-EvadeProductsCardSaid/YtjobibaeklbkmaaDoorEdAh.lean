/- Layer 8: EvadeProducts, whatever is given. -/
import Derived.Test.YtjobibaeklbkmaaDoorEdAg
import Derived.KernelRfl
set_option linter.unusedSimpArgs false
set_option linter.unusedVariables false
set_option linter.unnecessarySimpa false
set_option maxHeartbeats 4000000
set_option maxRecDepth 100000
namespace Go.Proofs.Evd
open Go Go.VM
open Go.Proofs.Sur (W w_wrap w_nat w_inj w_eq0 w_and w_or w_andn w_shl w_shr neg_nat sub_nat tz tz_ok cl bits_cons bits_0 bits_len andn andn_bit andn_le i_wrap i_and i_or i_andn i_shl i_shr bit_01)

theorem r12b (n m : Int) (l k : List Int) (r q : Room) (x : Int) (hno : nojoin n m l k) (hl : lim l.length) (hr : rok l r) (he : em l r) (hg : rng l) (hk : lim k.length) (hq : rok k q) (hqe : em k q) (hkg : rng k) :
    Body (En6 [c18.to, c53b.to, c26.to]) none1 Tryd.f12 [I n, I m, ls l r, ls k q, I x] .nil (.bool true, .nil) := by
  have p18 : lim l.length ∧ rok l r ∧ em l r := ⟨hl, hr, he⟩
  have p18k : lim k.length ∧ rok k q ∧ em k q := ⟨hk, hq, hqe⟩
  have p53 : ((lim (cut l).length ∧ rok (cut l) (rcl r) ∧ rng (cut l)) ∧ (lim (cut k).length ∧ rok (cut k) (rcl q) ∧ rng (cut k))) ∧ nojoin n m (cut l) (cut k) :=
    ⟨⟨⟨cut_lim l, cut_rok hr, cut_rng hg⟩, ⟨cut_lim k, cut_rok hq, cut_rng hkg⟩⟩, hno.imp cut_no (Or.imp cut_no id)⟩
  refine body_s ([Ans.o (Orc.val 32 (AV.sl (ints (cut l)) (cut l).length (rcl r)) (H.mk [] [] [])), Ans.o (Orc.val 34 (AV.sl (ints (cut k)) (cut k).length (rcl q)) (H.mk [] [] [])), Ans.o (Orc.val 35 (AV.tup [AV.sl [] (0 : Nat) Room.nil, I 2]) (H.mk [] [] [])), Ans.o Orc.dflt, Ans.o Orc.dflt, Ans.o (Orc.val 61 (AV.bool true) (H.mk [] [] []))]) (aCall (Sof [c18.to, c53b.to, c26.to]) (AV.fn (Fn.func (18 : Nat)) [] []) [AV.sl (ints l) l.length r] (H.mk [] [] []) = some (AV.sl (ints (cut l)) (cut l).length (rcl r), H.mk [] [] []) ∧ aCall (Sof [c18.to, c53b.to, c26.to]) (AV.fn (Fn.func (18 : Nat)) [] []) [AV.sl (ints k) k.length q] (H.mk [] [] []) = some (AV.sl (ints (cut k)) (cut k).length (rcl q), H.mk [] [] []) ∧ aCall (Sof [c18.to, c53b.to, c26.to]) (AV.fn (Fn.func (53 : Nat)) [] []) [I n, I m, AV.sl (ints (cut l)) (cut l).length (rcl r), AV.sl (ints (cut k)) (cut k).length (rcl q)] (H.mk [] [] []) = some (AV.tup [AV.sl [] (0 : Nat) Room.nil, I 2], H.mk [] [] []) ∧ aCall (Sof [c18.to, c53b.to, c26.to]) (AV.fn (Fn.func (26 : Nat)) [] []) [] (H.mk [] [] []) = some (AV.bool true, H.mk [] [] []) ∧ (AV.bool true, H.mk [] [] []) = (AV.bool true, H.mk [] [] [])) (by kernel_rfl) ?_
  refine ⟨by first | exact acall_hit (c := c18.to) (l, r) _ rfl p18 | exact acall_hit (c := c18.to) (k, q) _ rfl p18k, ?_⟩
  refine ⟨by first | exact acall_hit (c := c18.to) (l, r) _ rfl p18 | exact acall_hit (c := c18.to) (k, q) _ rfl p18k, ?_⟩
  refine ⟨acall_hit (c := c53b.to) (n, m, cut l, cut k, rcl r, rcl q) _ rfl p53, ?_⟩
  refine ⟨acall_hit (c := c26.to) () _ rfl trivial, ?_⟩
  first | with_reducible rfl | (refine bleaf_t ?_; omega) | (refine bleaf_f ?_; omega) | (refine ileaf ?_; omega) | rfl | (exfalso; omega)
theorem products_ok (n m : Int) (l k : List Int) (q p : RK) (x : Int) (h1 : l.length ≤ Go.maxLen) (h2 : q.mt = true → l = []) (h3 : rng l) (h4 : k.length ≤ Go.maxLen) (h5 : p.mt = true → k = []) (h6 : rng k) : CallOk Tryd.prog 12 [I n, I m, ls l (rr q), ls k (rr p), I x] .nil (.bool true) .nil := by
  have hm : Go.maxLen ≤ 9223372036854775807 := by decide
  have hl : lim l.length := Nat.le_trans h1 hm
  have hk : lim k.length := Nat.le_trans h4 hm
  have bad : nojoin n m l k → CallOk Tryd.prog 12 [I n, I m, ls l (rr q), ls k (rr p), I x] .nil (.bool true) .nil := fun hno =>
    (r12b n m l k (rr q) (rr p) x hno hl (rr_rok h2) (em_rr h2) h3 hk (rr_rok h5) (em_rr h5) h6).run ok12 (.pure _ (.pure _ (.pure _ .nil))) rfl
  by_cases f1 : ∃ F, Fm n l F
  · by_cases f2 : ∃ F, Fm m k F
    · by_cases f3 : n + m ≤ 6
      · obtain ⟨F, hF⟩ := f1
        obtain ⟨G, hG⟩ := f2
        obtain ⟨a, rfl⟩ : ∃ a : Nat, n = a := ⟨n.toNat, by have := hF.n1; omega⟩
        obtain ⟨b, rfl⟩ : ∃ b : Nat, m = b := ⟨m.toNat, by have := hG.n1; omega⟩
        have e := hF.eq
        have e' := hG.eq
        subst e; subst e'
        exact (r12g a b F G (rr q) (rr p) x _ _ _ hF hG (rr_rok h2) (em_rr h2) (rr_rok h5) (em_rr h5) (by omega) rfl rfl rfl).run ok12 (.pure _ (.pure _ (.pure _ (.pure _ (.pure _ (.pure _ (.pure _ (.pure _ (.pure _ .nil))))))))) rfl
      · exact bad (.inr (.inr (by omega)))
    · exact bad (.inr (.inl f2))
  · exact bad (.inl f1)
end Go.Proofs.Evd

