/- Layer 8: EvadeParts. -/
import Derived.Test.YtjobibaeklbkmaaDoorEdAb
import Derived.KernelRfl
set_option linter.unusedSimpArgs false
set_option linter.unusedVariables false
set_option linter.unnecessarySimpa false
set_option maxHeartbeats 4000000
set_option maxRecDepth 100000
namespace Go.Proofs.Evd
open Go Go.VM
open Go.Proofs.Sur (W w_wrap w_nat w_inj w_eq0 w_and w_or w_andn w_shl w_shr neg_nat sub_nat tz tz_ok cl bits_cons bits_0 bits_len andn andn_bit andn_le i_wrap i_and i_or i_andn i_shl i_shr bit_01)

/-- 'list' of sets -/
noncomputable def c18i : PCtr Tryd.prog where
  f := 18
  X := List Nat × Room
  args x := [ls (ic x.1) x.2]
  pre x := x.1.length ≤ 70 ∧ rok (ic x.1) x.2 ∧ em (ic x.1) x.2
  v x := ls (ic x.1) (rcl x.2)
  det := by
    rintro ⟨l, r⟩ ⟨l', r'⟩ e _ _
    simp at e
    obtain ⟨h1, _, h2⟩ := e
    have := ic_inj h1
    subst this; subst h2; rfl
  ok := by
    rintro ⟨l, r⟩ ⟨h0, h1, h2⟩
    have h0 : l.length ≤ 70 := h0
    have hl : lim (ic l).length := by have := ic_len l; simp only [lim]; omega
    have := c18.ok (ic l, r) ⟨hl, h1, h2⟩
    simp only [c18] at this
    rw [show cut (ic l) = ic l from List.take_of_length_le (by have := ic_len l; omega)] at this
    exact this
noncomputable def c18o : PCtr Tryd.prog := orP c18i c18 rfl (by
  rintro ⟨k, r⟩ ⟨l, q⟩ e ⟨h0, _⟩ _
  simp only [c18i, c18, List.cons.injEq, and_true] at e ⊢
  have e1 := ls_inj e
  simp at e
  obtain ⟨_, _, e2⟩ := e
  subst e1; subst e2
  rw [show cut (ic k) = ic k from List.take_of_length_le (by have := ic_len k; simp only at h0; omega)])
theorem elts_70 (F : W) : (elts F).length ≤ 70 := by
  have h1 : (elts F).length ≤ 64 := Go.Proofs.Sur.bits_len F
  omega
theorem ic_nl {l : List Int} (h : ∀ i, i < l.length → 0 ≤ ia l i) : ic (nl l) = l := by
  simp only [ic, nl, List.map_map]
  have : l.map ((fun n : Nat => (n : Int)) ∘ Int.toNat) = l.map id := by
    apply List.map_congr_left
    intro x hx
    obtain ⟨i, h1, h2⟩ := mem_ia hx
    have := h i h1
    rw [h2] at this
    simp only [Function.comp_apply, id_eq]; omega
  rw [this, List.map_id]
theorem cut_rok {l : List Int} {r : Room} (h : rok l r) : rok (cut l) (rcl r) := fun hne => rcl_rok h (fun e => hne (by rw [cut, e]; rfl))
theorem cut_okS {n : Int} {l : List Int} (h : ¬ okS n l) : ¬ okS n (cut l) := fun q => h (by
  by_cases hl : l.length ≤ 70
  · rwa [cut, List.take_of_length_le hl] at q
  · have := q.2.1
    rw [List.length_take] at this; omega)
theorem gB_t {n : Int} {l : List Int} (h : okS n l) : gB n l = true := by unfold gB; exact decide_eq_true h
theorem gB_f {n : Int} {l : List Int} (h : ¬ okS n l) : gB n l = false := by unfold gB; exact decide_eq_false h
theorem ok3 : FokM Tryd.prog none1 3 Tryd.f3 := ⟨mixed, by kernel_rfl, by kernel_rfl, by kernel_rfl, by kernel_rfl⟩
theorem r3sg (n : Nat) (k : List Nat) (r : Room) (hs1 : okS n (ic k)) (hr : rok (ic k) r) (he : em (ic k) r) (F : W) (q : Room) (hf : Fm n (lst F) F) (hq : rok (lst F) q) (hqe : em (lst F) q) (x : Nat) (hx : x < n) : Body (En6 [c18o.to, c17g.to, c19g.to, c20g.to, c21.to, c23.to, c24.to, c25.to, c27.to, c28.to, c22.to, c26.to]) none1 Tryd.f3 [I n, ls (ic k) r, ls (lst F) q, I x] .nil (.bool true, .nil) := by
  have hk64 : k.length ≤ 64 := by have := hs1.2.1; rwa [ic_len] at this
  have hk : lim (ic k).length := by have := ic_len k; simp only [lim]; omega
  have p18 : k.length ≤ 70 ∧ rok (ic k) r ∧ em (ic k) r := ⟨by omega, hr, he⟩
  have hrg : rng (ic k) := fun i hi => by
    have := hs1.2.2 i hi
    have := p64 (n := ((n : Nat) : Int).toNat) (by have := hs1.1; omega)
    omega
  have p17 : (rok (ic k) (rcl r) ∧ rng (ic k)) ∧ okS n (ic k) := ⟨⟨rcl_rok hr, hrg⟩, hs1⟩
  have p21 : lim (ic k).length ∧ rok (ic k) r := ⟨hk, hr⟩
  have hb21 := gB_t hs1
  have hn6 : n ≤ 6 := by have := hs1.1; omega
  have p23 : (n ≤ 6 ∧ lim (ic k).length) ∧ rok (ic k) r ∧ oks n (ic k) := ⟨⟨hn6, hk⟩, hr, by have := hs1.2.2; simpa using this⟩
  have hlc : lim (lst (cls (fm (nl (ic k))))).length := by have := lst_len (cls (fm (nl (ic k)))); simp only [lim]; omega
  have p22 : lim (lst (cls (fm (nl (ic k))))).length ∧ rok (lst (cls (fm (nl (ic k))))) (rn (lst (cls (fm (nl (ic k)))))) ∧ rok (lst (cls (fm (nl (ic k))))) (rn (lst (cls (fm (nl (ic k)))))) := ⟨hlc, rn_rok _, rn_rok _⟩
  have q22 : decide (lst (cls (fm (nl (ic k)))) = lst (cls (fm (nl (ic k))))) = true := decide_eq_true rfl
  have hlf : lim (lst F).length := by have := lst_len F; simp only [lim]; omega
  have p18f : (elts F).length ≤ 70 ∧ rok (lst F) q ∧ em (lst F) q := ⟨elts_70 F, hq, hqe⟩
  have p24 : lim (lst F).length ∧ rok (lst F) q := ⟨hlf, hq⟩
  have hb24 : famB n (lst F) = true := famB_t ⟨F, hf⟩
  have p19 : (Fm n (lst F) F ∧ rok (lst F) (rcl q)) ∧ x < n := ⟨⟨hf, rcl_rok hq⟩, hx⟩
  have hb25 : decide (0 ≤ (x : Int) ∧ (x : Int) < (n : Int)) = true := decide_eq_true (by omega)
  have hx6 : x < 6 := by have := hf.n6; omega
  have hl27 : lim (lst (lnk F x)).length := by have := lst_len (lnk F x); simp only [lim]; omega
  have p2227 : lim (lst (lnk F x)).length ∧ rok (lst (lnk F x)) (rn (lst (lnk F x))) ∧ rok (lst (lnk F x)) (rn (lst (lnk F x))) := ⟨hl27, rn_rok _, rn_rok _⟩
  have q2227 : decide (lst (lnk F x) = lst (lnk F x)) = true := decide_eq_true rfl
  have hl28 : lim (lst (wot F x)).length := by have := lst_len (wot F x); simp only [lim]; omega
  have p2228 : lim (lst (wot F x)).length ∧ rok (lst (wot F x)) (rn (lst (wot F x))) ∧ rok (lst (wot F x)) (rn (lst (wot F x))) := ⟨hl28, rn_rok _, rn_rok _⟩
  have q2228 : decide (lst (wot F x) = lst (wot F x)) = true := decide_eq_true rfl
  refine body_s ([Ans.o (Orc.val 18 (AV.sl (ints (ic k)) (ic k).length (rcl r)) (H.mk [] [] [])), Ans.o (Orc.val 19 (AV.tup [AV.sl (ints (lst (cls (fm (nl (ic k)))))) (lst (cls (fm (nl (ic k))))).length (rn (lst (cls (fm (nl (ic k)))))), I 0]) (H.mk [] [] [])), Ans.o (Orc.val 25 (AV.sl (ints (ic (elts F))) (ic (elts F)).length (rcl q)) (H.mk [] [] [])), Ans.o (Orc.val 27 (AV.tup [AV.sl (ints (lst (lnk F x))) (lst (lnk F x)).length (rn (lst (lnk F x))), I 0]) (H.mk [] [] [])), Ans.o (Orc.val 33 (AV.sl (ints (ic (elts F))) (ic (elts F)).length (rcl q)) (H.mk [] [] [])), Ans.o (Orc.val 35 (AV.tup [AV.sl (ints (lst (wot F x))) (lst (wot F x)).length (rn (lst (wot F x))), I 0]) (H.mk [] [] [])), Ans.o (Orc.val 40 (AV.bool true) (H.mk [] [] [])), Ans.o (Orc.val 44 (AV.sl (ints (lst (cls (fm (nl (ic k)))))) (lst (cls (fm (nl (ic k))))).length (rn (lst (cls (fm (nl (ic k))))))) (H.mk [] [] [])), Ans.o (Orc.val 45 (AV.bool true) (H.mk [] [] [])), Ans.o Orc.dflt, Ans.o (Orc.val 60 (AV.bool true) (H.mk [] [] [])), Ans.o (Orc.val 65 (AV.bool true) (H.mk [] [] [])), Ans.o (Orc.val 88 (AV.sl (ints (lst (lnk F x))) (lst (lnk F x)).length (rn (lst (lnk F x)))) (H.mk [] [] [])), Ans.o (Orc.val 89 (AV.bool true) (H.mk [] [] [])), Ans.o (Orc.val 94 (AV.sl (ints (lst (wot F x))) (lst (wot F x)).length (rn (lst (wot F x)))) (H.mk [] [] [])), Ans.o (Orc.val 95 (AV.bool true) (H.mk [] [] [])), Ans.o Orc.dflt, Ans.o Orc.dflt, Ans.o (Orc.val 106 (AV.bool true) (H.mk [] [] []))]) (aCall (Sof [c18o.to, c17g.to, c19g.to, c20g.to, c21.to, c23.to, c24.to, c25.to, c27.to, c28.to, c22.to, c26.to]) (AV.fn (Fn.func (18 : Nat)) [] []) [AV.sl (ints (ic k)) (ic k).length r] (H.mk [] [] []) = some (AV.sl (ints (ic k)) (ic k).length (rcl r), H.mk [] [] []) ∧ aCall (Sof [c18o.to, c17g.to, c19g.to, c20g.to, c21.to, c23.to, c24.to, c25.to, c27.to, c28.to, c22.to, c26.to]) (AV.fn (Fn.func (17 : Nat)) [] []) [I (↑n : Int), AV.sl (ints (ic k)) (ic k).length (rcl r)] (H.mk [] [] []) = some (AV.tup [AV.sl (ints (lst (cls (fm (nl (ic k)))))) (lst (cls (fm (nl (ic k))))).length (rn (lst (cls (fm (nl (ic k)))))), I 0], H.mk [] [] []) ∧ aCall (Sof [c18o.to, c17g.to, c19g.to, c20g.to, c21.to, c23.to, c24.to, c25.to, c27.to, c28.to, c22.to, c26.to]) (AV.fn (Fn.func (18 : Nat)) [] []) [AV.sl (ints (lst F)) (lst F).length q] (H.mk [] [] []) = some (AV.sl (ints (ic (elts F))) (ic (elts F)).length (rcl q), H.mk [] [] []) ∧ aCall (Sof [c18o.to, c17g.to, c19g.to, c20g.to, c21.to, c23.to, c24.to, c25.to, c27.to, c28.to, c22.to, c26.to]) (AV.fn (Fn.func (19 : Nat)) [] []) [I (↑n : Int), AV.sl (ints (ic (elts F))) (ic (elts F)).length (rcl q), I (↑x : Int)] (H.mk [] [] []) = some (AV.tup [AV.sl (ints (lst (lnk F x))) (lst (lnk F x)).length (rn (lst (lnk F x))), I 0], H.mk [] [] []) ∧ aCall (Sof [c18o.to, c17g.to, c19g.to, c20g.to, c21.to, c23.to, c24.to, c25.to, c27.to, c28.to, c22.to, c26.to]) (AV.fn (Fn.func (18 : Nat)) [] []) [AV.sl (ints (lst F)) (lst F).length q] (H.mk [] [] []) = some (AV.sl (ints (ic (elts F))) (ic (elts F)).length (rcl q), H.mk [] [] []) ∧ aCall (Sof [c18o.to, c17g.to, c19g.to, c20g.to, c21.to, c23.to, c24.to, c25.to, c27.to, c28.to, c22.to, c26.to]) (AV.fn (Fn.func (20 : Nat)) [] []) [I (↑n : Int), AV.sl (ints (ic (elts F))) (ic (elts F)).length (rcl q), I (↑x : Int)] (H.mk [] [] []) = some (AV.tup [AV.sl (ints (lst (wot F x))) (lst (wot F x)).length (rn (lst (wot F x))), I 0], H.mk [] [] []) ∧ aCall (Sof [c18o.to, c17g.to, c19g.to, c20g.to, c21.to, c23.to, c24.to, c25.to, c27.to, c28.to, c22.to, c26.to]) (AV.fn (Fn.func (21 : Nat)) [] []) [I (↑n : Int), AV.sl (ints (ic k)) (ic k).length r] (H.mk [] [] []) = some (AV.bool true, H.mk [] [] []) ∧ aCall (Sof [c18o.to, c17g.to, c19g.to, c20g.to, c21.to, c23.to, c24.to, c25.to, c27.to, c28.to, c22.to, c26.to]) (AV.fn (Fn.func (23 : Nat)) [] []) [I (↑n : Int), AV.sl (ints (ic k)) (ic k).length r] (H.mk [] [] []) = some (AV.sl (ints (lst (cls (fm (nl (ic k)))))) (lst (cls (fm (nl (ic k))))).length (rn (lst (cls (fm (nl (ic k)))))), H.mk [] [] []) ∧ aCall (Sof [c18o.to, c17g.to, c19g.to, c20g.to, c21.to, c23.to, c24.to, c25.to, c27.to, c28.to, c22.to, c26.to]) (AV.fn (Fn.func (22 : Nat)) [] []) [AV.sl (ints (lst (cls (fm (nl (ic k)))))) (lst (cls (fm (nl (ic k))))).length (rn (lst (cls (fm (nl (ic k)))))), AV.sl (ints (lst (cls (fm (nl (ic k)))))) (lst (cls (fm (nl (ic k))))).length (rn (lst (cls (fm (nl (ic k))))))] (H.mk [] [] []) = some (AV.bool true, H.mk [] [] []) ∧ aCall (Sof [c18o.to, c17g.to, c19g.to, c20g.to, c21.to, c23.to, c24.to, c25.to, c27.to, c28.to, c22.to, c26.to]) (AV.fn (Fn.func (24 : Nat)) [] []) [I (↑n : Int), AV.sl (ints (lst F)) (lst F).length q] (H.mk [] [] []) = some (AV.bool true, H.mk [] [] []) ∧ aCall (Sof [c18o.to, c17g.to, c19g.to, c20g.to, c21.to, c23.to, c24.to, c25.to, c27.to, c28.to, c22.to, c26.to]) (AV.fn (Fn.func (25 : Nat)) [] []) [I (↑n : Int), I (↑x : Int)] (H.mk [] [] []) = some (AV.bool true, H.mk [] [] []) ∧ aCall (Sof [c18o.to, c17g.to, c19g.to, c20g.to, c21.to, c23.to, c24.to, c25.to, c27.to, c28.to, c22.to, c26.to]) (AV.fn (Fn.func (27 : Nat)) [] []) [AV.sl (ints (lst F)) (lst F).length q, I (↑x : Int)] (H.mk [] [] []) = some (AV.sl (ints (lst (lnk F x))) (lst (lnk F x)).length (rn (lst (lnk F x))), H.mk [] [] []) ∧ aCall (Sof [c18o.to, c17g.to, c19g.to, c20g.to, c21.to, c23.to, c24.to, c25.to, c27.to, c28.to, c22.to, c26.to]) (AV.fn (Fn.func (22 : Nat)) [] []) [AV.sl (ints (lst (lnk F x))) (lst (lnk F x)).length (rn (lst (lnk F x))), AV.sl (ints (lst (lnk F x))) (lst (lnk F x)).length (rn (lst (lnk F x)))] (H.mk [] [] []) = some (AV.bool true, H.mk [] [] []) ∧ aCall (Sof [c18o.to, c17g.to, c19g.to, c20g.to, c21.to, c23.to, c24.to, c25.to, c27.to, c28.to, c22.to, c26.to]) (AV.fn (Fn.func (28 : Nat)) [] []) [AV.sl (ints (lst F)) (lst F).length q, I (↑x : Int)] (H.mk [] [] []) = some (AV.sl (ints (lst (wot F x))) (lst (wot F x)).length (rn (lst (wot F x))), H.mk [] [] []) ∧ aCall (Sof [c18o.to, c17g.to, c19g.to, c20g.to, c21.to, c23.to, c24.to, c25.to, c27.to, c28.to, c22.to, c26.to]) (AV.fn (Fn.func (22 : Nat)) [] []) [AV.sl (ints (lst (wot F x))) (lst (wot F x)).length (rn (lst (wot F x))), AV.sl (ints (lst (wot F x))) (lst (wot F x)).length (rn (lst (wot F x)))] (H.mk [] [] []) = some (AV.bool true, H.mk [] [] []) ∧ aCall (Sof [c18o.to, c17g.to, c19g.to, c20g.to, c21.to, c23.to, c24.to, c25.to, c27.to, c28.to, c22.to, c26.to]) (AV.fn (Fn.func (26 : Nat)) [] []) [] (H.mk [] [] []) = some (AV.bool true, H.mk [] [] []) ∧ (AV.bool true, H.mk [] [] []) = (AV.bool true, H.mk [] [] [])) (by kernel_rfl) ?_
  refine ⟨by first | exact acall_hit (c := c18o.to) (.inl (k, r)) _ rfl p18 | exact acall_hit (c := c18o.to) (.inl (elts F, q)) _ rfl p18f, ?_⟩
  refine ⟨acall_hit (c := c17g.to) (n, ic k, rcl r) _ rfl p17, ?_⟩
  refine ⟨by first | exact acall_hit (c := c18o.to) (.inl (k, r)) _ rfl p18 | exact acall_hit (c := c18o.to) (.inl (elts F, q)) _ rfl p18f, ?_⟩
  refine ⟨acall_hit (c := c19g.to) (n, F, rcl q, x) _ rfl p19, ?_⟩
  refine ⟨by first | exact acall_hit (c := c18o.to) (.inl (k, r)) _ rfl p18 | exact acall_hit (c := c18o.to) (.inl (elts F, q)) _ rfl p18f, ?_⟩
  refine ⟨acall_hit (c := c20g.to) (n, F, rcl q, x) _ rfl p19, ?_⟩
  refine ⟨acall_b (acall_hit (c := c21.to) ((n : Int), ic k, r) _ rfl p21) hb21, ?_⟩
  refine ⟨acall_hit (c := c23.to) (n, ic k, r) _ rfl p23, ?_⟩
  refine ⟨by first | exact acall_b (acall_hit (c := c22.to) (lst (cls (fm (nl (ic k)))), rn (lst (cls (fm (nl (ic k))))), lst (cls (fm (nl (ic k)))), rn (lst (cls (fm (nl (ic k)))))) _ rfl p22) q22 | exact acall_b (acall_hit (c := c22.to) (lst (lnk F x), rn (lst (lnk F x)), lst (lnk F x), rn (lst (lnk F x))) _ rfl p2227) q2227 | exact acall_b (acall_hit (c := c22.to) (lst (wot F x), rn (lst (wot F x)), lst (wot F x), rn (lst (wot F x))) _ rfl p2228) q2228, ?_⟩
  refine ⟨acall_b (acall_hit (c := c24.to) ((n : Int), lst F, q) _ rfl p24) hb24, ?_⟩
  refine ⟨acall_b (acall_hit (c := c25.to) ((n : Int), (x : Int)) _ rfl trivial) hb25, ?_⟩
  refine ⟨acall_hit (c := c27.to) (F, q, x) _ rfl ⟨hq, hx6⟩, ?_⟩
  refine ⟨by first | exact acall_b (acall_hit (c := c22.to) (lst (cls (fm (nl (ic k)))), rn (lst (cls (fm (nl (ic k))))), lst (cls (fm (nl (ic k)))), rn (lst (cls (fm (nl (ic k)))))) _ rfl p22) q22 | exact acall_b (acall_hit (c := c22.to) (lst (lnk F x), rn (lst (lnk F x)), lst (lnk F x), rn (lst (lnk F x))) _ rfl p2227) q2227 | exact acall_b (acall_hit (c := c22.to) (lst (wot F x), rn (lst (wot F x)), lst (wot F x), rn (lst (wot F x))) _ rfl p2228) q2228, ?_⟩
  refine ⟨acall_hit (c := c28.to) (F, q, x) _ rfl ⟨hq, hx6⟩, ?_⟩
  refine ⟨by first | exact acall_b (acall_hit (c := c22.to) (lst (cls (fm (nl (ic k)))), rn (lst (cls (fm (nl (ic k))))), lst (cls (fm (nl (ic k)))), rn (lst (cls (fm (nl (ic k)))))) _ rfl p22) q22 | exact acall_b (acall_hit (c := c22.to) (lst (lnk F x), rn (lst (lnk F x)), lst (lnk F x), rn (lst (lnk F x))) _ rfl p2227) q2227 | exact acall_b (acall_hit (c := c22.to) (lst (wot F x), rn (lst (wot F x)), lst (wot F x), rn (lst (wot F x))) _ rfl p2228) q2228, ?_⟩
  refine ⟨acall_hit (c := c26.to) () _ rfl trivial, ?_⟩
  first | rfl | (exfalso; omega)
theorem r3se (n : Nat) (k : List Nat) (r : Room) (hs1 : okS n (ic k)) (hr : rok (ic k) r) (he : em (ic k) r) (F : W) (q : Room) (hf : Fm n (lst F) F) (hq : rok (lst F) q) (hqe : em (lst F) q) (x : Int) (hx : ¬ (0 ≤ x ∧ x < n)) : Body (En6 [c18o.to, c17g.to, c19e.to, c20e.to, c21.to, c23.to, c24.to, c25.to, c22.to, c26.to]) none1 Tryd.f3 [I n, ls (ic k) r, ls (lst F) q, I x] .nil (.bool true, .nil) := by
  have hk64 : k.length ≤ 64 := by have := hs1.2.1; rwa [ic_len] at this
  have hk : lim (ic k).length := by have := ic_len k; simp only [lim]; omega
  have p18 : k.length ≤ 70 ∧ rok (ic k) r ∧ em (ic k) r := ⟨by omega, hr, he⟩
  have hrg : rng (ic k) := fun i hi => by
    have := hs1.2.2 i hi
    have := p64 (n := ((n : Nat) : Int).toNat) (by have := hs1.1; omega)
    omega
  have p17 : (rok (ic k) (rcl r) ∧ rng (ic k)) ∧ okS n (ic k) := ⟨⟨rcl_rok hr, hrg⟩, hs1⟩
  have p21 : lim (ic k).length ∧ rok (ic k) r := ⟨hk, hr⟩
  have hb21 := gB_t hs1
  have hn6 : n ≤ 6 := by have := hs1.1; omega
  have p23 : (n ≤ 6 ∧ lim (ic k).length) ∧ rok (ic k) r ∧ oks n (ic k) := ⟨⟨hn6, hk⟩, hr, by have := hs1.2.2; simpa using this⟩
  have hlc : lim (lst (cls (fm (nl (ic k))))).length := by have := lst_len (cls (fm (nl (ic k)))); simp only [lim]; omega
  have p22 : lim (lst (cls (fm (nl (ic k))))).length ∧ rok (lst (cls (fm (nl (ic k))))) (rn (lst (cls (fm (nl (ic k)))))) ∧ rok (lst (cls (fm (nl (ic k))))) (rn (lst (cls (fm (nl (ic k)))))) := ⟨hlc, rn_rok _, rn_rok _⟩
  have q22 : decide (lst (cls (fm (nl (ic k)))) = lst (cls (fm (nl (ic k))))) = true := decide_eq_true rfl
  have hlf : lim (lst F).length := by have := lst_len F; simp only [lim]; omega
  have p18f : (elts F).length ≤ 70 ∧ rok (lst F) q ∧ em (lst F) q := ⟨elts_70 F, hq, hqe⟩
  have p24 : lim (lst F).length ∧ rok (lst F) q := ⟨hlf, hq⟩
  have hb24 : famB n (lst F) = true := famB_t ⟨F, hf⟩
  have p19 : (Fm n (lst F) F ∧ rok (lst F) (rcl q)) ∧ ¬ (0 ≤ x ∧ x < n) := ⟨⟨hf, rcl_rok hq⟩, hx⟩
  have hb25 : decide (0 ≤ (x : Int) ∧ (x : Int) < (n : Int)) = false := decide_eq_false hx
  refine body_s ([Ans.o (Orc.val 18 (AV.sl (ints (ic k)) (ic k).length (rcl r)) (H.mk [] [] [])), Ans.o (Orc.val 19 (AV.tup [AV.sl (ints (lst (cls (fm (nl (ic k)))))) (lst (cls (fm (nl (ic k))))).length (rn (lst (cls (fm (nl (ic k)))))), I 0]) (H.mk [] [] [])), Ans.o (Orc.val 25 (AV.sl (ints (ic (elts F))) (ic (elts F)).length (rcl q)) (H.mk [] [] [])), Ans.o (Orc.val 27 (AV.tup [AV.sl [] (0 : Nat) Room.nil, I 2]) (H.mk [] [] [])), Ans.o (Orc.val 33 (AV.sl (ints (ic (elts F))) (ic (elts F)).length (rcl q)) (H.mk [] [] [])), Ans.o (Orc.val 35 (AV.tup [AV.sl [] (0 : Nat) Room.nil, I 2]) (H.mk [] [] [])), Ans.o (Orc.val 40 (AV.bool true) (H.mk [] [] [])), Ans.o (Orc.val 44 (AV.sl (ints (lst (cls (fm (nl (ic k)))))) (lst (cls (fm (nl (ic k))))).length (rn (lst (cls (fm (nl (ic k))))))) (H.mk [] [] [])), Ans.o (Orc.val 45 (AV.bool true) (H.mk [] [] [])), Ans.o Orc.dflt, Ans.o (Orc.val 60 (AV.bool true) (H.mk [] [] [])), Ans.o (Orc.val 65 (AV.bool false) (H.mk [] [] [])), Ans.o Orc.dflt, Ans.o Orc.dflt, Ans.o Orc.dflt, Ans.o (Orc.val 83 (AV.bool true) (H.mk [] [] []))]) (aCall (Sof [c18o.to, c17g.to, c19e.to, c20e.to, c21.to, c23.to, c24.to, c25.to, c22.to, c26.to]) (AV.fn (Fn.func (18 : Nat)) [] []) [AV.sl (ints (ic k)) (ic k).length r] (H.mk [] [] []) = some (AV.sl (ints (ic k)) (ic k).length (rcl r), H.mk [] [] []) ∧ aCall (Sof [c18o.to, c17g.to, c19e.to, c20e.to, c21.to, c23.to, c24.to, c25.to, c22.to, c26.to]) (AV.fn (Fn.func (17 : Nat)) [] []) [I (↑n : Int), AV.sl (ints (ic k)) (ic k).length (rcl r)] (H.mk [] [] []) = some (AV.tup [AV.sl (ints (lst (cls (fm (nl (ic k)))))) (lst (cls (fm (nl (ic k))))).length (rn (lst (cls (fm (nl (ic k)))))), I 0], H.mk [] [] []) ∧ aCall (Sof [c18o.to, c17g.to, c19e.to, c20e.to, c21.to, c23.to, c24.to, c25.to, c22.to, c26.to]) (AV.fn (Fn.func (18 : Nat)) [] []) [AV.sl (ints (lst F)) (lst F).length q] (H.mk [] [] []) = some (AV.sl (ints (ic (elts F))) (ic (elts F)).length (rcl q), H.mk [] [] []) ∧ aCall (Sof [c18o.to, c17g.to, c19e.to, c20e.to, c21.to, c23.to, c24.to, c25.to, c22.to, c26.to]) (AV.fn (Fn.func (19 : Nat)) [] []) [I (↑n : Int), AV.sl (ints (ic (elts F))) (ic (elts F)).length (rcl q), I x] (H.mk [] [] []) = some (AV.tup [AV.sl [] (0 : Nat) Room.nil, I 2], H.mk [] [] []) ∧ aCall (Sof [c18o.to, c17g.to, c19e.to, c20e.to, c21.to, c23.to, c24.to, c25.to, c22.to, c26.to]) (AV.fn (Fn.func (18 : Nat)) [] []) [AV.sl (ints (lst F)) (lst F).length q] (H.mk [] [] []) = some (AV.sl (ints (ic (elts F))) (ic (elts F)).length (rcl q), H.mk [] [] []) ∧ aCall (Sof [c18o.to, c17g.to, c19e.to, c20e.to, c21.to, c23.to, c24.to, c25.to, c22.to, c26.to]) (AV.fn (Fn.func (20 : Nat)) [] []) [I (↑n : Int), AV.sl (ints (ic (elts F))) (ic (elts F)).length (rcl q), I x] (H.mk [] [] []) = some (AV.tup [AV.sl [] (0 : Nat) Room.nil, I 2], H.mk [] [] []) ∧ aCall (Sof [c18o.to, c17g.to, c19e.to, c20e.to, c21.to, c23.to, c24.to, c25.to, c22.to, c26.to]) (AV.fn (Fn.func (21 : Nat)) [] []) [I (↑n : Int), AV.sl (ints (ic k)) (ic k).length r] (H.mk [] [] []) = some (AV.bool true, H.mk [] [] []) ∧ aCall (Sof [c18o.to, c17g.to, c19e.to, c20e.to, c21.to, c23.to, c24.to, c25.to, c22.to, c26.to]) (AV.fn (Fn.func (23 : Nat)) [] []) [I (↑n : Int), AV.sl (ints (ic k)) (ic k).length r] (H.mk [] [] []) = some (AV.sl (ints (lst (cls (fm (nl (ic k)))))) (lst (cls (fm (nl (ic k))))).length (rn (lst (cls (fm (nl (ic k)))))), H.mk [] [] []) ∧ aCall (Sof [c18o.to, c17g.to, c19e.to, c20e.to, c21.to, c23.to, c24.to, c25.to, c22.to, c26.to]) (AV.fn (Fn.func (22 : Nat)) [] []) [AV.sl (ints (lst (cls (fm (nl (ic k)))))) (lst (cls (fm (nl (ic k))))).length (rn (lst (cls (fm (nl (ic k)))))), AV.sl (ints (lst (cls (fm (nl (ic k)))))) (lst (cls (fm (nl (ic k))))).length (rn (lst (cls (fm (nl (ic k))))))] (H.mk [] [] []) = some (AV.bool true, H.mk [] [] []) ∧ aCall (Sof [c18o.to, c17g.to, c19e.to, c20e.to, c21.to, c23.to, c24.to, c25.to, c22.to, c26.to]) (AV.fn (Fn.func (24 : Nat)) [] []) [I (↑n : Int), AV.sl (ints (lst F)) (lst F).length q] (H.mk [] [] []) = some (AV.bool true, H.mk [] [] []) ∧ aCall (Sof [c18o.to, c17g.to, c19e.to, c20e.to, c21.to, c23.to, c24.to, c25.to, c22.to, c26.to]) (AV.fn (Fn.func (25 : Nat)) [] []) [I (↑n : Int), I x] (H.mk [] [] []) = some (AV.bool false, H.mk [] [] []) ∧ IntKind.i64.wrap (0 : Int) = (0 : Int) ∧ aCall (Sof [c18o.to, c17g.to, c19e.to, c20e.to, c21.to, c23.to, c24.to, c25.to, c22.to, c26.to]) (AV.fn (Fn.func (26 : Nat)) [] []) [] (H.mk [] [] []) = some (AV.bool true, H.mk [] [] []) ∧ (AV.bool true, H.mk [] [] []) = (AV.bool true, H.mk [] [] [])) (by kernel_rfl) ?_
  refine ⟨by first | exact acall_hit (c := c18o.to) (.inl (k, r)) _ rfl p18 | exact acall_hit (c := c18o.to) (.inl (elts F, q)) _ rfl p18f, ?_⟩
  refine ⟨acall_hit (c := c17g.to) (n, ic k, rcl r) _ rfl p17, ?_⟩
  refine ⟨by first | exact acall_hit (c := c18o.to) (.inl (k, r)) _ rfl p18 | exact acall_hit (c := c18o.to) (.inl (elts F, q)) _ rfl p18f, ?_⟩
  refine ⟨acall_hit (c := c19e.to) ((n : Int), F, rcl q, x) _ rfl p19, ?_⟩
  refine ⟨by first | exact acall_hit (c := c18o.to) (.inl (k, r)) _ rfl p18 | exact acall_hit (c := c18o.to) (.inl (elts F, q)) _ rfl p18f, ?_⟩
  refine ⟨acall_hit (c := c20e.to) ((n : Int), F, rcl q, x) _ rfl p19, ?_⟩
  refine ⟨acall_b (acall_hit (c := c21.to) ((n : Int), ic k, r) _ rfl p21) hb21, ?_⟩
  refine ⟨acall_hit (c := c23.to) (n, ic k, r) _ rfl p23, ?_⟩
  refine ⟨by first | exact acall_b (acall_hit (c := c22.to) (lst (cls (fm (nl (ic k)))), rn (lst (cls (fm (nl (ic k))))), lst (cls (fm (nl (ic k)))), rn (lst (cls (fm (nl (ic k)))))) _ rfl p22) q22, ?_⟩
  refine ⟨acall_b (acall_hit (c := c24.to) ((n : Int), lst F, q) _ rfl p24) hb24, ?_⟩
  refine ⟨acall_b (acall_hit (c := c25.to) ((n : Int), (x : Int)) _ rfl trivial) hb25, ?_⟩
  refine ⟨wr _ (by omega) (by omega), ?_⟩
  refine ⟨acall_hit (c := c26.to) () _ rfl trivial, ?_⟩
  first | rfl | (exfalso; omega)
theorem r3sb (n : Nat) (k : List Nat) (r : Room) (hs1 : okS n (ic k)) (hr : rok (ic k) r) (he : em (ic k) r) (f : List Int) (q : Room) (hf : ¬ ∃ F, Fm n f F) (hfl : lim f.length) (hq : rok f q) (hqe : em f q) (hfg : rng f) (x : Int) : Body (En6 [c18o.to, c17g.to, c19b.to, c20b.to, c21.to, c23.to, c24.to, c22.to, c26.to]) none1 Tryd.f3 [I n, ls (ic k) r, ls (f) q, I x] .nil (.bool true, .nil) := by
  have hk64 : k.length ≤ 64 := by have := hs1.2.1; rwa [ic_len] at this
  have hk : lim (ic k).length := by have := ic_len k; simp only [lim]; omega
  have p18 : k.length ≤ 70 ∧ rok (ic k) r ∧ em (ic k) r := ⟨by omega, hr, he⟩
  have hrg : rng (ic k) := fun i hi => by
    have := hs1.2.2 i hi
    have := p64 (n := ((n : Nat) : Int).toNat) (by have := hs1.1; omega)
    omega
  have p17 : (rok (ic k) (rcl r) ∧ rng (ic k)) ∧ okS n (ic k) := ⟨⟨rcl_rok hr, hrg⟩, hs1⟩
  have p21 : lim (ic k).length ∧ rok (ic k) r := ⟨hk, hr⟩
  have hb21 := gB_t hs1
  have hn6 : n ≤ 6 := by have := hs1.1; omega
  have p23 : (n ≤ 6 ∧ lim (ic k).length) ∧ rok (ic k) r ∧ oks n (ic k) := ⟨⟨hn6, hk⟩, hr, by have := hs1.2.2; simpa using this⟩
  have hlc : lim (lst (cls (fm (nl (ic k))))).length := by have := lst_len (cls (fm (nl (ic k)))); simp only [lim]; omega
  have p22 : lim (lst (cls (fm (nl (ic k))))).length ∧ rok (lst (cls (fm (nl (ic k))))) (rn (lst (cls (fm (nl (ic k)))))) ∧ rok (lst (cls (fm (nl (ic k))))) (rn (lst (cls (fm (nl (ic k)))))) := ⟨hlc, rn_rok _, rn_rok _⟩
  have q22 : decide (lst (cls (fm (nl (ic k)))) = lst (cls (fm (nl (ic k))))) = true := decide_eq_true rfl
  have p18f : lim f.length ∧ rok f q ∧ em f q := ⟨hfl, hq, hqe⟩
  have p24 : lim f.length ∧ rok f q := ⟨hfl, hq⟩
  have hb24 : famB n f = false := famB_f hf
  have p19 : (lim (cut f).length ∧ rok (cut f) (rcl q) ∧ rng (cut f)) ∧ ¬ ∃ F, Fm n (cut f) F := ⟨⟨cut_lim f, cut_rok hq, cut_rng hfg⟩, cut_no hf⟩
  refine body_s ([Ans.o (Orc.val 18 (AV.sl (ints (ic k)) (ic k).length (rcl r)) (H.mk [] [] [])), Ans.o (Orc.val 19 (AV.tup [AV.sl (ints (lst (cls (fm (nl (ic k)))))) (lst (cls (fm (nl (ic k))))).length (rn (lst (cls (fm (nl (ic k)))))), I 0]) (H.mk [] [] [])), Ans.o (Orc.val 25 (AV.sl (ints (cut f)) (cut f).length (rcl q)) (H.mk [] [] [])), Ans.o (Orc.val 27 (AV.tup [AV.sl [] (0 : Nat) Room.nil, I 2]) (H.mk [] [] [])), Ans.o (Orc.val 33 (AV.sl (ints (cut f)) (cut f).length (rcl q)) (H.mk [] [] [])), Ans.o (Orc.val 35 (AV.tup [AV.sl [] (0 : Nat) Room.nil, I 2]) (H.mk [] [] [])), Ans.o (Orc.val 40 (AV.bool true) (H.mk [] [] [])), Ans.o (Orc.val 44 (AV.sl (ints (lst (cls (fm (nl (ic k)))))) (lst (cls (fm (nl (ic k))))).length (rn (lst (cls (fm (nl (ic k))))))) (H.mk [] [] [])), Ans.o (Orc.val 45 (AV.bool true) (H.mk [] [] [])), Ans.o Orc.dflt, Ans.o (Orc.val 60 (AV.bool false) (H.mk [] [] [])), Ans.o Orc.dflt, Ans.o Orc.dflt, Ans.o Orc.dflt, Ans.o (Orc.val 83 (AV.bool true) (H.mk [] [] []))]) (aCall (Sof [c18o.to, c17g.to, c19b.to, c20b.to, c21.to, c23.to, c24.to, c22.to, c26.to]) (AV.fn (Fn.func (18 : Nat)) [] []) [AV.sl (ints (ic k)) (ic k).length r] (H.mk [] [] []) = some (AV.sl (ints (ic k)) (ic k).length (rcl r), H.mk [] [] []) ∧ aCall (Sof [c18o.to, c17g.to, c19b.to, c20b.to, c21.to, c23.to, c24.to, c22.to, c26.to]) (AV.fn (Fn.func (17 : Nat)) [] []) [I (↑n : Int), AV.sl (ints (ic k)) (ic k).length (rcl r)] (H.mk [] [] []) = some (AV.tup [AV.sl (ints (lst (cls (fm (nl (ic k)))))) (lst (cls (fm (nl (ic k))))).length (rn (lst (cls (fm (nl (ic k)))))), I 0], H.mk [] [] []) ∧ aCall (Sof [c18o.to, c17g.to, c19b.to, c20b.to, c21.to, c23.to, c24.to, c22.to, c26.to]) (AV.fn (Fn.func (18 : Nat)) [] []) [AV.sl (ints f) f.length q] (H.mk [] [] []) = some (AV.sl (ints (cut f)) (cut f).length (rcl q), H.mk [] [] []) ∧ aCall (Sof [c18o.to, c17g.to, c19b.to, c20b.to, c21.to, c23.to, c24.to, c22.to, c26.to]) (AV.fn (Fn.func (19 : Nat)) [] []) [I (↑n : Int), AV.sl (ints (cut f)) (cut f).length (rcl q), I x] (H.mk [] [] []) = some (AV.tup [AV.sl [] (0 : Nat) Room.nil, I 2], H.mk [] [] []) ∧ aCall (Sof [c18o.to, c17g.to, c19b.to, c20b.to, c21.to, c23.to, c24.to, c22.to, c26.to]) (AV.fn (Fn.func (18 : Nat)) [] []) [AV.sl (ints f) f.length q] (H.mk [] [] []) = some (AV.sl (ints (cut f)) (cut f).length (rcl q), H.mk [] [] []) ∧ aCall (Sof [c18o.to, c17g.to, c19b.to, c20b.to, c21.to, c23.to, c24.to, c22.to, c26.to]) (AV.fn (Fn.func (20 : Nat)) [] []) [I (↑n : Int), AV.sl (ints (cut f)) (cut f).length (rcl q), I x] (H.mk [] [] []) = some (AV.tup [AV.sl [] (0 : Nat) Room.nil, I 2], H.mk [] [] []) ∧ aCall (Sof [c18o.to, c17g.to, c19b.to, c20b.to, c21.to, c23.to, c24.to, c22.to, c26.to]) (AV.fn (Fn.func (21 : Nat)) [] []) [I (↑n : Int), AV.sl (ints (ic k)) (ic k).length r] (H.mk [] [] []) = some (AV.bool true, H.mk [] [] []) ∧ aCall (Sof [c18o.to, c17g.to, c19b.to, c20b.to, c21.to, c23.to, c24.to, c22.to, c26.to]) (AV.fn (Fn.func (23 : Nat)) [] []) [I (↑n : Int), AV.sl (ints (ic k)) (ic k).length r] (H.mk [] [] []) = some (AV.sl (ints (lst (cls (fm (nl (ic k)))))) (lst (cls (fm (nl (ic k))))).length (rn (lst (cls (fm (nl (ic k)))))), H.mk [] [] []) ∧ aCall (Sof [c18o.to, c17g.to, c19b.to, c20b.to, c21.to, c23.to, c24.to, c22.to, c26.to]) (AV.fn (Fn.func (22 : Nat)) [] []) [AV.sl (ints (lst (cls (fm (nl (ic k)))))) (lst (cls (fm (nl (ic k))))).length (rn (lst (cls (fm (nl (ic k)))))), AV.sl (ints (lst (cls (fm (nl (ic k)))))) (lst (cls (fm (nl (ic k))))).length (rn (lst (cls (fm (nl (ic k))))))] (H.mk [] [] []) = some (AV.bool true, H.mk [] [] []) ∧ aCall (Sof [c18o.to, c17g.to, c19b.to, c20b.to, c21.to, c23.to, c24.to, c22.to, c26.to]) (AV.fn (Fn.func (24 : Nat)) [] []) [I (↑n : Int), AV.sl (ints f) f.length q] (H.mk [] [] []) = some (AV.bool false, H.mk [] [] []) ∧ IntKind.i64.wrap (0 : Int) = (0 : Int) ∧ aCall (Sof [c18o.to, c17g.to, c19b.to, c20b.to, c21.to, c23.to, c24.to, c22.to, c26.to]) (AV.fn (Fn.func (26 : Nat)) [] []) [] (H.mk [] [] []) = some (AV.bool true, H.mk [] [] []) ∧ (AV.bool true, H.mk [] [] []) = (AV.bool true, H.mk [] [] [])) (by kernel_rfl) ?_
  refine ⟨by first | exact acall_hit (c := c18o.to) (.inl (k, r)) _ rfl p18 | exact acall_hit (c := c18o.to) (.inr (f, q)) _ rfl p18f, ?_⟩
  refine ⟨acall_hit (c := c17g.to) (n, ic k, rcl r) _ rfl p17, ?_⟩
  refine ⟨by first | exact acall_hit (c := c18o.to) (.inl (k, r)) _ rfl p18 | exact acall_hit (c := c18o.to) (.inr (f, q)) _ rfl p18f, ?_⟩
  refine ⟨acall_hit (c := c19b.to) ((n : Int), cut f, rcl q, x) _ rfl p19, ?_⟩
  refine ⟨by first | exact acall_hit (c := c18o.to) (.inl (k, r)) _ rfl p18 | exact acall_hit (c := c18o.to) (.inr (f, q)) _ rfl p18f, ?_⟩
  refine ⟨acall_hit (c := c20b.to) ((n : Int), cut f, rcl q, x) _ rfl p19, ?_⟩
  refine ⟨acall_b (acall_hit (c := c21.to) ((n : Int), ic k, r) _ rfl p21) hb21, ?_⟩
  refine ⟨acall_hit (c := c23.to) (n, ic k, r) _ rfl p23, ?_⟩
  refine ⟨by first | exact acall_b (acall_hit (c := c22.to) (lst (cls (fm (nl (ic k)))), rn (lst (cls (fm (nl (ic k))))), lst (cls (fm (nl (ic k)))), rn (lst (cls (fm (nl (ic k)))))) _ rfl p22) q22, ?_⟩
  refine ⟨acall_b (acall_hit (c := c24.to) ((n : Int), f, q) _ rfl p24) hb24, ?_⟩
  refine ⟨wr _ (by omega) (by omega), ?_⟩
  refine ⟨acall_hit (c := c26.to) () _ rfl trivial, ?_⟩
  first | rfl | (exfalso; omega)
theorem r3ng (n : Nat) (l : List Int) (r : Room) (hs1 : ¬ okS n l) (hl : lim l.length) (hr : rok l r) (he : em l r) (hg : rng l) (F : W) (q : Room) (hf : Fm n (lst F) F) (hq : rok (lst F) q) (hqe : em (lst F) q) (x : Nat) (hx : x < n) : Body (En6 [c18o.to, c17b.to, c19g.to, c20g.to, c21.to, c24.to, c25.to, c27.to, c28.to, c22.to, c26.to]) none1 Tryd.f3 [I n, ls (l) r, ls (lst F) q, I x] .nil (.bool true, .nil) := by
  have p18 : lim l.length ∧ rok l r ∧ em l r := ⟨hl, hr, he⟩
  have p17 : (lim (cut l).length ∧ rok (cut l) (rcl r) ∧ rng (cut l)) ∧ ¬ okS n (cut l) := ⟨⟨cut_lim l, cut_rok hr, cut_rng hg⟩, cut_okS hs1⟩
  have p21 : lim l.length ∧ rok l r := ⟨hl, hr⟩
  have hb21 := gB_f hs1
  have hlf : lim (lst F).length := by have := lst_len F; simp only [lim]; omega
  have p18f : (elts F).length ≤ 70 ∧ rok (lst F) q ∧ em (lst F) q := ⟨elts_70 F, hq, hqe⟩
  have p24 : lim (lst F).length ∧ rok (lst F) q := ⟨hlf, hq⟩
  have hb24 : famB n (lst F) = true := famB_t ⟨F, hf⟩
  have p19 : (Fm n (lst F) F ∧ rok (lst F) (rcl q)) ∧ x < n := ⟨⟨hf, rcl_rok hq⟩, hx⟩
  have hb25 : decide (0 ≤ (x : Int) ∧ (x : Int) < (n : Int)) = true := decide_eq_true (by omega)
  have hx6 : x < 6 := by have := hf.n6; omega
  have hl27 : lim (lst (lnk F x)).length := by have := lst_len (lnk F x); simp only [lim]; omega
  have p2227 : lim (lst (lnk F x)).length ∧ rok (lst (lnk F x)) (rn (lst (lnk F x))) ∧ rok (lst (lnk F x)) (rn (lst (lnk F x))) := ⟨hl27, rn_rok _, rn_rok _⟩
  have q2227 : decide (lst (lnk F x) = lst (lnk F x)) = true := decide_eq_true rfl
  have hl28 : lim (lst (wot F x)).length := by have := lst_len (wot F x); simp only [lim]; omega
  have p2228 : lim (lst (wot F x)).length ∧ rok (lst (wot F x)) (rn (lst (wot F x))) ∧ rok (lst (wot F x)) (rn (lst (wot F x))) := ⟨hl28, rn_rok _, rn_rok _⟩
  have q2228 : decide (lst (wot F x) = lst (wot F x)) = true := decide_eq_true rfl
  refine body_s ([Ans.o (Orc.val 18 (AV.sl (ints (cut l)) (cut l).length (rcl r)) (H.mk [] [] [])), Ans.o (Orc.val 19 (AV.tup [AV.sl [] (0 : Nat) Room.nil, I 2]) (H.mk [] [] [])), Ans.o (Orc.val 25 (AV.sl (ints (ic (elts F))) (ic (elts F)).length (rcl q)) (H.mk [] [] [])), Ans.o (Orc.val 27 (AV.tup [AV.sl (ints (lst (lnk F x))) (lst (lnk F x)).length (rn (lst (lnk F x))), I 0]) (H.mk [] [] [])), Ans.o (Orc.val 33 (AV.sl (ints (ic (elts F))) (ic (elts F)).length (rcl q)) (H.mk [] [] [])), Ans.o (Orc.val 35 (AV.tup [AV.sl (ints (lst (wot F x))) (lst (wot F x)).length (rn (lst (wot F x))), I 0]) (H.mk [] [] [])), Ans.o (Orc.val 40 (AV.bool false) (H.mk [] [] [])), Ans.o Orc.dflt, Ans.o Orc.dflt, Ans.o (Orc.val 60 (AV.bool true) (H.mk [] [] [])), Ans.o (Orc.val 65 (AV.bool true) (H.mk [] [] [])), Ans.o (Orc.val 88 (AV.sl (ints (lst (lnk F x))) (lst (lnk F x)).length (rn (lst (lnk F x)))) (H.mk [] [] [])), Ans.o (Orc.val 89 (AV.bool true) (H.mk [] [] [])), Ans.o (Orc.val 94 (AV.sl (ints (lst (wot F x))) (lst (wot F x)).length (rn (lst (wot F x)))) (H.mk [] [] [])), Ans.o (Orc.val 95 (AV.bool true) (H.mk [] [] [])), Ans.o Orc.dflt, Ans.o Orc.dflt, Ans.o (Orc.val 106 (AV.bool true) (H.mk [] [] []))]) (aCall (Sof [c18o.to, c17b.to, c19g.to, c20g.to, c21.to, c24.to, c25.to, c27.to, c28.to, c22.to, c26.to]) (AV.fn (Fn.func (18 : Nat)) [] []) [AV.sl (ints l) l.length r] (H.mk [] [] []) = some (AV.sl (ints (cut l)) (cut l).length (rcl r), H.mk [] [] []) ∧ aCall (Sof [c18o.to, c17b.to, c19g.to, c20g.to, c21.to, c24.to, c25.to, c27.to, c28.to, c22.to, c26.to]) (AV.fn (Fn.func (17 : Nat)) [] []) [I (↑n : Int), AV.sl (ints (cut l)) (cut l).length (rcl r)] (H.mk [] [] []) = some (AV.tup [AV.sl [] (0 : Nat) Room.nil, I 2], H.mk [] [] []) ∧ aCall (Sof [c18o.to, c17b.to, c19g.to, c20g.to, c21.to, c24.to, c25.to, c27.to, c28.to, c22.to, c26.to]) (AV.fn (Fn.func (18 : Nat)) [] []) [AV.sl (ints (lst F)) (lst F).length q] (H.mk [] [] []) = some (AV.sl (ints (ic (elts F))) (ic (elts F)).length (rcl q), H.mk [] [] []) ∧ aCall (Sof [c18o.to, c17b.to, c19g.to, c20g.to, c21.to, c24.to, c25.to, c27.to, c28.to, c22.to, c26.to]) (AV.fn (Fn.func (19 : Nat)) [] []) [I (↑n : Int), AV.sl (ints (ic (elts F))) (ic (elts F)).length (rcl q), I (↑x : Int)] (H.mk [] [] []) = some (AV.tup [AV.sl (ints (lst (lnk F x))) (lst (lnk F x)).length (rn (lst (lnk F x))), I 0], H.mk [] [] []) ∧ aCall (Sof [c18o.to, c17b.to, c19g.to, c20g.to, c21.to, c24.to, c25.to, c27.to, c28.to, c22.to, c26.to]) (AV.fn (Fn.func (18 : Nat)) [] []) [AV.sl (ints (lst F)) (lst F).length q] (H.mk [] [] []) = some (AV.sl (ints (ic (elts F))) (ic (elts F)).length (rcl q), H.mk [] [] []) ∧ aCall (Sof [c18o.to, c17b.to, c19g.to, c20g.to, c21.to, c24.to, c25.to, c27.to, c28.to, c22.to, c26.to]) (AV.fn (Fn.func (20 : Nat)) [] []) [I (↑n : Int), AV.sl (ints (ic (elts F))) (ic (elts F)).length (rcl q), I (↑x : Int)] (H.mk [] [] []) = some (AV.tup [AV.sl (ints (lst (wot F x))) (lst (wot F x)).length (rn (lst (wot F x))), I 0], H.mk [] [] []) ∧ aCall (Sof [c18o.to, c17b.to, c19g.to, c20g.to, c21.to, c24.to, c25.to, c27.to, c28.to, c22.to, c26.to]) (AV.fn (Fn.func (21 : Nat)) [] []) [I (↑n : Int), AV.sl (ints l) l.length r] (H.mk [] [] []) = some (AV.bool false, H.mk [] [] []) ∧ aCall (Sof [c18o.to, c17b.to, c19g.to, c20g.to, c21.to, c24.to, c25.to, c27.to, c28.to, c22.to, c26.to]) (AV.fn (Fn.func (24 : Nat)) [] []) [I (↑n : Int), AV.sl (ints (lst F)) (lst F).length q] (H.mk [] [] []) = some (AV.bool true, H.mk [] [] []) ∧ aCall (Sof [c18o.to, c17b.to, c19g.to, c20g.to, c21.to, c24.to, c25.to, c27.to, c28.to, c22.to, c26.to]) (AV.fn (Fn.func (25 : Nat)) [] []) [I (↑n : Int), I (↑x : Int)] (H.mk [] [] []) = some (AV.bool true, H.mk [] [] []) ∧ aCall (Sof [c18o.to, c17b.to, c19g.to, c20g.to, c21.to, c24.to, c25.to, c27.to, c28.to, c22.to, c26.to]) (AV.fn (Fn.func (27 : Nat)) [] []) [AV.sl (ints (lst F)) (lst F).length q, I (↑x : Int)] (H.mk [] [] []) = some (AV.sl (ints (lst (lnk F x))) (lst (lnk F x)).length (rn (lst (lnk F x))), H.mk [] [] []) ∧ aCall (Sof [c18o.to, c17b.to, c19g.to, c20g.to, c21.to, c24.to, c25.to, c27.to, c28.to, c22.to, c26.to]) (AV.fn (Fn.func (22 : Nat)) [] []) [AV.sl (ints (lst (lnk F x))) (lst (lnk F x)).length (rn (lst (lnk F x))), AV.sl (ints (lst (lnk F x))) (lst (lnk F x)).length (rn (lst (lnk F x)))] (H.mk [] [] []) = some (AV.bool true, H.mk [] [] []) ∧ aCall (Sof [c18o.to, c17b.to, c19g.to, c20g.to, c21.to, c24.to, c25.to, c27.to, c28.to, c22.to, c26.to]) (AV.fn (Fn.func (28 : Nat)) [] []) [AV.sl (ints (lst F)) (lst F).length q, I (↑x : Int)] (H.mk [] [] []) = some (AV.sl (ints (lst (wot F x))) (lst (wot F x)).length (rn (lst (wot F x))), H.mk [] [] []) ∧ aCall (Sof [c18o.to, c17b.to, c19g.to, c20g.to, c21.to, c24.to, c25.to, c27.to, c28.to, c22.to, c26.to]) (AV.fn (Fn.func (22 : Nat)) [] []) [AV.sl (ints (lst (wot F x))) (lst (wot F x)).length (rn (lst (wot F x))), AV.sl (ints (lst (wot F x))) (lst (wot F x)).length (rn (lst (wot F x)))] (H.mk [] [] []) = some (AV.bool true, H.mk [] [] []) ∧ aCall (Sof [c18o.to, c17b.to, c19g.to, c20g.to, c21.to, c24.to, c25.to, c27.to, c28.to, c22.to, c26.to]) (AV.fn (Fn.func (26 : Nat)) [] []) [] (H.mk [] [] []) = some (AV.bool true, H.mk [] [] []) ∧ (AV.bool true, H.mk [] [] []) = (AV.bool true, H.mk [] [] [])) (by kernel_rfl) ?_
  refine ⟨by first | exact acall_hit (c := c18o.to) (.inr (l, r)) _ rfl p18 | exact acall_hit (c := c18o.to) (.inl (elts F, q)) _ rfl p18f, ?_⟩
  refine ⟨acall_hit (c := c17b.to) ((n : Int), cut l, rcl r) _ rfl p17, ?_⟩
  refine ⟨by first | exact acall_hit (c := c18o.to) (.inr (l, r)) _ rfl p18 | exact acall_hit (c := c18o.to) (.inl (elts F, q)) _ rfl p18f, ?_⟩
  refine ⟨acall_hit (c := c19g.to) (n, F, rcl q, x) _ rfl p19, ?_⟩
  refine ⟨by first | exact acall_hit (c := c18o.to) (.inr (l, r)) _ rfl p18 | exact acall_hit (c := c18o.to) (.inl (elts F, q)) _ rfl p18f, ?_⟩
  refine ⟨acall_hit (c := c20g.to) (n, F, rcl q, x) _ rfl p19, ?_⟩
  refine ⟨acall_b (acall_hit (c := c21.to) ((n : Int), l, r) _ rfl p21) hb21, ?_⟩
  refine ⟨acall_b (acall_hit (c := c24.to) ((n : Int), lst F, q) _ rfl p24) hb24, ?_⟩
  refine ⟨acall_b (acall_hit (c := c25.to) ((n : Int), (x : Int)) _ rfl trivial) hb25, ?_⟩
  refine ⟨acall_hit (c := c27.to) (F, q, x) _ rfl ⟨hq, hx6⟩, ?_⟩
  refine ⟨by first | exact acall_b (acall_hit (c := c22.to) (lst (lnk F x), rn (lst (lnk F x)), lst (lnk F x), rn (lst (lnk F x))) _ rfl p2227) q2227 | exact acall_b (acall_hit (c := c22.to) (lst (wot F x), rn (lst (wot F x)), lst (wot F x), rn (lst (wot F x))) _ rfl p2228) q2228, ?_⟩
  refine ⟨acall_hit (c := c28.to) (F, q, x) _ rfl ⟨hq, hx6⟩, ?_⟩
  refine ⟨by first | exact acall_b (acall_hit (c := c22.to) (lst (lnk F x), rn (lst (lnk F x)), lst (lnk F x), rn (lst (lnk F x))) _ rfl p2227) q2227 | exact acall_b (acall_hit (c := c22.to) (lst (wot F x), rn (lst (wot F x)), lst (wot F x), rn (lst (wot F x))) _ rfl p2228) q2228, ?_⟩
  refine ⟨acall_hit (c := c26.to) () _ rfl trivial, ?_⟩
  first | rfl | (exfalso; omega)
theorem r3ne (n : Int) (l : List Int) (r : Room) (hs1 : ¬ okS n l) (hl : lim l.length) (hr : rok l r) (he : em l r) (hg : rng l) (F : W) (q : Room) (hf : Fm n (lst F) F) (hq : rok (lst F) q) (hqe : em (lst F) q) (x : Int) (hx : ¬ (0 ≤ x ∧ x < n)) : Body (En6 [c18o.to, c17b.to, c19e.to, c20e.to, c21.to, c24.to, c25.to, c26.to]) none1 Tryd.f3 [I n, ls (l) r, ls (lst F) q, I x] .nil (.bool true, .nil) := by
  have p18 : lim l.length ∧ rok l r ∧ em l r := ⟨hl, hr, he⟩
  have p17 : (lim (cut l).length ∧ rok (cut l) (rcl r) ∧ rng (cut l)) ∧ ¬ okS n (cut l) := ⟨⟨cut_lim l, cut_rok hr, cut_rng hg⟩, cut_okS hs1⟩
  have p21 : lim l.length ∧ rok l r := ⟨hl, hr⟩
  have hb21 := gB_f hs1
  have hlf : lim (lst F).length := by have := lst_len F; simp only [lim]; omega
  have p18f : (elts F).length ≤ 70 ∧ rok (lst F) q ∧ em (lst F) q := ⟨elts_70 F, hq, hqe⟩
  have p24 : lim (lst F).length ∧ rok (lst F) q := ⟨hlf, hq⟩
  have hb24 : famB n (lst F) = true := famB_t ⟨F, hf⟩
  have p19 : (Fm n (lst F) F ∧ rok (lst F) (rcl q)) ∧ ¬ (0 ≤ x ∧ x < n) := ⟨⟨hf, rcl_rok hq⟩, hx⟩
  have hb25 : decide (0 ≤ (x : Int) ∧ (x : Int) < (n : Int)) = false := decide_eq_false hx
  refine body_s ([Ans.o (Orc.val 18 (AV.sl (ints (cut l)) (cut l).length (rcl r)) (H.mk [] [] [])), Ans.o (Orc.val 19 (AV.tup [AV.sl [] (0 : Nat) Room.nil, I 2]) (H.mk [] [] [])), Ans.o (Orc.val 25 (AV.sl (ints (ic (elts F))) (ic (elts F)).length (rcl q)) (H.mk [] [] [])), Ans.o (Orc.val 27 (AV.tup [AV.sl [] (0 : Nat) Room.nil, I 2]) (H.mk [] [] [])), Ans.o (Orc.val 33 (AV.sl (ints (ic (elts F))) (ic (elts F)).length (rcl q)) (H.mk [] [] [])), Ans.o (Orc.val 35 (AV.tup [AV.sl [] (0 : Nat) Room.nil, I 2]) (H.mk [] [] [])), Ans.o (Orc.val 40 (AV.bool false) (H.mk [] [] [])), Ans.o Orc.dflt, Ans.o Orc.dflt, Ans.o (Orc.val 60 (AV.bool true) (H.mk [] [] [])), Ans.o (Orc.val 65 (AV.bool false) (H.mk [] [] [])), Ans.o Orc.dflt, Ans.o Orc.dflt, Ans.o Orc.dflt, Ans.o (Orc.val 83 (AV.bool true) (H.mk [] [] []))]) (aCall (Sof [c18o.to, c17b.to, c19e.to, c20e.to, c21.to, c24.to, c25.to, c26.to]) (AV.fn (Fn.func (18 : Nat)) [] []) [AV.sl (ints l) l.length r] (H.mk [] [] []) = some (AV.sl (ints (cut l)) (cut l).length (rcl r), H.mk [] [] []) ∧ aCall (Sof [c18o.to, c17b.to, c19e.to, c20e.to, c21.to, c24.to, c25.to, c26.to]) (AV.fn (Fn.func (17 : Nat)) [] []) [I n, AV.sl (ints (cut l)) (cut l).length (rcl r)] (H.mk [] [] []) = some (AV.tup [AV.sl [] (0 : Nat) Room.nil, I 2], H.mk [] [] []) ∧ aCall (Sof [c18o.to, c17b.to, c19e.to, c20e.to, c21.to, c24.to, c25.to, c26.to]) (AV.fn (Fn.func (18 : Nat)) [] []) [AV.sl (ints (lst F)) (lst F).length q] (H.mk [] [] []) = some (AV.sl (ints (ic (elts F))) (ic (elts F)).length (rcl q), H.mk [] [] []) ∧ aCall (Sof [c18o.to, c17b.to, c19e.to, c20e.to, c21.to, c24.to, c25.to, c26.to]) (AV.fn (Fn.func (19 : Nat)) [] []) [I n, AV.sl (ints (ic (elts F))) (ic (elts F)).length (rcl q), I x] (H.mk [] [] []) = some (AV.tup [AV.sl [] (0 : Nat) Room.nil, I 2], H.mk [] [] []) ∧ aCall (Sof [c18o.to, c17b.to, c19e.to, c20e.to, c21.to, c24.to, c25.to, c26.to]) (AV.fn (Fn.func (18 : Nat)) [] []) [AV.sl (ints (lst F)) (lst F).length q] (H.mk [] [] []) = some (AV.sl (ints (ic (elts F))) (ic (elts F)).length (rcl q), H.mk [] [] []) ∧ aCall (Sof [c18o.to, c17b.to, c19e.to, c20e.to, c21.to, c24.to, c25.to, c26.to]) (AV.fn (Fn.func (20 : Nat)) [] []) [I n, AV.sl (ints (ic (elts F))) (ic (elts F)).length (rcl q), I x] (H.mk [] [] []) = some (AV.tup [AV.sl [] (0 : Nat) Room.nil, I 2], H.mk [] [] []) ∧ aCall (Sof [c18o.to, c17b.to, c19e.to, c20e.to, c21.to, c24.to, c25.to, c26.to]) (AV.fn (Fn.func (21 : Nat)) [] []) [I n, AV.sl (ints l) l.length r] (H.mk [] [] []) = some (AV.bool false, H.mk [] [] []) ∧ aCall (Sof [c18o.to, c17b.to, c19e.to, c20e.to, c21.to, c24.to, c25.to, c26.to]) (AV.fn (Fn.func (24 : Nat)) [] []) [I n, AV.sl (ints (lst F)) (lst F).length q] (H.mk [] [] []) = some (AV.bool true, H.mk [] [] []) ∧ aCall (Sof [c18o.to, c17b.to, c19e.to, c20e.to, c21.to, c24.to, c25.to, c26.to]) (AV.fn (Fn.func (25 : Nat)) [] []) [I n, I x] (H.mk [] [] []) = some (AV.bool false, H.mk [] [] []) ∧ IntKind.i64.wrap (0 : Int) = (0 : Int) ∧ aCall (Sof [c18o.to, c17b.to, c19e.to, c20e.to, c21.to, c24.to, c25.to, c26.to]) (AV.fn (Fn.func (26 : Nat)) [] []) [] (H.mk [] [] []) = some (AV.bool true, H.mk [] [] []) ∧ (AV.bool true, H.mk [] [] []) = (AV.bool true, H.mk [] [] [])) (by kernel_rfl) ?_
  refine ⟨by first | exact acall_hit (c := c18o.to) (.inr (l, r)) _ rfl p18 | exact acall_hit (c := c18o.to) (.inl (elts F, q)) _ rfl p18f, ?_⟩
  refine ⟨acall_hit (c := c17b.to) ((n : Int), cut l, rcl r) _ rfl p17, ?_⟩
  refine ⟨by first | exact acall_hit (c := c18o.to) (.inr (l, r)) _ rfl p18 | exact acall_hit (c := c18o.to) (.inl (elts F, q)) _ rfl p18f, ?_⟩
  refine ⟨acall_hit (c := c19e.to) ((n : Int), F, rcl q, x) _ rfl p19, ?_⟩
  refine ⟨by first | exact acall_hit (c := c18o.to) (.inr (l, r)) _ rfl p18 | exact acall_hit (c := c18o.to) (.inl (elts F, q)) _ rfl p18f, ?_⟩
  refine ⟨acall_hit (c := c20e.to) ((n : Int), F, rcl q, x) _ rfl p19, ?_⟩
  refine ⟨acall_b (acall_hit (c := c21.to) ((n : Int), l, r) _ rfl p21) hb21, ?_⟩
  refine ⟨acall_b (acall_hit (c := c24.to) ((n : Int), lst F, q) _ rfl p24) hb24, ?_⟩
  refine ⟨acall_b (acall_hit (c := c25.to) ((n : Int), (x : Int)) _ rfl trivial) hb25, ?_⟩
  refine ⟨wr _ (by omega) (by omega), ?_⟩
  refine ⟨acall_hit (c := c26.to) () _ rfl trivial, ?_⟩
  first | rfl | (exfalso; omega)
theorem r3nb (n : Int) (l : List Int) (r : Room) (hs1 : ¬ okS n l) (hl : lim l.length) (hr : rok l r) (he : em l r) (hg : rng l) (f : List Int) (q : Room) (hf : ¬ ∃ F, Fm n f F) (hfl : lim f.length) (hq : rok f q) (hqe : em f q) (hfg : rng f) (x : Int) : Body (En6 [c18o.to, c17b.to, c19b.to, c20b.to, c21.to, c24.to, c26.to]) none1 Tryd.f3 [I n, ls (l) r, ls (f) q, I x] .nil (.bool true, .nil) := by
  have p18 : lim l.length ∧ rok l r ∧ em l r := ⟨hl, hr, he⟩
  have p17 : (lim (cut l).length ∧ rok (cut l) (rcl r) ∧ rng (cut l)) ∧ ¬ okS n (cut l) := ⟨⟨cut_lim l, cut_rok hr, cut_rng hg⟩, cut_okS hs1⟩
  have p21 : lim l.length ∧ rok l r := ⟨hl, hr⟩
  have hb21 := gB_f hs1
  have p18f : lim f.length ∧ rok f q ∧ em f q := ⟨hfl, hq, hqe⟩
  have p24 : lim f.length ∧ rok f q := ⟨hfl, hq⟩
  have hb24 : famB n f = false := famB_f hf
  have p19 : (lim (cut f).length ∧ rok (cut f) (rcl q) ∧ rng (cut f)) ∧ ¬ ∃ F, Fm n (cut f) F := ⟨⟨cut_lim f, cut_rok hq, cut_rng hfg⟩, cut_no hf⟩
  refine body_s ([Ans.o (Orc.val 18 (AV.sl (ints (cut l)) (cut l).length (rcl r)) (H.mk [] [] [])), Ans.o (Orc.val 19 (AV.tup [AV.sl [] (0 : Nat) Room.nil, I 2]) (H.mk [] [] [])), Ans.o (Orc.val 25 (AV.sl (ints (cut f)) (cut f).length (rcl q)) (H.mk [] [] [])), Ans.o (Orc.val 27 (AV.tup [AV.sl [] (0 : Nat) Room.nil, I 2]) (H.mk [] [] [])), Ans.o (Orc.val 33 (AV.sl (ints (cut f)) (cut f).length (rcl q)) (H.mk [] [] [])), Ans.o (Orc.val 35 (AV.tup [AV.sl [] (0 : Nat) Room.nil, I 2]) (H.mk [] [] [])), Ans.o (Orc.val 40 (AV.bool false) (H.mk [] [] [])), Ans.o Orc.dflt, Ans.o Orc.dflt, Ans.o (Orc.val 60 (AV.bool false) (H.mk [] [] [])), Ans.o Orc.dflt, Ans.o Orc.dflt, Ans.o Orc.dflt, Ans.o (Orc.val 83 (AV.bool true) (H.mk [] [] []))]) (aCall (Sof [c18o.to, c17b.to, c19b.to, c20b.to, c21.to, c24.to, c26.to]) (AV.fn (Fn.func (18 : Nat)) [] []) [AV.sl (ints l) l.length r] (H.mk [] [] []) = some (AV.sl (ints (cut l)) (cut l).length (rcl r), H.mk [] [] []) ∧ aCall (Sof [c18o.to, c17b.to, c19b.to, c20b.to, c21.to, c24.to, c26.to]) (AV.fn (Fn.func (17 : Nat)) [] []) [I n, AV.sl (ints (cut l)) (cut l).length (rcl r)] (H.mk [] [] []) = some (AV.tup [AV.sl [] (0 : Nat) Room.nil, I 2], H.mk [] [] []) ∧ aCall (Sof [c18o.to, c17b.to, c19b.to, c20b.to, c21.to, c24.to, c26.to]) (AV.fn (Fn.func (18 : Nat)) [] []) [AV.sl (ints f) f.length q] (H.mk [] [] []) = some (AV.sl (ints (cut f)) (cut f).length (rcl q), H.mk [] [] []) ∧ aCall (Sof [c18o.to, c17b.to, c19b.to, c20b.to, c21.to, c24.to, c26.to]) (AV.fn (Fn.func (19 : Nat)) [] []) [I n, AV.sl (ints (cut f)) (cut f).length (rcl q), I x] (H.mk [] [] []) = some (AV.tup [AV.sl [] (0 : Nat) Room.nil, I 2], H.mk [] [] []) ∧ aCall (Sof [c18o.to, c17b.to, c19b.to, c20b.to, c21.to, c24.to, c26.to]) (AV.fn (Fn.func (18 : Nat)) [] []) [AV.sl (ints f) f.length q] (H.mk [] [] []) = some (AV.sl (ints (cut f)) (cut f).length (rcl q), H.mk [] [] []) ∧ aCall (Sof [c18o.to, c17b.to, c19b.to, c20b.to, c21.to, c24.to, c26.to]) (AV.fn (Fn.func (20 : Nat)) [] []) [I n, AV.sl (ints (cut f)) (cut f).length (rcl q), I x] (H.mk [] [] []) = some (AV.tup [AV.sl [] (0 : Nat) Room.nil, I 2], H.mk [] [] []) ∧ aCall (Sof [c18o.to, c17b.to, c19b.to, c20b.to, c21.to, c24.to, c26.to]) (AV.fn (Fn.func (21 : Nat)) [] []) [I n, AV.sl (ints l) l.length r] (H.mk [] [] []) = some (AV.bool false, H.mk [] [] []) ∧ aCall (Sof [c18o.to, c17b.to, c19b.to, c20b.to, c21.to, c24.to, c26.to]) (AV.fn (Fn.func (24 : Nat)) [] []) [I n, AV.sl (ints f) f.length q] (H.mk [] [] []) = some (AV.bool false, H.mk [] [] []) ∧ IntKind.i64.wrap (0 : Int) = (0 : Int) ∧ aCall (Sof [c18o.to, c17b.to, c19b.to, c20b.to, c21.to, c24.to, c26.to]) (AV.fn (Fn.func (26 : Nat)) [] []) [] (H.mk [] [] []) = some (AV.bool true, H.mk [] [] []) ∧ (AV.bool true, H.mk [] [] []) = (AV.bool true, H.mk [] [] [])) (by kernel_rfl) ?_
  refine ⟨by first | exact acall_hit (c := c18o.to) (.inr (l, r)) _ rfl p18 | exact acall_hit (c := c18o.to) (.inr (f, q)) _ rfl p18f, ?_⟩
  refine ⟨acall_hit (c := c17b.to) ((n : Int), cut l, rcl r) _ rfl p17, ?_⟩
  refine ⟨by first | exact acall_hit (c := c18o.to) (.inr (l, r)) _ rfl p18 | exact acall_hit (c := c18o.to) (.inr (f, q)) _ rfl p18f, ?_⟩
  refine ⟨acall_hit (c := c19b.to) ((n : Int), cut f, rcl q, x) _ rfl p19, ?_⟩
  refine ⟨by first | exact acall_hit (c := c18o.to) (.inr (l, r)) _ rfl p18 | exact acall_hit (c := c18o.to) (.inr (f, q)) _ rfl p18f, ?_⟩
  refine ⟨acall_hit (c := c20b.to) ((n : Int), cut f, rcl q, x) _ rfl p19, ?_⟩
  refine ⟨acall_b (acall_hit (c := c21.to) ((n : Int), l, r) _ rfl p21) hb21, ?_⟩
  refine ⟨acall_b (acall_hit (c := c24.to) ((n : Int), f, q) _ rfl p24) hb24, ?_⟩
  refine ⟨wr _ (by omega) (by omega), ?_⟩
  refine ⟨acall_hit (c := c26.to) () _ rfl trivial, ?_⟩
  first | rfl | (exfalso; omega)
theorem parts_ok (n : Int) (l f : List Int) (p q : RK) (x : Int) (h1 : l.length ≤ Go.maxLen) (h2 : p.mt = true → l = []) (h3 : rng l) (h4 : f.length ≤ Go.maxLen) (h5 : q.mt = true → f = []) (h6 : rng f) : CallOk Tryd.prog 3 [I n, ls l (rr p), ls f (rr q), I x] .nil (.bool true) .nil := by
  have hm : Go.maxLen ≤ 9223372036854775807 := by decide
  have hl : lim l.length := Nat.le_trans h1 hm
  have hk : lim f.length := Nat.le_trans h4 hm
  by_cases hs1 : okS n l
  · obtain ⟨a, rfl⟩ : ∃ a : Nat, n = a := ⟨n.toNat, by have := hs1.1; omega⟩
    have e := ic_nl (l := l) (fun i hi => (hs1.2.2 i hi).1)
    have hr := rr_rok h2
    have he := em_rr h2
    rw [← e] at hs1 hr he ⊢
    by_cases hf : ∃ F, Fm a f F
    · obtain ⟨F, hF⟩ := hf
      have e' := hF.eq
      subst e'
      by_cases hx : 0 ≤ x ∧ x < (a : Int)
      · obtain ⟨y, rfl⟩ : ∃ y : Nat, x = y := ⟨x.toNat, by omega⟩
        exact (r3sg a (nl l) (rr p) hs1 hr he F (rr q) hF (rr_rok h5) (em_rr h5) y (by omega)).run ok3 (.pure _ (.pure _ (.pure _ (.pure _ (.pure _ (.pure _ (.pure _ (.pure _ (.pure _ (.pure _ (.pure _ (.pure _ .nil)))))))))))) rfl
      · exact (r3se a (nl l) (rr p) hs1 hr he F (rr q) hF (rr_rok h5) (em_rr h5) x hx).run ok3 (.pure _ (.pure _ (.pure _ (.pure _ (.pure _ (.pure _ (.pure _ (.pure _ (.pure _ (.pure _ .nil)))))))))) rfl
    · exact (r3sb a (nl l) (rr p) hs1 hr he f (rr q) hf hk (rr_rok h5) (em_rr h5) h6 x).run ok3 (.pure _ (.pure _ (.pure _ (.pure _ (.pure _ (.pure _ (.pure _ (.pure _ (.pure _ .nil))))))))) rfl
  · by_cases hf : ∃ F, Fm n f F
    · obtain ⟨F, hF⟩ := hf
      have e' := hF.eq
      subst e'
      by_cases hx : 0 ≤ x ∧ x < n
      · obtain ⟨a, rfl⟩ : ∃ a : Nat, n = a := ⟨n.toNat, by omega⟩
        obtain ⟨y, rfl⟩ : ∃ y : Nat, x = y := ⟨x.toNat, by omega⟩
        exact (r3ng a l (rr p) hs1 hl (rr_rok h2) (em_rr h2) h3 F (rr q) hF (rr_rok h5) (em_rr h5) y (by omega)).run ok3 (.pure _ (.pure _ (.pure _ (.pure _ (.pure _ (.pure _ (.pure _ (.pure _ (.pure _ (.pure _ (.pure _ .nil))))))))))) rfl
      · exact (r3ne n l (rr p) hs1 hl (rr_rok h2) (em_rr h2) h3 F (rr q) hF (rr_rok h5) (em_rr h5) x hx).run ok3 (.pure _ (.pure _ (.pure _ (.pure _ (.pure _ (.pure _ (.pure _ (.pure _ .nil)))))))) rfl
    · exact (r3nb n l (rr p) hs1 hl (rr_rok h2) (em_rr h2) h3 f (rr q) hf hk (rr_rok h5) (em_rr h5) h6 x).run ok3 (.pure _ (.pure _ (.pure _ (.pure _ (.pure _ (.pure _ (.pure _ .nil))))))) rfl
end Go.Proofs.Evd

