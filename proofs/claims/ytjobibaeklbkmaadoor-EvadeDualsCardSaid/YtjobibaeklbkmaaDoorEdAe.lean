/- Layer 8: EvadeDuals. -/
import Derived.Test.YtjobibaeklbkmaaDoorEdAd
import Derived.Test.YtjobibaeklbkmaaDoorEdAc
import Derived.KernelRfl
set_option linter.unusedSimpArgs false
set_option linter.unusedVariables false
set_option linter.unnecessarySimpa false
set_option maxHeartbeats 4000000
set_option maxRecDepth 100000
namespace Go.Proofs.Evd
open Go Go.VM
open Go.Proofs.Sur (W w_wrap w_nat w_inj w_eq0 w_and w_or w_andn w_shl w_shr neg_nat sub_nat tz tz_ok cl bits_cons bits_0 bits_len andn andn_bit andn_le i_wrap i_and i_or i_andn i_shl i_shr bit_01)

/-- a copy of what 'list' returns -/
noncomputable def c55f : PCtr Tryd.prog where
  f := 55
  X := W × Room
  args x := [ls (lst x.1) x.2]
  pre x := rok (lst x.1) x.2 ∧ em (lst x.1) x.2
  v x := ls (lst x.1) (rcl x.2)
  det := by
    rintro ⟨l, r⟩ ⟨l', r'⟩ e _ _
    simp at e
    simp [e]
  ok := by
    rintro ⟨F, r⟩ ⟨h1, h2⟩
    have hb : (lst F).length ≤ 1000000000 := by have := lst_len F; omega
    exact c55.ok (lst F, r, (lst F).length) ⟨rfl, hb, h1, h2⟩
theorem rn_em (l : List Int) : em l (rn l) := fun h => by cases l <;> simp_all [rn, rm, Room.wk]
theorem sm_abs (F : W) : -64 ≤ sm F ∧ sm F ≤ 64 := by
  rw [← suL_elts]
  have h1 := suL_abs (elts F)
  have h2 : (elts F).length ≤ 64 := Go.Proofs.Sur.bits_len F
  omega
theorem eK_abs (k : Nat) : eK k = 1 ∨ eK k = -1 := by
  simp only [eK]
  rcases Nat.mod_two_eq_zero_or_one (k + 1) with h | h <;> rw [h] <;> simp
theorem ok10 : FokM Tryd.prog none1 10 Tryd.f10 := ⟨mixed, by kernel_rfl, by kernel_rfl, by kernel_rfl, by kernel_rfl⟩
theorem r10g (k : Nat) (F : W) (r : Room) (h : Fm k (lst F) F) (hr : rok (lst F) r) (he : em (lst F) r) : Body (En6 [c18f.to, c39g.to, c24.to, c26.to, c55f.to, c30g.to, c38g.to, c22.to]) none1 Tryd.f10 [I k, ls (lst F) r] .nil (.bool true, .nil) := by
  have hk : k ≤ 6 := by have := h.n6; omega
  have h64 := p64 hk
  have hl : lim (lst F).length := by have := lst_len F; simp only [lim]; omega
  have hl64 := lst_len F
  have hd := dF_fm h
  have hdl := lst_len (dF k F)
  have p18 : rok (lst F) r ∧ em (lst F) r := ⟨hr, he⟩
  have p39 : Fm k (lst F) F ∧ rok (lst F) (rcl r) := ⟨h, rcl_rok hr⟩
  have p24 : lim (lst F).length ∧ rok (lst F) r := ⟨hl, hr⟩
  have hfb : famB k (lst F) = true := famB_t ⟨F, h⟩
  have p55 : rok (lst (dF k F)) (rn (lst (dF k F))) ∧ em (lst (dF k F)) (rn (lst (dF k F))) := ⟨rn_rok _, rn_em _⟩
  have p39d : Fm k (lst (dF k F)) (dF k F) ∧ rok (lst (dF k F)) (rcl (rn (lst (dF k F)))) := ⟨hd, rcl_rok (rn_rok _)⟩
  have hdd := dF_dF h
  have p22 : lim (lst (dF k (dF k F))).length ∧ rok (lst (dF k (dF k F))) (rn (lst (dF k (dF k F)))) ∧ rok (lst F) r := ⟨by have := lst_len (dF k (dF k F)); simp only [lim]; omega, rn_rok _, hr⟩
  have heq : decide (lst (dF k (dF k F)) = lst F) = true := decide_eq_true (by rw [hdd])
  have hask : ((askV k F : Nat) : Int) = ((askV k (dF k F) : Nat) : Int) := by rw [askV_dF h]
  have hs1 := sm_abs F
  have hs2 := sm_dF h
  have hek := eK_abs k
  have ev0 : IntKind.i64.wrap ((k : Int) + 1) = ((k + 1 : Nat) : Int) := by rw [wr _ (by omega) (by omega)]; omega
  have ev1 : (((k + 1 : Nat)) : Int).tmod 2 = (((k + 1) % 2 : Nat) : Int) := rfl
  have ev2 : IntKind.i64.wrap (2 * (((k + 1) % 2 : Nat) : Int)) = 2 * (((k + 1) % 2 : Nat) : Int) := wr _ (by omega) (by omega)
  have ev3 : IntKind.i64.wrap (1 - 2 * (((k + 1) % 2 : Nat) : Int)) = eK k := wr _ (by omega) (by omega)
  have ev4 : IntKind.i64.wrap (sm F * eK k) = sm (dF k F) := by
    rw [hs2]; exact wr _ (by rcases hek with e | e <;> rw [e] <;> omega) (by rcases hek with e | e <;> rw [e] <;> omega)
  have ev5 := pw_shl (n := k) (by omega)
  have hlen := len_dF h
  have ev6 : IntKind.i64.wrap (((2 ^ k : Nat) : Int) - ((lst F).length : Int)) = ((lst (dF k F)).length : Int) := by rw [hlen]; exact wr _ (by omega) (by omega)
  clear hs2 hlen
  refine body_s ([Ans.o (Orc.val 20 (AV.sl (ints (lst F)) (lst F).length (rcl r)) (H.mk [] [] [])), Ans.o (Orc.val 21 (AV.tup [AV.sl (ints (lst (dF k F))) (lst (dF k F)).length (rn (lst (dF k F))), I 0]) (H.mk [] [] [])), Ans.o Orc.dflt, Ans.o (Orc.val 29 (AV.bool true) (H.mk [] [] [])), Ans.o (Orc.val 40 (AV.sl (ints (lst (dF k F))) (lst (dF k F)).length (rcl (rn (lst (dF k F))))) (H.mk [] [] [])), Ans.o (Orc.val 41 (AV.tup [AV.sl (ints (lst (dF k (dF k F)))) (lst (dF k (dF k F))).length (rn (lst (dF k (dF k F)))), I 0]) (H.mk [] [] [])), Ans.o (Orc.val 47 (AV.sl (ints (lst F)) (lst F).length (rcl r)) (H.mk [] [] [])), Ans.o (Orc.val 48 (AV.tup [I (↑(askV (↑k : Int) F) : Int), I 0]) (H.mk [] [] [])), Ans.o (Orc.val 54 (AV.sl (ints (lst (dF k F))) (lst (dF k F)).length (rcl (rn (lst (dF k F))))) (H.mk [] [] [])), Ans.o (Orc.val 55 (AV.tup [I (↑(askV (↑k : Int) (dF k F)) : Int), I 0]) (H.mk [] [] [])), Ans.o (Orc.val 61 (AV.sl (ints (lst F)) (lst F).length (rcl r)) (H.mk [] [] [])), Ans.o (Orc.val 62 (AV.tup [I (sm F), I 0]) (H.mk [] [] [])), Ans.o (Orc.val 68 (AV.sl (ints (lst (dF k F))) (lst (dF k F)).length (rcl (rn (lst (dF k F))))) (H.mk [] [] [])), Ans.o (Orc.val 69 (AV.tup [I (sm (dF k F)), I 0]) (H.mk [] [] [])), Ans.o Orc.dflt, Ans.o Orc.dflt, Ans.o Orc.dflt, Ans.o Orc.dflt, Ans.o Orc.dflt, Ans.o (Orc.val 93 (AV.bool true) (H.mk [] [] [])), Ans.o (Orc.b true), Ans.o (Orc.val 104 (I (↑(k + (1 : Nat)) : Int)) H.nil), Ans.o (Orc.val 105 (I (↑((k + (1 : Nat)) % (2 : Nat)) : Int)) H.nil), Ans.o (Orc.val 106 (I ((2 : Int) * (↑((k + (1 : Nat)) % (2 : Nat)) : Int))) H.nil), Ans.o (Orc.val 107 (I (eK k)) H.nil), Ans.o (Orc.val 108 (I (sm (dF k F))) H.nil), Ans.fork [Ans.o (Orc.val 115 (I (↑((2 : Nat) ^ k) : Int)) H.nil), Ans.o (Orc.val 118 (I (↑(lst (dF k F)).length : Int)) H.nil), Ans.fork [Ans.o (Orc.val 122 (AV.bool true) (H.mk [] [] []))] []] []]) (aCall (Sof [c18f.to, c39g.to, c24.to, c26.to, c55f.to, c30g.to, c38g.to, c22.to]) (AV.fn (Fn.func (18 : Nat)) [] []) [AV.sl (ints (lst F)) (lst F).length r] (H.mk [] [] []) = some (AV.sl (ints (lst F)) (lst F).length (rcl r), H.mk [] [] []) ∧ aCall (Sof [c18f.to, c39g.to, c24.to, c26.to, c55f.to, c30g.to, c38g.to, c22.to]) (AV.fn (Fn.func (39 : Nat)) [] []) [I (↑k : Int), AV.sl (ints (lst F)) (lst F).length (rcl r)] (H.mk [] [] []) = some (AV.tup [AV.sl (ints (lst (dF k F))) (lst (dF k F)).length (rn (lst (dF k F))), I 0], H.mk [] [] []) ∧ aCall (Sof [c18f.to, c39g.to, c24.to, c26.to, c55f.to, c30g.to, c38g.to, c22.to]) (AV.fn (Fn.func (24 : Nat)) [] []) [I (↑k : Int), AV.sl (ints (lst F)) (lst F).length r] (H.mk [] [] []) = some (AV.bool true, H.mk [] [] []) ∧ aCall (Sof [c18f.to, c39g.to, c24.to, c26.to, c55f.to, c30g.to, c38g.to, c22.to]) (AV.fn (Fn.func (55 : Nat)) [] []) [AV.sl (ints (lst (dF k F))) (lst (dF k F)).length (rn (lst (dF k F)))] (H.mk [] [] []) = some (AV.sl (ints (lst (dF k F))) (lst (dF k F)).length (rcl (rn (lst (dF k F)))), H.mk [] [] []) ∧ aCall (Sof [c18f.to, c39g.to, c24.to, c26.to, c55f.to, c30g.to, c38g.to, c22.to]) (AV.fn (Fn.func (39 : Nat)) [] []) [I (↑k : Int), AV.sl (ints (lst (dF k F))) (lst (dF k F)).length (rcl (rn (lst (dF k F))))] (H.mk [] [] []) = some (AV.tup [AV.sl (ints (lst (dF k (dF k F)))) (lst (dF k (dF k F))).length (rn (lst (dF k (dF k F)))), I 0], H.mk [] [] []) ∧ aCall (Sof [c18f.to, c39g.to, c24.to, c26.to, c55f.to, c30g.to, c38g.to, c22.to]) (AV.fn (Fn.func (18 : Nat)) [] []) [AV.sl (ints (lst F)) (lst F).length r] (H.mk [] [] []) = some (AV.sl (ints (lst F)) (lst F).length (rcl r), H.mk [] [] []) ∧ aCall (Sof [c18f.to, c39g.to, c24.to, c26.to, c55f.to, c30g.to, c38g.to, c22.to]) (AV.fn (Fn.func (30 : Nat)) [] []) [I (↑k : Int), AV.sl (ints (lst F)) (lst F).length (rcl r)] (H.mk [] [] []) = some (AV.tup [I (↑(askV (↑k : Int) F) : Int), I 0], H.mk [] [] []) ∧ aCall (Sof [c18f.to, c39g.to, c24.to, c26.to, c55f.to, c30g.to, c38g.to, c22.to]) (AV.fn (Fn.func (55 : Nat)) [] []) [AV.sl (ints (lst (dF k F))) (lst (dF k F)).length (rn (lst (dF k F)))] (H.mk [] [] []) = some (AV.sl (ints (lst (dF k F))) (lst (dF k F)).length (rcl (rn (lst (dF k F)))), H.mk [] [] []) ∧ aCall (Sof [c18f.to, c39g.to, c24.to, c26.to, c55f.to, c30g.to, c38g.to, c22.to]) (AV.fn (Fn.func (30 : Nat)) [] []) [I (↑k : Int), AV.sl (ints (lst (dF k F))) (lst (dF k F)).length (rcl (rn (lst (dF k F))))] (H.mk [] [] []) = some (AV.tup [I (↑(askV (↑k : Int) (dF k F)) : Int), I 0], H.mk [] [] []) ∧ aCall (Sof [c18f.to, c39g.to, c24.to, c26.to, c55f.to, c30g.to, c38g.to, c22.to]) (AV.fn (Fn.func (18 : Nat)) [] []) [AV.sl (ints (lst F)) (lst F).length r] (H.mk [] [] []) = some (AV.sl (ints (lst F)) (lst F).length (rcl r), H.mk [] [] []) ∧ aCall (Sof [c18f.to, c39g.to, c24.to, c26.to, c55f.to, c30g.to, c38g.to, c22.to]) (AV.fn (Fn.func (38 : Nat)) [] []) [I (↑k : Int), AV.sl (ints (lst F)) (lst F).length (rcl r)] (H.mk [] [] []) = some (AV.tup [I (sm F), I 0], H.mk [] [] []) ∧ aCall (Sof [c18f.to, c39g.to, c24.to, c26.to, c55f.to, c30g.to, c38g.to, c22.to]) (AV.fn (Fn.func (55 : Nat)) [] []) [AV.sl (ints (lst (dF k F))) (lst (dF k F)).length (rn (lst (dF k F)))] (H.mk [] [] []) = some (AV.sl (ints (lst (dF k F))) (lst (dF k F)).length (rcl (rn (lst (dF k F)))), H.mk [] [] []) ∧ aCall (Sof [c18f.to, c39g.to, c24.to, c26.to, c55f.to, c30g.to, c38g.to, c22.to]) (AV.fn (Fn.func (38 : Nat)) [] []) [I (↑k : Int), AV.sl (ints (lst (dF k F))) (lst (dF k F)).length (rcl (rn (lst (dF k F))))] (H.mk [] [] []) = some (AV.tup [I (sm (dF k F)), I 0], H.mk [] [] []) ∧ aCall (Sof [c18f.to, c39g.to, c24.to, c26.to, c55f.to, c30g.to, c38g.to, c22.to]) (AV.fn (Fn.func (22 : Nat)) [] []) [AV.sl (ints (lst (dF k (dF k F)))) (lst (dF k (dF k F))).length (rn (lst (dF k (dF k F)))), AV.sl (ints (lst F)) (lst F).length r] (H.mk [] [] []) = some (AV.bool true, H.mk [] [] []) ∧ (↑(askV (↑k : Int) F) : Int) = (↑(askV (↑k : Int) (dF k F)) : Int) ∧ aBin Tryd.prog BinOp.add (3 : Nat) (I (↑k : Int)) (I 1) = some (I (↑(k + (1 : Nat)) : Int)) ∧ aBin Tryd.prog BinOp.rem (3 : Nat) (I (↑(k + (1 : Nat)) : Int)) (I 2) = some (I (↑((k + (1 : Nat)) % (2 : Nat)) : Int)) ∧ aBin Tryd.prog BinOp.mul (3 : Nat) (I 2) (I (↑((k + (1 : Nat)) % (2 : Nat)) : Int)) = some (I ((2 : Int) * (↑((k + (1 : Nat)) % (2 : Nat)) : Int))) ∧ aBin Tryd.prog BinOp.sub (3 : Nat) (I 1) (I ((2 : Int) * (↑((k + (1 : Nat)) % (2 : Nat)) : Int))) = some (I (eK k)) ∧ aBin Tryd.prog BinOp.mul (3 : Nat) (I (sm F)) (I (eK k)) = some (I (sm (dF k F))) ∧ (sm (dF k F) = sm (dF k F) → aBin Tryd.prog BinOp.shl (3 : Nat) (I 1) (I (↑k : Int)) = some (I (↑((2 : Nat) ^ k) : Int)) ∧ aBin Tryd.prog BinOp.sub (3 : Nat) (I (↑((2 : Nat) ^ k) : Int)) (I (↑(lst F).length : Int)) = some (I (↑(lst (dF k F)).length : Int)) ∧ ((↑(lst (dF k F)).length : Int) = (↑(lst (dF k F)).length : Int) → aCall (Sof [c18f.to, c39g.to, c24.to, c26.to, c55f.to, c30g.to, c38g.to, c22.to]) (AV.fn (Fn.func (26 : Nat)) [] []) [] (H.mk [] [] []) = some (AV.bool true, H.mk [] [] []) ∧ (AV.bool true, H.mk [] [] []) = (AV.bool true, H.mk [] [] [])) ∧ ((↑(lst (dF k F)).length : Int) ≠ (↑(lst (dF k F)).length : Int) → (AV.bool false, H.mk [] [] []) = (AV.bool true, H.mk [] [] []))) ∧ (sm (dF k F) ≠ sm (dF k F) → (AV.bool false, H.mk [] [] []) = (AV.bool true, H.mk [] [] []))) (by kernel_rfl) ?_
  refine ⟨acall_hit (c := c18f.to) (F, r) _ rfl p18, ?_⟩
  refine ⟨by first | exact acall_hit (c := c39g.to) (k, F, rcl r) _ rfl p39 | exact acall_hit (c := c39g.to) (k, dF k F, rcl (rn (lst (dF k F)))) _ rfl p39d, ?_⟩
  refine ⟨acall_b (acall_hit (c := c24.to) ((k : Int), lst F, r) _ rfl p24) hfb, ?_⟩
  refine ⟨acall_hit (c := c55f.to) (dF k F, rn (lst (dF k F))) _ rfl p55, ?_⟩
  refine ⟨by first | exact acall_hit (c := c39g.to) (k, F, rcl r) _ rfl p39 | exact acall_hit (c := c39g.to) (k, dF k F, rcl (rn (lst (dF k F)))) _ rfl p39d, ?_⟩
  refine ⟨acall_hit (c := c18f.to) (F, r) _ rfl p18, ?_⟩
  refine ⟨by first | exact acall_hit (c := c30g.to) ((k : Int), F, rcl r) _ rfl p39 | exact acall_hit (c := c30g.to) ((k : Int), dF k F, rcl (rn (lst (dF k F)))) _ rfl p39d, ?_⟩
  refine ⟨acall_hit (c := c55f.to) (dF k F, rn (lst (dF k F))) _ rfl p55, ?_⟩
  refine ⟨by first | exact acall_hit (c := c30g.to) ((k : Int), F, rcl r) _ rfl p39 | exact acall_hit (c := c30g.to) ((k : Int), dF k F, rcl (rn (lst (dF k F)))) _ rfl p39d, ?_⟩
  refine ⟨acall_hit (c := c18f.to) (F, r) _ rfl p18, ?_⟩
  refine ⟨by first | exact acall_hit (c := c38g.to) ((k : Int), F, rcl r) _ rfl p39 | exact acall_hit (c := c38g.to) ((k : Int), dF k F, rcl (rn (lst (dF k F)))) _ rfl p39d, ?_⟩
  refine ⟨acall_hit (c := c55f.to) (dF k F, rn (lst (dF k F))) _ rfl p55, ?_⟩
  refine ⟨by first | exact acall_hit (c := c38g.to) ((k : Int), F, rcl r) _ rfl p39 | exact acall_hit (c := c38g.to) ((k : Int), dF k F, rcl (rn (lst (dF k F)))) _ rfl p39d, ?_⟩
  refine ⟨acall_b (acall_hit (c := c22.to) (lst (dF k (dF k F)), rn (lst (dF k (dF k F))), lst F, r) _ rfl p22) heq, ?_⟩
  refine ⟨by first | with_reducible assumption | omega | assumption, ?_⟩
  refine ⟨told_add (by with_reducible assumption), ?_⟩
  refine ⟨told_rem (by first | decide | omega) (by with_reducible assumption), ?_⟩
  refine ⟨told_mul (by with_reducible assumption), ?_⟩
  refine ⟨told_sub (by with_reducible assumption), ?_⟩
  refine ⟨told_mul (by with_reducible assumption), ?_⟩
  refine And.intro ?_ ?_
  · skip
    intro w0
    refine ⟨by first | exact told_shl (by first | exact Int.natCast_nonneg _ | omega) (by with_reducible assumption) | exact told_shl (by omega) rfl, ?_⟩
    refine ⟨told_sub (by with_reducible assumption), ?_⟩
    refine And.intro ?_ ?_
    · skip
      intro w1
      refine ⟨acall_hit (c := c26.to) () _ rfl trivial, ?_⟩
      first | rfl | (exfalso; omega)
    · skip
      intro w1
      first | rfl | (exfalso; omega)
  · skip
    intro w0
    first | rfl | (exfalso; omega)
theorem r10b (n : Int) (l : List Int) (r : Room) (h : ¬ ∃ F, Fm n l F) (hl : lim l.length) (hr : rok l r) (he : em l r) (hg : rng l) : Body (En6 [c18.to, c39b.to, c26.to]) none1 Tryd.f10 [I n, ls l r] .nil (.bool true, .nil) := by
  have p18 : lim l.length ∧ rok l r ∧ em l r := ⟨hl, hr, he⟩
  have p39 : (lim (cut l).length ∧ rok (cut l) (rcl r) ∧ rng (cut l)) ∧ ¬ ∃ F, Fm n (cut l) F := ⟨⟨cut_lim l, cut_rok hr, cut_rng hg⟩, cut_no h⟩
  refine body_s ([Ans.o (Orc.val 20 (AV.sl (ints (cut l)) (cut l).length (rcl r)) (H.mk [] [] [])), Ans.o (Orc.val 21 (AV.tup [AV.sl [] (0 : Nat) Room.nil, I 2]) (H.mk [] [] [])), Ans.o Orc.dflt, Ans.o Orc.dflt, Ans.o (Orc.val 35 (AV.bool true) (H.mk [] [] []))]) (aCall (Sof [c18.to, c39b.to, c26.to]) (AV.fn (Fn.func (18 : Nat)) [] []) [AV.sl (ints l) l.length r] (H.mk [] [] []) = some (AV.sl (ints (cut l)) (cut l).length (rcl r), H.mk [] [] []) ∧ aCall (Sof [c18.to, c39b.to, c26.to]) (AV.fn (Fn.func (39 : Nat)) [] []) [I n, AV.sl (ints (cut l)) (cut l).length (rcl r)] (H.mk [] [] []) = some (AV.tup [AV.sl [] (0 : Nat) Room.nil, I 2], H.mk [] [] []) ∧ aCall (Sof [c18.to, c39b.to, c26.to]) (AV.fn (Fn.func (26 : Nat)) [] []) [] (H.mk [] [] []) = some (AV.bool true, H.mk [] [] []) ∧ (AV.bool true, H.mk [] [] []) = (AV.bool true, H.mk [] [] [])) (by kernel_rfl) ?_
  refine ⟨acall_hit (c := c18.to) (l, r) _ rfl p18, ?_⟩
  refine ⟨acall_hit (c := c39b.to) (n, cut l, rcl r) _ rfl p39, ?_⟩
  refine ⟨acall_hit (c := c26.to) () _ rfl trivial, ?_⟩
  first | with_reducible rfl | (refine bleaf_t ?_; omega) | (refine bleaf_f ?_; omega) | (refine ileaf ?_; omega) | rfl | (exfalso; omega)
theorem duals_ok (n : Int) (l : List Int) (q : RK) (h1 : l.length ≤ Go.maxLen) (h2 : q.mt = true → l = []) (h3 : rng l) : CallOk Tryd.prog 10 [I n, ls l (rr q)] .nil (.bool true) .nil := by
  have hm : Go.maxLen ≤ 9223372036854775807 := by decide
  have hl : lim l.length := Nat.le_trans h1 hm
  by_cases h : ∃ F, Fm n l F
  · obtain ⟨F, hF⟩ := h
    obtain ⟨k, rfl⟩ : ∃ k : Nat, n = k := ⟨n.toNat, by have := hF.n1; omega⟩
    have e := hF.eq
    subst e
    exact (r10g k F (rr q) hF (rr_rok h2) (em_rr h2)).run ok10 (.pure _ (.pure _ (.pure _ (.pure _ (.pure _ (.pure _ (.pure _ (.pure _ .nil)))))))) rfl
  · exact (r10b n l (rr q) h hl (rr_rok h2) (em_rr h2) h3).run ok10 (.pure _ (.pure _ (.pure _ .nil))) rfl
end Go.Proofs.Evd

