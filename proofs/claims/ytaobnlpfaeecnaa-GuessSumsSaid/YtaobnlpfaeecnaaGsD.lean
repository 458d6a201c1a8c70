/- Layer 6: Marks, and the laws of marks. -/
import Derived.Test.YtaobnlpfaeecnaaGsC
import Derived.KernelRfl
set_option linter.unusedSimpArgs false
set_option linter.unusedVariables false
set_option linter.unnecessarySimpa false
set_option maxHeartbeats 4000000
set_option maxRecDepth 100000
namespace Go.Proofs.Gss
open Go Go.VM

theorem cdV_vd {p c : Nat} (h : vd p c = true) : cdV p c = ((c ^ p : Nat) : Int) := by simp only [cdV, h, if_true, Int.toNat_natCast]
theorem gm_no {p c : Int} (h : vd p c = false) (l : List Int) : gmB p c l = false := by
  have : cdV p c = 0 := by simp [cdV, h]
  simp [gmB, this]
theorem vd_rg {p c : Int} (h : vd p c = true) : rg4 p c ∧ c.toNat ^ p.toNat ≤ 256 := of_decide_eq_true h
theorem gm_wn {p c : Nat} (h : vd p c = true) (l : List Int) : gmB p c l = wn 0 (((c ^ p : Nat) : Int) - 1) l := by
  have h0 := (vd_rg h).1
  have hp : 0 < c ^ p := Nat.pow_pos (by omega)
  have e : ∀ n : Int, decide (n < ((c ^ p : Nat) : Int)) = decide (n ≤ ((c ^ p : Nat) : Int) - 1) := fun n => by rw [decide_eq_decide]; omega
  simp only [gmB, gmL, cdV_vd h, wn, e]
  rw [decide_eq_true (by omega : (0 : Int) ≤ ((c ^ p : Nat) : Int) - 1), Bool.and_true]
theorem gm_vd {p c : Int} {l : List Int} (h : gmB p c l = true) : vd p c = true := by
  cases hv : vd p c
  · rw [gm_no hv] at h; cases h
  · rfl
/-- what Marks returns -/
def mB (p c a b : Int) : Int := if gmB p c [a, b] = true then (bl (dg c.toNat a.toNat) (dg c.toNat b.toNat) p.toNat : Nat) else 0
def mW (p c a b : Int) : Int := if gmB p c [a, b] = true then (wh (dg c.toNat a.toNat) (dg c.toNat b.toNat) p.toNat 6 : Nat) else 0
def mE (p c a b : Int) : Int := if gmB p c [a, b] = true then 0 else 2
theorem m_no {p c a b : Int} (h : gmB p c [a, b] = false) : mB p c a b = 0 ∧ mW p c a b = 0 ∧ mE p c a b = 2 := by simp [mB, mW, mE, h]
theorem m_ok {p c a b : Nat} (h : gmB p c [(a : Int), (b : Int)] = true) : mB p c a b = (bl (dg c a) (dg c b) p : Nat) ∧ mW p c a b = (wh (dg c a) (dg c b) p 6 : Nat) ∧ mE p c a b = 0 := by simp [mB, mW, mE, h]
/-- a game and two codes of it -/
theorem m_nat {p c a b : Int} (h : gmB p c [a, b] = true) : ∃ p' c' a' b' : Nat, p = p' ∧ c = c' ∧ a = a' ∧ b = b' ∧ (1 ≤ p' ∧ p' ≤ 4) ∧ (1 ≤ c' ∧ c' ≤ 6) ∧ (a' < c' ^ p' ∧ b' < c' ^ p') ∧ c' ^ p' ≤ 256 ∧ vd p' c' = true := by
  have hv := gm_vd h
  obtain ⟨h0, h1⟩ := vd_rg hv
  obtain ⟨p, rfl⟩ : ∃ n : Nat, p = n := ⟨p.toNat, by omega⟩
  obtain ⟨c, rfl⟩ : ∃ n : Nat, c = n := ⟨c.toNat, by omega⟩
  simp only [gmB, gmL, cdV_vd hv, List.all_cons, List.all_nil, Bool.and_true, Bool.and_eq_true, decide_eq_true_eq] at h
  obtain ⟨⟨⟨a1, a2⟩, b1, b2⟩, _⟩ := h
  obtain ⟨a, rfl⟩ : ∃ n : Nat, a = n := ⟨a.toNat, by omega⟩
  obtain ⟨b, rfl⟩ : ∃ n : Nat, b = n := ⟨b.toNat, by omega⟩
  exact ⟨p, c, a, b, rfl, rfl, rfl, rfl, by omega, by omega, by omega, h1, hv⟩
theorem ok18 : FokM Try.prog none1 18 Try.f18 := ⟨mixed, by kernel_rfl, by kernel_rfl, by kernel_rfl, by kernel_rfl⟩
theorem r18 (p : Int) (c : Int) (a : Int) (b : Int) (hp : True) : Body ⟨Try.prog, Sof (P := Try.prog) [c53.to, c54b.to, c55.to], Pof (P := Try.prog) [], H.nil.base, 300⟩ none1 Try.f18 [I p, I c, I a, I b] .nil (.tup [I (mB p c a b), I (mW p c a b), I (mE p c a b)], .nil) := by
  cases hv : vd p c
  · obtain ⟨e1, e2, e3⟩ := m_no (a := a) (b := b) (gm_no hv _)
    rw [e1, e2, e3]
    refine body_s ([Ans.o (Orc.val 16 (AV.bool false) (H.mk [[I p, I c]] [] []))]) (aCall (Sof [c53.to, c54b.to, c55.to]) (AV.fn (Fn.func (53 : Nat)) [] []) [AV.agg [I p, I c]] (H.mk [[I p, I c]] [] []) = some (AV.bool false, H.mk [[I p, I c]] [] []) ∧ (AV.tup [I 0, I 0, I 2], H.mk [] [] []) = (AV.tup [I 0, I 0, I 2], H.mk [] [] [])) (by kernel_rfl) ?_
    refine ⟨acall_b (acall_hit (c := c53.to) (p, c) _ rfl trivial) hv, ?_⟩
    rfl
  · obtain ⟨h0, h1⟩ := vd_rg hv
    obtain ⟨p, rfl⟩ : ∃ n : Nat, p = n := ⟨p.toNat, by omega⟩
    obtain ⟨c, rfl⟩ : ∃ n : Nat, c = n := ⟨c.toNat, by omega⟩
    have hg := gm_wn hv [a, b]
    have q : (p ≤ 4 ∧ c ≤ 6) ∧ lim [a, b].length ∧ rok [a, b] .full := ⟨⟨by omega, by omega⟩, k2 a b⟩
    cases hw : wn 0 (((c ^ p : Nat) : Int) - 1) [a, b]
    · rw [hw] at hg
      obtain ⟨e1, e2, e3⟩ := m_no hg
      rw [e1, e2, e3]
      refine body_s ([Ans.o (Orc.val 16 (AV.bool true) (H.mk [[I (↑p : Int), I (↑c : Int)]] [] [])), Ans.o (Orc.val 23 (AV.bool false) (H.mk [[I (↑p : Int), I (↑c : Int)]] [] []))]) (aCall (Sof [c53.to, c54b.to, c55.to]) (AV.fn (Fn.func (53 : Nat)) [] []) [AV.agg [I (↑p : Int), I (↑c : Int)]] (H.mk [[I (↑p : Int), I (↑c : Int)]] [] []) = some (AV.bool true, H.mk [[I (↑p : Int), I (↑c : Int)]] [] []) ∧ aCall (Sof [c53.to, c54b.to, c55.to]) (AV.fn (Fn.func (54 : Nat)) [] []) [AV.agg [I (↑p : Int), I (↑c : Int)], AV.sl [I a, I b] (2 : Nat) Room.full] (H.mk [[I (↑p : Int), I (↑c : Int)]] [] []) = some (AV.bool false, H.mk [[I (↑p : Int), I (↑c : Int)]] [] []) ∧ (AV.tup [I 0, I 0, I 2], H.mk [] [] []) = (AV.tup [I 0, I 0, I 2], H.mk [] [] [])) (by kernel_rfl) ?_
      refine ⟨acall_b (acall_hit (c := c53.to) ((p : Int), (c : Int)) _ rfl trivial) hv, ?_⟩
      refine ⟨acall_b (acall_hit (c := c54b.to) (p, c, a, b) _ rfl q) hw, ?_⟩
      rfl
    · rw [hw] at hg
      obtain ⟨p', c', a, b, z1, z2, rfl, rfl, q1, q2, q3, q4, _⟩ := m_nat hg
      obtain rfl : p = p' := by omega
      obtain rfl : c = c' := by omega
      obtain ⟨e1, e2, e3⟩ := m_ok hg
      rw [e1, e2, e3]
      have z : p ≤ 4 ∧ (1 ≤ c ∧ c ≤ 6) ∧ a ≤ 1000 ∧ b ≤ 1000 := by omega
      refine body_s ([Ans.o (Orc.val 16 (AV.bool true) (H.mk [[I (↑p : Int), I (↑c : Int)]] [] [])), Ans.o (Orc.val 23 (AV.bool true) (H.mk [[I (↑p : Int), I (↑c : Int)]] [] [])), Ans.o (Orc.val 30 (AV.tup [I (↑(bl (dg c a) (dg c b) p) : Int), I (↑(wh (dg c a) (dg c b) p (6 : Nat)) : Int)]) (H.mk [[I (↑p : Int), I (↑c : Int)]] [] []))]) (aCall (Sof [c53.to, c54b.to, c55.to]) (AV.fn (Fn.func (53 : Nat)) [] []) [AV.agg [I (↑p : Int), I (↑c : Int)]] (H.mk [[I (↑p : Int), I (↑c : Int)]] [] []) = some (AV.bool true, H.mk [[I (↑p : Int), I (↑c : Int)]] [] []) ∧ aCall (Sof [c53.to, c54b.to, c55.to]) (AV.fn (Fn.func (54 : Nat)) [] []) [AV.agg [I (↑p : Int), I (↑c : Int)], AV.sl [I (↑a : Int), I (↑b : Int)] (2 : Nat) Room.full] (H.mk [[I (↑p : Int), I (↑c : Int)]] [] []) = some (AV.bool true, H.mk [[I (↑p : Int), I (↑c : Int)]] [] []) ∧ aCall (Sof [c53.to, c54b.to, c55.to]) (AV.fn (Fn.func (55 : Nat)) [] []) [AV.agg [I (↑p : Int), I (↑c : Int)], I (↑a : Int), I (↑b : Int)] (H.mk [[I (↑p : Int), I (↑c : Int)]] [] []) = some (AV.tup [I (↑(bl (dg c a) (dg c b) p) : Int), I (↑(wh (dg c a) (dg c b) p (6 : Nat)) : Int)], H.mk [[I (↑p : Int), I (↑c : Int)]] [] []) ∧ (AV.tup [I (↑(bl (dg c a) (dg c b) p) : Int), I (↑(wh (dg c a) (dg c b) p (6 : Nat)) : Int), I 0], H.mk [] [] []) = (AV.tup [I (↑(bl (dg c a) (dg c b) p) : Int), I (↑(wh (dg c a) (dg c b) p (6 : Nat)) : Int), I 0], H.mk [] [] [])) (by kernel_rfl) ?_
      refine ⟨acall_b (acall_hit (c := c53.to) ((p : Int), (c : Int)) _ rfl trivial) hv, ?_⟩
      refine ⟨acall_b (acall_hit (c := c54b.to) (p, c, (a : Int), (b : Int)) _ rfl q) hw, ?_⟩
      refine ⟨acall_hit (c := c55.to) (p, c, a, b) _ rfl z, ?_⟩
      rfl
noncomputable def c18 : PCtr Try.prog := sctr ok18 (X := Int × Int × Int × Int) (fun x => [I x.1, I x.2.1, I x.2.2.1, I x.2.2.2]) (fun x => True) (fun x => .tup [I (mB x.1 x.2.1 x.2.2.1 x.2.2.2), I (mW x.1 x.2.1 x.2.2.1 x.2.2.2), I (mE x.1 x.2.1 x.2.2.1 x.2.2.2)]) (by intro x y e _ _; simp [Int.natCast_inj] at e; simp [e]) (fun x => by simp [AV.bnds, AV.bnd, AV.wk, rm_wk_bnd]) (fun x => by first | rfl | (simp [AV.bnd, rm_wk_bnd]; done)  | (simp [AV.bnd, AV.bnds, rm_wk_bnd]; done) | simp [AV.bnd, AV.bnds, Room.bnd, rm_wk_bnd]) (fun x hx => ⟨_, _, _, .pure c53 (.pure c54b (.pure c55 (.nil))), r18 (x.1) (x.2.1) (x.2.2.1) (x.2.2.2) hx⟩)
theorem ok20 : FokM Try.prog none1 20 Try.f20 := ⟨mixed, by kernel_rfl, by kernel_rfl, by kernel_rfl, by kernel_rfl⟩
theorem r20  (hp : True) : Body ⟨Try.prog, Sof (P := Try.prog) [c18.to], Pof (P := Try.prog) [], H.nil.base, 300⟩ none1 Try.f20 [] .nil (.bool true, .nil) := by
  have e1 : mB 2 2 1 2 = 0 := by kernel_rfl
  have e2 : mW 2 2 1 2 = 2 := by kernel_rfl
  have e3 : mE 2 2 1 2 = 0 := by kernel_rfl
  refine body_s ([Ans.o (Orc.val 5 (AV.tup [I 0, I 2, I 0]) (H.mk [] [] [])), Ans.o Orc.dflt, Ans.o Orc.dflt, Ans.o Orc.dflt]) (aCall (Sof [c18.to]) (AV.fn (Fn.func (18 : Nat)) [] []) [I 2, I 2, I 1, I 2] (H.mk [] [] []) = some (AV.tup [I 0, I 2, I 0], H.mk [] [] []) ∧ (AV.bool true, H.mk [] [] []) = (AV.bool true, H.mk [] [] [])) (by kernel_rfl) ?_
  refine ⟨acall_hit (c := c18.to) ((2 : Int), (2 : Int), (1 : Int), (2 : Int)) _ rfl trivial, ?_⟩
  rfl
noncomputable def c20 : PCtr Try.prog := sctr ok20 (X := Unit) (fun x => []) (fun x => True) (fun x => .bool true) (by intro x y e _ _; rfl) (fun _ => rfl) (fun x => by first | rfl | (simp [AV.bnd, rm_wk_bnd]; done)  | (simp [AV.bnd, AV.bnds, rm_wk_bnd]; done) | simp [AV.bnd, AV.bnds, Room.bnd, rm_wk_bnd]) (fun x hx => ⟨_, _, _, .pure c18 (.nil), r20  hx⟩)
theorem ok3 : FokM Try.prog none1 3 Try.f3 := ⟨mixed, by kernel_rfl, by kernel_rfl, by kernel_rfl, by kernel_rfl⟩
theorem r3 (p : Int) (c : Int) (a : Int) (b : Int) (hp : True) : Body ⟨Try.prog, Sof (P := Try.prog) [c18.to, c19b.to, c21.to, c20.to], Pof (P := Try.prog) [], H.nil.base, 300⟩ none1 Try.f3 [I p, I c, I a, I b] .nil (.bool true, .nil) := by
  cases hg : gmB p c [a, b]
  · obtain ⟨e1, e2, e3⟩ := m_no hg
    refine body_s ([Ans.o (Orc.val 19 (AV.tup [I (mB p c a b), I (mW p c a b), I (mE p c a b)]) (H.mk [] [] [])), Ans.o (Orc.val 28 (AV.bool false) (H.mk [] [] [])), Ans.o (Orc.b true), Ans.o (Orc.b true), Ans.o (Orc.b true), Ans.o (Orc.val 41 (AV.bool true) (H.mk [] [] []))]) (aCall (Sof [c18.to, c19b.to, c21.to, c20.to]) (AV.fn (Fn.func (18 : Nat)) [] []) [I p, I c, I a, I b] (H.mk [] [] []) = some (AV.tup [I (mB p c a b), I (mW p c a b), I (mE p c a b)], H.mk [] [] []) ∧ aCall (Sof [c18.to, c19b.to, c21.to, c20.to]) (AV.fn (Fn.func (19 : Nat)) [] []) [I p, I c, AV.sl [I a, I b] (2 : Nat) Room.full] (H.mk [] [] []) = some (AV.bool false, H.mk [] [] []) ∧ mB p c a b = (0 : Int) ∧ mW p c a b = (0 : Int) ∧ mE p c a b = (2 : Int) ∧ aCall (Sof [c18.to, c19b.to, c21.to, c20.to]) (AV.fn (Fn.func (20 : Nat)) [] []) [] (H.mk [] [] []) = some (AV.bool true, H.mk [] [] []) ∧ (AV.bool true, H.mk [] [] []) = (AV.bool true, H.mk [] [] [])) (by kernel_rfl) ?_
    refine ⟨acall_hit (c := c18.to) (p, c, a, b) _ rfl trivial, ?_⟩
    refine ⟨acall_b (acall_hit (c := c19b.to) (p, c, a, b) _ rfl (k2 a b)) hg, ?_⟩
    refine ⟨by first | with_reducible assumption | omega | assumption, ?_⟩
    refine ⟨by first | with_reducible assumption | omega | assumption, ?_⟩
    refine ⟨by first | with_reducible assumption | omega | assumption, ?_⟩
    refine ⟨acall_hit (c := c20.to) () _ rfl trivial, ?_⟩
    rfl
  · obtain ⟨p, c, a, b, rfl, rfl, rfl, rfl, q1, q2, q3, q4, _⟩ := m_nat hg
    obtain ⟨e1, e2, e3⟩ := m_ok hg
    have z : p ≤ 4 ∧ (1 ≤ c ∧ c ≤ 6) ∧ a ≤ 1000 ∧ b ≤ 1000 := by omega
    refine body_s ([Ans.o (Orc.val 19 (AV.tup [I (mB (↑p : Int) (↑c : Int) (↑a : Int) (↑b : Int)), I (mW (↑p : Int) (↑c : Int) (↑a : Int) (↑b : Int)), I (mE (↑p : Int) (↑c : Int) (↑a : Int) (↑b : Int))]) (H.mk [] [] [])), Ans.o (Orc.val 28 (AV.bool true) (H.mk [] [] [])), Ans.o (Orc.val 48 (AV.tup [I (↑(bl (dg c a) (dg c b) p) : Int), I (↑(wh (dg c a) (dg c b) p (6 : Nat)) : Int)]) (H.mk [] [] [])), Ans.o (Orc.b true), Ans.o (Orc.b true), Ans.o (Orc.b true), Ans.o (Orc.val 64 (AV.bool true) (H.mk [] [] []))]) (aCall (Sof [c18.to, c19b.to, c21.to, c20.to]) (AV.fn (Fn.func (18 : Nat)) [] []) [I (↑p : Int), I (↑c : Int), I (↑a : Int), I (↑b : Int)] (H.mk [] [] []) = some (AV.tup [I (mB (↑p : Int) (↑c : Int) (↑a : Int) (↑b : Int)), I (mW (↑p : Int) (↑c : Int) (↑a : Int) (↑b : Int)), I (mE (↑p : Int) (↑c : Int) (↑a : Int) (↑b : Int))], H.mk [] [] []) ∧ aCall (Sof [c18.to, c19b.to, c21.to, c20.to]) (AV.fn (Fn.func (19 : Nat)) [] []) [I (↑p : Int), I (↑c : Int), AV.sl [I (↑a : Int), I (↑b : Int)] (2 : Nat) Room.full] (H.mk [] [] []) = some (AV.bool true, H.mk [] [] []) ∧ aCall (Sof [c18.to, c19b.to, c21.to, c20.to]) (AV.fn (Fn.func (21 : Nat)) [] []) [I (↑p : Int), I (↑c : Int), I (↑a : Int), I (↑b : Int)] (H.mk [] [] []) = some (AV.tup [I (↑(bl (dg c a) (dg c b) p) : Int), I (↑(wh (dg c a) (dg c b) p (6 : Nat)) : Int)], H.mk [] [] []) ∧ mB (↑p : Int) (↑c : Int) (↑a : Int) (↑b : Int) = (↑(bl (dg c a) (dg c b) p) : Int) ∧ mW (↑p : Int) (↑c : Int) (↑a : Int) (↑b : Int) = (↑(wh (dg c a) (dg c b) p (6 : Nat)) : Int) ∧ mE (↑p : Int) (↑c : Int) (↑a : Int) (↑b : Int) = (0 : Int) ∧ aCall (Sof [c18.to, c19b.to, c21.to, c20.to]) (AV.fn (Fn.func (20 : Nat)) [] []) [] (H.mk [] [] []) = some (AV.bool true, H.mk [] [] []) ∧ (AV.bool true, H.mk [] [] []) = (AV.bool true, H.mk [] [] [])) (by kernel_rfl) ?_
    refine ⟨acall_hit (c := c18.to) ((p : Int), (c : Int), (a : Int), (b : Int)) _ rfl trivial, ?_⟩
    refine ⟨acall_b (acall_hit (c := c19b.to) ((p : Int), (c : Int), (a : Int), (b : Int)) _ rfl (k2 _ _)) hg, ?_⟩
    refine ⟨acall_hit (c := c21.to) (p, c, a, b) _ rfl z, ?_⟩
    refine ⟨by first | with_reducible assumption | omega | assumption, ?_⟩
    refine ⟨by first | with_reducible assumption | omega | assumption, ?_⟩
    refine ⟨by first | with_reducible assumption | omega | assumption, ?_⟩
    refine ⟨acall_hit (c := c20.to) () _ rfl trivial, ?_⟩
    rfl
noncomputable def c3 : PCtr Try.prog := sctr ok3 (X := Int × Int × Int × Int) (fun x => [I x.1, I x.2.1, I x.2.2.1, I x.2.2.2]) (fun x => True) (fun x => .bool true) (by intro x y e _ _; simp [Int.natCast_inj] at e; simp [e]) (fun x => by simp [AV.bnds, AV.bnd, AV.wk, rm_wk_bnd]) (fun x => by first | rfl | (simp [AV.bnd, rm_wk_bnd]; done)  | (simp [AV.bnd, AV.bnds, rm_wk_bnd]; done) | simp [AV.bnd, AV.bnds, Room.bnd, rm_wk_bnd]) (fun x hx => ⟨_, _, _, .pure c18 (.pure c19b (.pure c21 (.pure c20 (.nil)))), r3 (x.1) (x.2.1) (x.2.2.1) (x.2.2.2) hx⟩)
end Go.Proofs.Gss

