/- Layer 8: Property, where it says no. -/
import Derived.Test.YtjobibaeklbkmaaDoorEdBf
import Derived.KernelRfl
set_option linter.unusedSimpArgs false
set_option linter.unusedVariables false
set_option linter.unnecessarySimpa false
set_option maxHeartbeats 4000000
set_option maxRecDepth 100000
namespace Go.Proofs.Evd
open Go Go.VM
open Go.Proofs.Sur (W w_wrap w_nat w_inj w_eq0 w_and w_or w_andn w_shl w_shr neg_nat sub_nat tz tz_ok cl bits_cons bits_0 bits_len andn andn_bit andn_le i_wrap i_and i_or i_andn i_shl i_shr bit_01)

theorem ok47f : FokM Tryd.prog none1 47 Tryd.f47 := ⟨mixed, by kernel_rfl, by kernel_rfl, by kernel_rfl, by kernel_rfl⟩
theorem r47f (m : Nat) (F : W) (r : Room) (hp : (2 ≤ m ∧ m ≤ 4) ∧ (Fm (nP m : Nat) (lst F) F ∧ rok (lst F) r) ∧ ¬ cls (fix m F) = F) : Body ⟨Tryd.prog, Sof (P := Tryd.prog) [c95.to, c96.to, c74g.to, c97.to], Pof (P := Tryd.prog) [], H.nil.base, 300⟩ none1 Tryd.f47 [I m, ls (lst F) r] .nil (.tup [.bool false, I 0], .nil) := by
  have hd := pd_t hp.1
  have hr64 := full_lt hp.2.1.1
  have p97 : (2 ≤ m ∧ m ≤ 4) ∧ 2 ^ ((nP m : Nat) : Int).toNat - 1 < 64 := ⟨hp.1, hr64⟩
  have hns := hp.2.2
  have heq : aBin Tryd.prog .eql 76 (fA (2 ^ ((nP m : Nat) : Int).toNat - 1) F) (fA (2 ^ ((nP m : Nat) : Int).toNat - 1) (cls (fix m F))) = some (.bool false) := by
    have h1 : Tryd.prog.eqGuardType Tryd.prog.depth 76 = false := by kernel_rfl
    have hne : decide ((2 ^ ((nP m : Nat) : Int).toNat - 1, F) = (2 ^ ((nP m : Nat) : Int).toNat - 1, cls (fix m F))) = false := decide_eq_false (fun e => hns (Prod.mk.inj e).2.symm)
    simp only [aBin, h1, fA_eq, hne, eqOnly]; rfl
  refine body_s ([Ans.o (Orc.val 9 (AV.bool true) (H.mk [] [] [])), Ans.o (Orc.val 13 (AV.sl (cells96 m) (nP m) Room.no) (H.mk [] [] [])), Ans.o (Orc.val 16 (AV.tup [AV.agg [I (↑((2 : Nat) ^ (↑(nP m) : Int).toNat - (1 : Nat)) : Int), u64A F], AV.bool true]) (H.mk [] [] [])), Ans.o (Orc.val 24 (AV.agg [I (↑((2 : Nat) ^ (↑(nP m) : Int).toNat - (1 : Nat)) : Int), AV.int IntKind.u64 (↑(BitVec.toNat (cls (fix m F))) : Int)]) (H.mk [[I (↑((2 : Nat) ^ (↑(nP m) : Int).toNat - (1 : Nat)) : Int), u64A F]] [] [])), Ans.bfork (25 : Nat) [] []]) (aCall (Sof [c95.to, c96.to, c74g.to, c97.to]) (AV.fn (Fn.func (95 : Nat)) [] []) [I (↑m : Int)] (H.mk [] [] []) = some (AV.bool true, H.mk [] [] []) ∧ aCall (Sof [c95.to, c96.to, c74g.to, c97.to]) (AV.fn (Fn.func (96 : Nat)) [] []) [I (↑m : Int)] (H.mk [] [] []) = some (AV.sl (cells96 m) (nP m) Room.no, H.mk [] [] []) ∧ aCall (Sof [c95.to, c96.to, c74g.to, c97.to]) (AV.fn (Fn.func (74 : Nat)) [] []) [I (↑(nP m) : Int), AV.sl (ints (lst F)) (lst F).length r] (H.mk [] [] []) = some (AV.tup [AV.agg [I (↑((2 : Nat) ^ (↑(nP m) : Int).toNat - (1 : Nat)) : Int), u64A F], AV.bool true], H.mk [] [] []) ∧ aCall (Sof [c95.to, c96.to, c74g.to, c97.to]) (AV.fn (Fn.func (97 : Nat)) [] []) [AV.agg [I (↑((2 : Nat) ^ (↑(nP m) : Int).toNat - (1 : Nat)) : Int), u64A F], I (↑m : Int)] (H.mk [[I (↑((2 : Nat) ^ (↑(nP m) : Int).toNat - (1 : Nat)) : Int), u64A F]] [] []) = some (AV.agg [I (↑((2 : Nat) ^ (↑(nP m) : Int).toNat - (1 : Nat)) : Int), AV.int IntKind.u64 (↑(BitVec.toNat (cls (fix m F))) : Int)], H.mk [[I (↑((2 : Nat) ^ (↑(nP m) : Int).toNat - (1 : Nat)) : Int), u64A F]] [] []) ∧ (((↑((2 : Nat) ^ (↑(nP m) : Int).toNat - (1 : Nat)) : Int) == (↑((2 : Nat) ^ (↑(nP m) : Int).toNat - (1 : Nat)) : Int) && ((↑(BitVec.toNat F) : Int) == (↑(BitVec.toNat (cls (fix m F))) : Int) && true)) = true → (AV.tup [AV.bool true, I 0], H.mk [] [] []) = (AV.tup [AV.bool false, I 0], H.mk [] [] [])) ∧ (((↑((2 : Nat) ^ (↑(nP m) : Int).toNat - (1 : Nat)) : Int) == (↑((2 : Nat) ^ (↑(nP m) : Int).toNat - (1 : Nat)) : Int) && ((↑(BitVec.toNat F) : Int) == (↑(BitVec.toNat (cls (fix m F))) : Int) && true)) = false → (AV.tup [AV.bool false, I 0], H.mk [] [] []) = (AV.tup [AV.bool false, I 0], H.mk [] [] []))) (by kernel_rfl) ?_
  refine ⟨acall_b (acall_hit (c := c95.to) (m : Int) _ rfl trivial) hd, ?_⟩
  refine ⟨acall_hit (c := c96.to) m _ rfl hp.1, ?_⟩
  refine ⟨acall_hit (c := c74g.to) (((nP m : Nat) : Int), F, r) _ rfl hp.2.1, ?_⟩
  refine ⟨acall_hit (c := c97.to) (2 ^ ((nP m : Nat) : Int).toNat - 1, F, m) _ rfl p97, ?_⟩
  refine And.intro ?_ ?_
  · skip
    intro w0
    first | rfl | (exfalso; omega) | (exfalso; simp [hns] at w0; done) | (exfalso; simp at w0; exact hns w0.symm) | (exfalso; simp [hns] at w1; done) | (exfalso; simp at w1; exact hns w1.symm)
  · skip
    intro w0
    first | rfl | (exfalso; omega) | (exfalso; simp [hns] at w0; done) | (exfalso; simp at w0; exact hns w0.symm) | (exfalso; simp [hns] at w1; done) | (exfalso; simp at w1; exact hns w1.symm)
noncomputable def c47f : PCtr Tryd.prog := sctr ok47f (X := Nat × W × Room) (fun x => [I x.1, ls (lst x.2.1) x.2.2]) (fun x => (2 ≤ x.1 ∧ x.1 ≤ 4) ∧ (Fm (nP x.1 : Nat) (lst x.2.1) x.2.1 ∧ rok (lst x.2.1) x.2.2) ∧ ¬ cls (fix x.1 x.2.1) = x.2.1) (fun x => .tup [.bool false, I 0]) (by intro x y e _ _; simp [Int.natCast_inj] at e; simp [e]) (fun x => by simp [AV.bnds, AV.bnd, AV.wk, rm_wk_bnd]) (fun x => by first | rfl | (simp [AV.bnd, rm_wk_bnd]; done)  | (simp [AV.bnd, AV.bnds, rm_wk_bnd]; done) | simp [AV.bnd, AV.bnds, Room.bnd, rm_wk_bnd]) (fun x hx => ⟨_, _, _, .pure c95 (.pure c96 (.pure c74g (.pure c97 (.nil)))), r47f (x.1) (x.2.1) (x.2.2).wk (by first | exact hx | (simp only [rok_wk]; exact hx) | (simp only [rok_wk, lst_wk]; exact hx) | (simp only [rok_wk, lst_wk, lsn_wk]; exact hx))⟩)
theorem ok47b : FokM Tryd.prog none1 47 Tryd.f47 := ⟨mixed, by kernel_rfl, by kernel_rfl, by kernel_rfl, by kernel_rfl⟩
theorem r47b (m : Nat) (l : List Int) (r : Room) (hp : ((2 ≤ m ∧ m ≤ 4) ∧ lim l.length ∧ rok l r ∧ rng l) ∧ ¬ (∃ F, Fm (nP m : Nat) l F)) : Body ⟨Tryd.prog, Sof (P := Tryd.prog) [c95.to, c96.to, c74b.to], Pof (P := Tryd.prog) [], H.nil.base, 300⟩ none1 Tryd.f47 [I m, ls l r] .nil (.tup [.bool false, I 2], .nil) := by
  have hd := pd_t hp.1.1
  have p74 : (lim l.length ∧ rok l r ∧ rng l) ∧ ¬ ∃ F, Fm (nP m : Nat) l F := ⟨hp.1.2, hp.2⟩
  refine body_s ([Ans.o (Orc.val 9 (AV.bool true) (H.mk [] [] [])), Ans.o (Orc.val 13 (AV.sl (cells96 m) (nP m) Room.no) (H.mk [] [] [])), Ans.o (Orc.val 16 (AV.tup [AV.agg [I (↑(gR (↑(nP m) : Int) l) : Int), AV.int IntKind.u64 (↑(BitVec.toNat (gF (↑(nP m) : Int) l)) : Int)], AV.bool false]) (H.mk [] [] []))]) (aCall (Sof [c95.to, c96.to, c74b.to]) (AV.fn (Fn.func (95 : Nat)) [] []) [I (↑m : Int)] (H.mk [] [] []) = some (AV.bool true, H.mk [] [] []) ∧ aCall (Sof [c95.to, c96.to, c74b.to]) (AV.fn (Fn.func (96 : Nat)) [] []) [I (↑m : Int)] (H.mk [] [] []) = some (AV.sl (cells96 m) (nP m) Room.no, H.mk [] [] []) ∧ aCall (Sof [c95.to, c96.to, c74b.to]) (AV.fn (Fn.func (74 : Nat)) [] []) [I (↑(nP m) : Int), AV.sl (ints l) l.length r] (H.mk [] [] []) = some (AV.tup [AV.agg [I (↑(gR (↑(nP m) : Int) l) : Int), AV.int IntKind.u64 (↑(BitVec.toNat (gF (↑(nP m) : Int) l)) : Int)], AV.bool false], H.mk [] [] []) ∧ (AV.tup [AV.bool false, I 2], H.mk [] [] []) = (AV.tup [AV.bool false, I 2], H.mk [] [] [])) (by kernel_rfl) ?_
  refine ⟨acall_b (acall_hit (c := c95.to) (m : Int) _ rfl trivial) hd, ?_⟩
  refine ⟨acall_hit (c := c96.to) m _ rfl hp.1.1, ?_⟩
  refine ⟨acall_hit (c := c74b.to) ((nP m : Nat), l, r) _ rfl p74, ?_⟩
  first | rfl | (exfalso; omega)
noncomputable def c47b : PCtr Tryd.prog := sctr ok47b (X := Nat × List Int × Room) (fun x => [I x.1, ls x.2.1 x.2.2]) (fun x => ((2 ≤ x.1 ∧ x.1 ≤ 4) ∧ lim x.2.1.length ∧ rok x.2.1 x.2.2 ∧ rng x.2.1) ∧ ¬ (∃ F, Fm (nP x.1 : Nat) x.2.1 F)) (fun x => .tup [.bool false, I 2]) (by intro x y e _ _; simp [Int.natCast_inj] at e; simp [e]) (fun x => by simp [AV.bnds, AV.bnd, AV.wk, rm_wk_bnd]) (fun x => by first | rfl | (simp [AV.bnd, rm_wk_bnd]; done)  | (simp [AV.bnd, AV.bnds, rm_wk_bnd]; done) | simp [AV.bnd, AV.bnds, Room.bnd, rm_wk_bnd]) (fun x hx => ⟨_, _, _, .pure c95 (.pure c96 (.pure c74b (.nil))), r47b (x.1) (x.2.1) (x.2.2).wk (by first | exact hx | (simp only [rok_wk]; exact hx) | (simp only [rok_wk, lst_wk]; exact hx) | (simp only [rok_wk, lst_wk, lsn_wk]; exact hx))⟩)
theorem ok47m : FokM Tryd.prog none1 47 Tryd.f47 := ⟨mixed, by kernel_rfl, by kernel_rfl, by kernel_rfl, by kernel_rfl⟩
theorem r47m (m : Int) (l : List Int) (r : Room) (hp : ¬ (2 ≤ m ∧ m ≤ 4)) : Body ⟨Tryd.prog, Sof (P := Tryd.prog) [c95.to], Pof (P := Tryd.prog) [], H.nil.base, 300⟩ none1 Tryd.f47 [I m, ls l r] .nil (.tup [.bool false, I 2], .nil) := by
  have hd : decide (2 ≤ m ∧ m ≤ 4) = false := decide_eq_false hp
  refine body_s ([Ans.o (Orc.val 9 (AV.bool false) (H.mk [] [] []))]) (aCall (Sof [c95.to]) (AV.fn (Fn.func (95 : Nat)) [] []) [I m] (H.mk [] [] []) = some (AV.bool false, H.mk [] [] []) ∧ (AV.tup [AV.bool false, I 2], H.mk [] [] []) = (AV.tup [AV.bool false, I 2], H.mk [] [] [])) (by kernel_rfl) ?_
  refine ⟨acall_b (acall_hit (c := c95.to) m _ rfl trivial) hd, ?_⟩
  first | rfl | (exfalso; omega)
noncomputable def c47m : PCtr Tryd.prog := sctr ok47m (X := Int × List Int × Room) (fun x => [I x.1, ls x.2.1 x.2.2]) (fun x => ¬ (2 ≤ x.1 ∧ x.1 ≤ 4)) (fun x => .tup [.bool false, I 2]) (by intro x y e _ _; simp [Int.natCast_inj] at e; simp [e]) (fun x => by simp [AV.bnds, AV.bnd, AV.wk, rm_wk_bnd]) (fun x => by first | rfl | (simp [AV.bnd, rm_wk_bnd]; done)  | (simp [AV.bnd, AV.bnds, rm_wk_bnd]; done) | simp [AV.bnd, AV.bnds, Room.bnd, rm_wk_bnd]) (fun x hx => ⟨_, _, _, .pure c95 (.nil), r47m (x.1) (x.2.1) (x.2.2).wk (by first | exact hx | (simp only [rok_wk]; exact hx) | (simp only [rok_wk, lst_wk]; exact hx) | (simp only [rok_wk, lst_wk, lsn_wk]; exact hx))⟩)
end Go.Proofs.Evd

