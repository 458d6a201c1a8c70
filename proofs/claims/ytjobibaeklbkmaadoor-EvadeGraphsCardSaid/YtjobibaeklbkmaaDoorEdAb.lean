/- Layer 8: parts. -/
import Derived.Test.YtjobibaeklbkmaaDoorEdAa
import Derived.KernelRfl
set_option linter.unusedSimpArgs false
set_option linter.unusedVariables false
set_option linter.unnecessarySimpa false
set_option maxHeartbeats 4000000
set_option maxRecDepth 100000
namespace Go.Proofs.Evd
open Go Go.VM
open Go.Proofs.Sur (W w_wrap w_nat w_inj w_eq0 w_and w_or w_andn w_shl w_shr neg_nat sub_nat tz tz_ok cl bits_cons bits_0 bits_len andn andn_bit andn_le i_wrap i_and i_or i_andn i_shl i_shr bit_01)

/-! ### Close -/
noncomputable def c65b : PCtr Tryd.prog := sctr ok65 (X := Int × List Int × Room) (fun x => [I x.1, ls x.2.1 x.2.2]) (fun x => (lim x.2.1.length ∧ rok x.2.1 x.2.2 ∧ rng x.2.1) ∧ ¬ okS x.1 x.2.1) (fun _ => .tup [fA 0 0#64, .bool false])
  (by intro x y e _ _; rfl) (fun x => by simp [AV.bnds, AV.bnd, AV.wk, rm_wk_bnd]) (fun _ => rfl) (fun x hx => ⟨_, _, _, .pure c111 (.pure c86i .nil), r65b x.1 x.2.1 x.2.2.wk (by simpa using hx.1.2.1) hx.1.2.2 hx.1.1 hx.2⟩)
noncomputable def c65g : PCtr Tryd.prog := sctr ok65 (X := Nat × List Int × Room) (fun x => [I x.1, ls x.2.1 x.2.2]) (fun x => (rok x.2.1 x.2.2 ∧ rng x.2.1) ∧ okS x.1 x.2.1) (fun x => .tup [fA (2 ^ x.1 - 1) (fm (nl x.2.1)), .bool true])
  (by
    rintro ⟨n, l, r⟩ ⟨n', l', r'⟩ e _ _
    simp at e
    obtain ⟨h1, h2, _⟩ := e
    have h1 : n = n' := by omega
    subst h1; subst h2; rfl) (fun x => by simp [AV.bnds, AV.bnd, AV.wk, rm_wk_bnd]) (fun _ => rfl) (fun x hx => ⟨_, _, _, .pure c111 (.pure c86i .nil), r65g x.1 x.2.1 x.2.2.wk (by simpa using hx.1.1) hx.1.2 hx.2.1 hx.2.2.1 (by have := hx.2.2.2; simpa using this)⟩)
theorem ok17g : FokM Tryd.prog none1 17 Tryd.f17 := ⟨mixed, by kernel_rfl, by kernel_rfl, by kernel_rfl, by kernel_rfl⟩
theorem r17g (n : Nat) (l : List Int) (r : Room) (hp : (rok l r ∧ rng l) ∧ okS n l) : Body ⟨Tryd.prog, Sof (P := Tryd.prog) [c65g.to, c66.to, c67.to], Pof (P := Tryd.prog) [], H.nil.base, 300⟩ none1 Tryd.f17 [I n, ls l r] .nil (.tup [ls (lst (cls (fm (nl l)))) (rn (lst (cls (fm (nl l))))), I 0], .nil) := by
  have h64 : 2 ^ n - 1 < 64 := by
    have := p64 (n := n) (by have := hp.2.1; omega)
    have := Nat.two_pow_pos n
    omega
  refine body_s ([Ans.o (Orc.val 11 (AV.tup [AV.agg [I (↑((2 : Nat) ^ n - (1 : Nat)) : Int), AV.int IntKind.u64 (↑(BitVec.toNat (fm (nl l))) : Int)], AV.bool true]) (H.mk [] [] [])), Ans.o (Orc.val 17 (AV.agg [I (↑((2 : Nat) ^ n - (1 : Nat)) : Int), AV.int IntKind.u64 (↑(BitVec.toNat (cls (fm (nl l)))) : Int)]) (H.mk [[I (↑((2 : Nat) ^ n - (1 : Nat)) : Int), AV.int IntKind.u64 (↑(BitVec.toNat (fm (nl l))) : Int)]] [] [])), Ans.o (Orc.val 18 (AV.sl (ints (lst (cls (fm (nl l))))) (lst (cls (fm (nl l)))).length (rn (lst (cls (fm (nl l)))))) (H.mk [[I (↑((2 : Nat) ^ n - (1 : Nat)) : Int), AV.int IntKind.u64 (↑(BitVec.toNat (fm (nl l))) : Int)]] [] []))]) (aCall (Sof [c65g.to, c66.to, c67.to]) (AV.fn (Fn.func (65 : Nat)) [] []) [I (↑n : Int), AV.sl (ints l) l.length r] (H.mk [] [] []) = some (AV.tup [AV.agg [I (↑((2 : Nat) ^ n - (1 : Nat)) : Int), AV.int IntKind.u64 (↑(BitVec.toNat (fm (nl l))) : Int)], AV.bool true], H.mk [] [] []) ∧ aCall (Sof [c65g.to, c66.to, c67.to]) (AV.fn (Fn.func (66 : Nat)) [] []) [AV.agg [I (↑((2 : Nat) ^ n - (1 : Nat)) : Int), AV.int IntKind.u64 (↑(BitVec.toNat (fm (nl l))) : Int)]] (H.mk [[I (↑((2 : Nat) ^ n - (1 : Nat)) : Int), AV.int IntKind.u64 (↑(BitVec.toNat (fm (nl l))) : Int)]] [] []) = some (AV.agg [I (↑((2 : Nat) ^ n - (1 : Nat)) : Int), AV.int IntKind.u64 (↑(BitVec.toNat (cls (fm (nl l)))) : Int)], H.mk [[I (↑((2 : Nat) ^ n - (1 : Nat)) : Int), AV.int IntKind.u64 (↑(BitVec.toNat (fm (nl l))) : Int)]] [] []) ∧ aCall (Sof [c65g.to, c66.to, c67.to]) (AV.fn (Fn.func (67 : Nat)) [] []) [AV.agg [I (↑((2 : Nat) ^ n - (1 : Nat)) : Int), AV.int IntKind.u64 (↑(BitVec.toNat (cls (fm (nl l)))) : Int)]] (H.mk [[I (↑((2 : Nat) ^ n - (1 : Nat)) : Int), AV.int IntKind.u64 (↑(BitVec.toNat (fm (nl l))) : Int)]] [] []) = some (AV.sl (ints (lst (cls (fm (nl l))))) (lst (cls (fm (nl l)))).length (rn (lst (cls (fm (nl l))))), H.mk [[I (↑((2 : Nat) ^ n - (1 : Nat)) : Int), AV.int IntKind.u64 (↑(BitVec.toNat (fm (nl l))) : Int)]] [] []) ∧ leave (Base.mk H.nil.blk.length H.nil.toks.length H.nil.maps.length) (AV.tup [AV.sl (ints (lst (cls (fm (nl l))))) (lst (cls (fm (nl l)))).length (rn (lst (cls (fm (nl l))))), I 0]) (H.mk [[I (↑((2 : Nat) ^ n - (1 : Nat)) : Int), AV.int IntKind.u64 (↑(BitVec.toNat (fm (nl l))) : Int)]] [] []) = (AV.tup [AV.sl (ints (lst (cls (fm (nl l))))) (lst (cls (fm (nl l)))).length (rn (lst (cls (fm (nl l))))), I 0], H.mk [] [] [])) (by kernel_rfl) ?_
  refine ⟨acall_hit (c := c65g.to) (n, l, r) _ rfl hp, ?_⟩
  refine ⟨acall_hit (c := c66.to) (2 ^ n - 1, fm (nl l)) _ rfl h64, ?_⟩
  refine ⟨acall_hit (c := c67.to) (2 ^ n - 1, cls (fm (nl l))) _ rfl trivial, ?_⟩
  first | rfl | exact leave_bs _ (by simp [AV.bnd, AV.bnds, rm_wk_bnd])
noncomputable def c17g : PCtr Tryd.prog := sctr ok17g (X := Nat × List Int × Room) (fun x => [I x.1, ls x.2.1 x.2.2]) (fun x => (rok x.2.1 x.2.2 ∧ rng x.2.1) ∧ okS x.1 x.2.1) (fun x => .tup [ls (lst (cls (fm (nl x.2.1)))) (rn (lst (cls (fm (nl x.2.1))))), I 0]) (by intro x y e _ _; simp [Int.natCast_inj] at e; simp [e]) (fun x => by simp [AV.bnds, AV.bnd, AV.wk, rm_wk_bnd]) (fun x => by first | rfl | (simp [AV.bnd, rm_wk_bnd]; done)  | (simp [AV.bnd, AV.bnds, rm_wk_bnd]; done) | simp [AV.bnd, AV.bnds, Room.bnd, rm_wk_bnd]) (fun x hx => ⟨_, _, _, .pure c65g (.pure c66 (.pure c67 (.nil))), r17g (x.1) (x.2.1) (x.2.2).wk (by first | exact hx | (simp only [rok_wk]; exact hx) | (simp only [rok_wk, lst_wk]; exact hx) | (simp only [rok_wk, lst_wk, lsn_wk]; exact hx))⟩)
/-! ### Link and Without -/
end Go.Proofs.Evd

