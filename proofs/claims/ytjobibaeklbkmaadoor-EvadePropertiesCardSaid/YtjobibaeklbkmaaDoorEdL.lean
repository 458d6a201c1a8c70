/- Layer 8: Ask, Early, Sum. -/
import Derived.Test.YtjobibaeklbkmaaDoorEdK
import Derived.KernelRfl
set_option linter.unusedSimpArgs false
set_option linter.unusedVariables false
set_option linter.unnecessarySimpa false
set_option maxHeartbeats 4000000
set_option maxRecDepth 100000
namespace Go.Proofs.Evd
open Go Go.VM
open Go.Proofs.Sur (W w_wrap w_nat w_inj w_eq0 w_and w_or w_andn w_shl w_shr neg_nat sub_nat tz tz_ok cl bits_cons bits_0 bits_len andn andn_bit andn_le i_wrap i_and i_or i_andn i_shl i_shr bit_01)

/-! ### reading, as contracts -/
noncomputable def c74g : PCtr Tryd.prog where
  f := 74
  X := Int × W × Room
  args x := [I x.1, ls (lst x.2.1) x.2.2]
  pre x := Fm x.1 (lst x.2.1) x.2.1 ∧ rok (lst x.2.1) x.2.2
  v x := .tup [fA (2 ^ x.1.toNat - 1) x.2.1, .bool true]
  det := by
    rintro ⟨n, F, r⟩ ⟨n', F', r'⟩ e _ _
    simp at e
    simp [e]
  ok := by
    rintro ⟨n, F, r⟩ ⟨h, hr⟩
    refine ⟨okL74.call, fun H => ?_⟩
    exact (pure_call (read_ok n F r.wk (by simpa using hr) h) (by simp [AV.bnds, AV.bnd, rm_wk_bnd]) (by simp [AV.bnd, AV.bnds]) H).wk (args := [I n, ls (lst F) r])
noncomputable def c74b : PCtr Tryd.prog where
  f := 74
  X := Int × List Int × Room
  args x := [I x.1, ls x.2.1 x.2.2]
  pre x := (lim x.2.1.length ∧ rok x.2.1 x.2.2 ∧ rng x.2.1) ∧ ¬ ∃ F, Fm x.1 x.2.1 F
  v x := .tup [fA (gR x.1 x.2.1) (gF x.1 x.2.1), .bool false]
  det := by
    rintro ⟨n, F, r⟩ ⟨n', F', r'⟩ e _ _
    simp at e
    simp only [e.1, e.2.1]
  ok := by
    rintro ⟨n, l, r⟩ ⟨⟨h1, h2, h3⟩, h⟩
    refine ⟨okL74.call, fun H => ?_⟩
    exact (pure_call (read_no n l r.wk ⟨h1, by simpa using h2, h3⟩ h) (by simp [AV.bnds, AV.bnd, rm_wk_bnd]) (by simp [AV.bnd, AV.bnds]) H).wk (args := [I n, ls l r])
/-! ### Ask -/
theorem ok75 : FokM Tryd.prog none1 75 Tryd.f75 := ⟨mixed, by kernel_rfl, by kernel_rfl, by kernel_rfl, by kernel_rfl⟩
theorem r75 (r : Nat) (F : W) : Body (En6 []) none1 Tryd.f75 [fA r F] .nil (asA r F, ⟨[], [], [enc []]⟩) := by
  refine body_s ([]) ((AV.agg [I (↑r : Int), u64A F, AV.map (0 : Nat)], H.mk [] [] [[]]) = (AV.agg [I (↑r : Int), u64A F, AV.map (0 : Nat)], H.mk [] [] [[]])) (by kernel_rfl) ?_
  rfl
noncomputable def c75 (M0 : Mem) (hM : M0 = []) : Ctr Tryd.prog where
  f := 75
  X := Nat × W
  args x := [fA x.1 x.2]
  pre _ h := h.maps = []
  res x h := (asA x.1 x.2, ⟨h.blk, h.toks, [enc M0]⟩)
  det := by
    rintro ⟨r, F⟩ ⟨r', F'⟩ h e _ _
    simp at e
    obtain ⟨h1, h2⟩ := e
    have h1 : r = r' := by omega
    subst h1; subst h2; rfl
  ok := by
    rintro ⟨r, F⟩ ⟨bs, ts, ms⟩ hm
    simp only at hm
    subst hm; subst hM
    refine ⟨ok75.call, ?_⟩
    have := frame_call ((r75 r F).run ok75 .nil rfl) (by simp [AV.bnds, AV.bnd]) ⟨bs, ts, []⟩
    simpa [AV.shift, AV.shifts] using this
noncomputable def c76a (m : Nat) : Ctr Tryd.prog := c76 m (ok76_all m)
abbrev m30 : FuncId → Bool := fun i => i == 75 || i == 76
theorem ok30 : FokM Tryd.prog m30 30 Tryd.f30 := ⟨mixed, by kernel_rfl, by kernel_rfl, by kernel_rfl, by kernel_rfl⟩
/-- the least length of a plan -/
def askV (n : Int) (F : W) : Nat := ask (2 ^ n.toNat - 1) F
theorem full_lt {n : Int} {l : List Int} {F : W} (h : Fm n l F) : 2 ^ n.toNat - 1 < 64 := by
  have := p64 (n := n.toNat) (by have := h.n6; have := h.n1; omega)
  have := Nat.two_pow_pos n.toNat
  omega
theorem r30g (M0 : Mem) (hM : M0 = []) (n : Int) (F : W) (r : Room) (h : Fm n (lst F) F) (hr : rok (lst F) r) : Body (En6 [c74g.to, c75 M0 hM, c76a (pc (2 ^ n.toNat - 1))]) m30 Tryd.f30 [I n, ls (lst F) r] .nil (.tup [I (askV n F), I 0], .nil) := by
  have p74 : Fm n (lst F) F ∧ rok (lst F) r := ⟨h, hr⟩
  have h64 := full_lt h
  have hs : Snd M0 := hM ▸ snd_nil
  refine body_s ([Ans.o (Orc.val 11 (AV.tup [AV.agg [I (↑((2 : Nat) ^ n.toNat - (1 : Nat)) : Int), u64A F], AV.bool true]) (H.mk [] [] [])), Ans.o (Orc.val 17 (AV.agg [I (↑((2 : Nat) ^ n.toNat - (1 : Nat)) : Int), u64A F, AV.map (0 : Nat)]) (H.mk [[I (↑((2 : Nat) ^ n.toNat - (1 : Nat)) : Int), u64A F]] [] [enc M0])), Ans.o (Orc.val 18 (I (↑(ask ((2 : Nat) ^ n.toNat - (1 : Nat)) F) : Int)) (H.mk [[I (↑((2 : Nat) ^ n.toNat - (1 : Nat)) : Int), u64A F]] [] [enc (needM (pc ((2 : Nat) ^ n.toNat - (1 : Nat))) ((2 : Nat) ^ n.toNat - (1 : Nat)) F M0).snd]))]) (aCall (Sof [c74g.to, c75 M0 hM, c76a (pc ((2 : Nat) ^ n.toNat - (1 : Nat)))]) (AV.fn (Fn.func (74 : Nat)) [] []) [I n, AV.sl (ints (lst F)) (lst F).length r] (H.mk [] [] []) = some (AV.tup [AV.agg [I (↑((2 : Nat) ^ n.toNat - (1 : Nat)) : Int), u64A F], AV.bool true], H.mk [] [] []) ∧ aCall (Sof [c74g.to, c75 M0 hM, c76a (pc ((2 : Nat) ^ n.toNat - (1 : Nat)))]) (AV.fn (Fn.func (75 : Nat)) [] []) [AV.agg [I (↑((2 : Nat) ^ n.toNat - (1 : Nat)) : Int), u64A F]] (H.mk [[I (↑((2 : Nat) ^ n.toNat - (1 : Nat)) : Int), u64A F]] [] []) = some (AV.agg [I (↑((2 : Nat) ^ n.toNat - (1 : Nat)) : Int), u64A F, AV.map (0 : Nat)], H.mk [[I (↑((2 : Nat) ^ n.toNat - (1 : Nat)) : Int), u64A F]] [] [enc M0]) ∧ aCall (Sof [c74g.to, c75 M0 hM, c76a (pc ((2 : Nat) ^ n.toNat - (1 : Nat)))]) (AV.fn (Fn.func (76 : Nat)) [] []) [AV.agg [I (↑((2 : Nat) ^ n.toNat - (1 : Nat)) : Int), u64A F, AV.map (0 : Nat)]] (H.mk [[I (↑((2 : Nat) ^ n.toNat - (1 : Nat)) : Int), u64A F]] [] [enc M0]) = some (I (↑(ask ((2 : Nat) ^ n.toNat - (1 : Nat)) F) : Int), H.mk [[I (↑((2 : Nat) ^ n.toNat - (1 : Nat)) : Int), u64A F]] [] [enc (needM (pc ((2 : Nat) ^ n.toNat - (1 : Nat))) ((2 : Nat) ^ n.toNat - (1 : Nat)) F M0).snd]) ∧ (AV.tup [I (↑(ask ((2 : Nat) ^ n.toNat - (1 : Nat)) F) : Int), I 0], H.mk [] [] []) = (AV.tup [I (↑(askV n F) : Int), I 0], H.mk [] [] [])) (by kernel_rfl) ?_
  refine ⟨acall_hit (c := c74g.to) (n, F, r) _ rfl p74, ?_⟩
  refine ⟨acall_hit (c := c75 M0 hM) (2 ^ n.toNat - 1, F) _ rfl rfl, ?_⟩
  refine ⟨acall_hit (c := c76a (pc (2 ^ n.toNat - 1))) (2 ^ n.toNat - 1, F, M0) _ rfl ⟨⟨h64, rfl, hs⟩, rfl⟩, ?_⟩
  rfl
noncomputable def c30g : PCtr Tryd.prog := sctr ok30 (X := Int × W × Room) (fun x => [I x.1, ls (lst x.2.1) x.2.2]) (fun x => Fm x.1 (lst x.2.1) x.2.1 ∧ rok (lst x.2.1) x.2.2) (fun x => .tup [I (askV x.1 x.2.1), I 0])
  (by rintro ⟨a, b, c⟩ ⟨a', b', c'⟩ e _ _; simp at e; simp only [e.1, e.2.1]) (fun x => by simp [AV.bnds, AV.bnd, AV.wk, rm_wk_bnd]) (fun _ => rfl) (fun x hx => ⟨_, _, _, .pure c74g (.eff _ rfl (.eff _ rfl .nil)), r30g [] rfl x.1 x.2.1 x.2.2.wk hx.1 (by simpa using hx.2)⟩)
/-! ### every correct program passes it -/
theorem fm_one : Fm 2 (lst 1#64) 1#64 := by
  refine ⟨by decide, by decide, fun s h => ?_, cls_fix.1 (by decide), rfl⟩
  have hl := hs_lt h
  have t : ∀ s, s < 64 → (1#64 : W).getLsbD s = true → s < 4 := by decide
  exact t s hl h
theorem lst_one : lst 1#64 = [0] := by decide
theorem ask_one : askV 2 1#64 = 2 := by decide +kernel
noncomputable def c30a : PCtr Tryd.prog := at1 c30g (2, 1#64, .full) ⟨fm_one, fun _ => by simp⟩ [I 2, .sl [I 0] 1 .full] (.tup [I 2, I 0]) (by show [I 2, ls (lst 1#64) .full] = _; rw [lst_one]; rfl) (by show AV.tup [I (askV 2 1#64), I 0] = _; rw [ask_one]; rfl)
theorem ok26 : FokM Tryd.prog none1 26 Tryd.f26 := ⟨mixed, by kernel_rfl, by kernel_rfl, by kernel_rfl, by kernel_rfl⟩
theorem r26 : Body (En6 [c30a.to]) none1 Tryd.f26 [] .nil (.bool true, .nil) := by
  refine body_s ([Ans.o (Orc.val 5 (AV.tup [I 2, I 0]) (H.mk [] [] [])), Ans.o Orc.dflt, Ans.o Orc.dflt]) (aCall (Sof [c30a.to]) (AV.fn (Fn.func (30 : Nat)) [] []) [I 2, AV.sl [I 0] (1 : Nat) Room.full] (H.mk [] [] []) = some (AV.tup [I 2, I 0], H.mk [] [] []) ∧ (AV.bool true, H.mk [] [] []) = (AV.bool true, H.mk [] [] [])) (by kernel_rfl) ?_
  refine ⟨acall_hit (c := c30a.to) () _ rfl trivial, ?_⟩
  first | with_reducible rfl | (refine bleaf_t ?_; omega) | (refine bleaf_f ?_; omega) | (refine ileaf ?_; omega) | rfl | (exfalso; omega)
noncomputable def c26 : PCtr Tryd.prog := sctr ok26 (X := Unit) (fun _ => []) (fun _ => True) (fun _ => .bool true) (by intro x y e _ _; rfl) (fun x => rfl) (fun x => rfl) (fun x hx => ⟨_, _, _, .pure _ .nil, r26⟩)
end Go.Proofs.Evd

