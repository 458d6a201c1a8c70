/- Layer 2: the program's search for a round is the reference's. -/
import Derived.Test.YtnnhomkkggkkfaaDoorRkDc
import Derived.Test.YtnnhomkkggkkfaaDoorRkT
import Derived.KernelRfl
set_option linter.unusedSimpArgs false
set_option linter.unusedVariables false
set_option linter.unnecessarySimpa false
set_option maxHeartbeats 4000000
set_option maxRecDepth 100000
namespace Go.Proofs.Rnk
open Go Go.VM
open Go.Proofs.Sur (andn andn_bit andn_le i_wrap i_and i_or i_xor i_andn i_shl i_shr bit_01)
theorem exW_go {t b : List Int} {f fr : Nat} : exW t b (f + 1) fr = fRw (sn t) t.length true f b (metF t fr) t.length := wyM_go
theorem exW_next {t b : List Int} {f fr i : Nat} (h8 : t.length ≤ 8) (hf : fr < 256) (hi : i < t.length) : wyM (sn t) t.length true f (b ++ [(i : Int)]) (metF t fr ||| 2 ^ i) = exW t (b ++ [(i : Int)]) f (andn fr (2 ^ i)) := by
  rw [exW, met_next h8 hf hi]
theorem ExP.allNoW {t b : List Int} {f k fr nx : Nat} (h : ExP t b (f + 1) k fr nx) (hno : ∀ j, j < pc nx → exW t (b ++ [((el nx j : Nat) : Int)]) f (andn fr (2 ^ el nx j)) = none) : exW t b (f + 1) fr = none := by
  rw [exW_go]
  refine fRw_none _ fun i hi hf => ?_
  rw [h.fol hi] at hf
  have h8 := h.w.h.s.2
  obtain ⟨j, h1, h2⟩ := el_of (show i < 8 by omega) hf
  rw [exW_next h8 h.f8 hi, ← h2]
  exact hno j h1
theorem ExP.firstYesW {t b : List Int} {f k fr nx j0 : Nat} {l : List Int} (h : ExP t b (f + 1) k fr nx) (h0 : j0 < pc nx) (hno : ∀ j, j < j0 → exW t (b ++ [((el nx j : Nat) : Int)]) f (andn fr (2 ^ el nx j)) = none) (hyes : exW t (b ++ [((el nx j0 : Nat) : Int)]) f (andn fr (2 ^ el nx j0)) = some l) : exW t b (f + 1) fr = some l := by
  rw [exW_go]
  have h8 := h.w.h.s.2
  have hp := h.pl h0
  refine fRw_at (p := el nx j0) (fun i hi hf => ?_) (by rw [h.fol hp.2.2.1]; exact hp.1) (by rw [exW_next h8 h.f8 hp.2.2.1]; exact hyes) hp.2.2.1
  have hin : i < t.length := by have := hp.2.2.1; omega
  rw [h.fol hin] at hf
  obtain ⟨j, h1, h2⟩ := el_of (show i < 8 by omega) hf
  rw [exW_next h8 h.f8 hin, ← h2]
  refine hno j (Nat.lt_of_not_le fun q => ?_)
  have := els_mono q h1
  omega
theorem bnds_ls1 (t : List Int) : AV.bnds 1 0 0 [ls t .no] = true := by
  have hb : AV.bnds 1 0 0 (ints t) = true := enc_bnds ints_c1 t 1 0 0
  simp [AV.bnds, AV.bnd, Room.bnd, hb]
theorem k67g (x : c67.X) (h : c67.pre x) : callable Tryd.prog 67 = true ∧ ∀ h, CallOk Tryd.prog 67 (c67.args x) h (c67.v x) h := c67.ok x h
abbrev hT (t : List Int) : H := ⟨[[ls t .no]], [], []⟩
theorem hT_closed (t : List Int) : (hT t).closed := ⟨rfl, rfl, fun cs hcs => by simp only [List.mem_singleton] at hcs; subst hcs; exact bnds_ls1 t⟩
section
attribute [local instance] wrI
noncomputable def d67g : PCtr Tryd.prog where
  f := 67
  X := List Int × Room × Nat × Nat
  args x := [ls x.1 x.2.1, I x.2.2.1, I x.2.2.2]
  pre x := (rok x.1 x.2.1 ∧ x.2.2.1 < x.1.length) ∧ x.2.2.2 ≤ 64 ∧ s8 (ia x.1 x.2.2.1)
  v x := .bool (bi (ia x.1 x.2.2.1) x.2.2.2)
  det := by
    rintro ⟨t, r, p, q⟩ ⟨t', r', p', q'⟩ e _ _
    simp only [List.cons.injEq, AV.sl.injEq, AV.int.injEq, and_true] at e
    obtain ⟨⟨e1, -⟩, e2, e3⟩ := e
    have e1 := ints_inj e1
    have e2 : p = p' := by omega
    have e3 : q = q' := by omega
    subst e1 e2 e3; rfl
  ok x hx := ⟨(k67g x hx).1, fun h => CallOk.up (fun _ => rfl) ((k67g x hx).2 h)⟩
noncomputable abbrev EnT (cs : List (Ctr Tryd.prog)) (t : List Int) : Env := ⟨Tryd.prog, Sof (P := Tryd.prog) cs, Pof (P := Tryd.prog) [], (hT t).base, 300⟩
theorem ok66 : FokM Tryd.prog none1 66 Tryd.f66 := ⟨mixed, by kernel_rfl, by kernel_rfl, by kernel_rfl, by kernel_rfl⟩
theorem r66 (t : List Int) (p q : Nat) (h : Tn t) (hp : p < t.length) (hq : q < t.length) : Body (EnT [d67g.to] t) none1 Tryd.f66 [I p, I q, .ptr 0 0] (hT t) (.bool (bi (ia t q) p), hT t) := by
  have p67 : (rok t .no ∧ q < t.length) ∧ p ≤ 64 ∧ s8 (ia t q) := ⟨⟨fun _ => no_ne, hq⟩, by have := h.s.2; omega, h.s8 q⟩
  refine body_s ([Ans.vfork (9 : Nat) (bi (ia t q) p) (H.mk [[ls t Room.no]] [] []) [] []]) (aCall (Sof [d67g.to]) (AV.fn (Fn.func 67) [] []) [ls t Room.no, I (↑q : Int), I (↑p : Int)] (H.mk [[ls t Room.no]] [] []) = some (AV.bool (bi (ia t q) p), H.mk [[ls t Room.no]] [] []) ∧ (bi (ia t q) p = true → (AV.bool true, H.mk [[ls t Room.no]] [] []) = (AV.bool (bi (ia t q) p), H.mk [[ls t Room.no]] [] [])) ∧ (bi (ia t q) p = false → (AV.bool false, H.mk [[ls t Room.no]] [] []) = (AV.bool (bi (ia t q) p), H.mk [[ls t Room.no]] [] []))) (by kernel_rfl) ?_
  refine ⟨acall_hit (c := d67g.to) (t, .no, q, p) _ rfl p67, ?_⟩
  refine And.intro ?_ ?_
  · skip
    intro w0
    rw [w0]
  · skip
    intro w0
    rw [w0]
noncomputable def c66w (t : List Int) : Ctr Tryd.prog :=
  fctr ok66 (hT t) (X := Nat × Nat) (fun x => [I x.1, I x.2, .ptr 0 0]) (fun x => Tn t ∧ x.1 < t.length ∧ x.2 < t.length) (fun x => .bool (bi (ia t x.2) x.1))
    (by rintro ⟨a, b⟩ ⟨a', b'⟩ e _ _; simp [Int.natCast_inj] at e; obtain ⟨rfl, rfl⟩ := e; rfl) (hT_closed t) (fun _ _ => rfl) (fun _ _ => rfl) (fun x hx => ⟨_, _, _, .pure d67g .nil, r66 t x.1 x.2 hx.1 hx.2.1 hx.2.2⟩)
theorem c66w_reads (t : List Int) : (c66w t).Reads := fctr_reads ..
theorem acall_hit2w {P : Program} {c : Ctr P} {cs : List (Ctr P)} (x : c.X) {h : H} {us cap : List AV} (he : Ctr.first c.f cs = some c) (ha : us ++ cap = c.args x) (hp : c.pre x h) : aCall (Sof cs) (.fn (.func c.f) [] cap) us h = some (c.res x h) := by
  simp only [aCall, List.nil_append]
  rw [ha]
  exact sof_hit c cs he x h hp
theorem hit66 {t b : List Int} {f k m : Nat} {H : H} (h : WyP t b .no f k m) (hb : b ≠ []) (hz : ∃ zs, H.blk = [ls t .no] :: zs) {v : Bool} (hv : (sn t (lastN b)).testBit (frsN b) = v) :
    aCall (Sof [c66w t]) (.fn (.func 66) [] [.ptr 0 0]) [I (b.getD 0 i0), I (b.getD (b.length - 1) i0)] H = some (.bool v, H) := by
  have hl : 0 < b.length := List.length_pos_iff.2 hb
  obtain ⟨a1, a2⟩ := h.i 0 hl
  obtain ⟨b1, b2⟩ := h.i (b.length - 1) (by omega)
  have e1 : b.getD 0 i0 = ((frsN b : Nat) : Int) := by simp only [frsN]; omega
  have e2 : b.getD (b.length - 1) i0 = ((lastN b : Nat) : Int) := by simp only [lastN]; omega
  rw [e1, e2]
  subst hv
  exact acall_hit2w (c := c66w t) (cs := [c66w t]) (frsN b, lastN b) rfl rfl ⟨⟨h.h, by show frsN b < _; omega, by show lastN b < _; omega⟩, hz⟩
theorem r94zt (t : List Int) (k : Nat) (b : List Int) (fr nx : Nat) (hk : k = b.length) (h : ExP t b 0 k fr nx) (hv : (sn t (lastN b)).testBit (frsN b) = true) : BodyO (EnO [c66w t]) M94 Tryd.f94 [I fr, I nx, .ptr 4 0, .ptr 2 0, .ptr 3 0, .ptr 5 0, .ptr 1 0] ⟨bEw t k b, [], []⟩ (.bool true, ⟨bEw t k b ++ [[I fr], [.bool true]], [], []⟩) := by
  subst hk
  have hb : 0 < b.length := List.length_pos_iff.2 h.ne
  have h8 := h.w.k8
  have c0 : (b.length : Int) = (b.length : Int) := rfl
  have ev0 : IntKind.i64.wrap ((b.length : Int) - 1) = ((b.length - 1 : Nat) : Int) := by rw [wr _ (by omega) (by omega)]; omega
  have k1 : b.length - 1 < b.length := by omega
  have hc := hit66 (H := ⟨bEw t b.length b ++ [[I fr], [.bool false]], [], []⟩) h.w h.ne ⟨_, rfl⟩ hv
  refine bodyO_s ([Ans.o (Orc.b true), Ans.o (Orc.val 18 (AV.ptr 6 0) H.nil), Ans.o (Orc.val 19 (I (b.getD (0 : Nat) i0)) H.nil), Ans.o (Orc.val 22 (I (↑(b.length - (1 : Nat)) : Int)) H.nil), Ans.o (Orc.val 23 (AV.ptr 6 (b.length - (1 : Nat))) H.nil), Ans.o (Orc.val 24 (I (b.getD (b.length - (1 : Nat)) i0)) H.nil), Ans.o (Orc.val 25 (AV.bool true) (H.mk [[ls t Room.no], [ls t Room.no], [I (↑b.length : Int)], [AV.fn (Fn.func (66 : FuncId)) [] [AV.ptr 0 0]], [AV.msl 6 0 b.length (9223372036854775808 : Nat) (1 : Nat)], [AV.fn (Fn.func (94 : FuncId)) [] [AV.ptr 4 0, AV.ptr 2 0, AV.ptr 3 0, AV.ptr 5 0, AV.ptr 1 0]], ints b, [I (↑fr : Int)], [AV.bool false]] [] []))]) ((↑b.length : Int) = (↑b.length : Int) ∧ aIndexAddr Tryd.prog 22 (AV.msl 6 0 b.length (9223372036854775808 : Nat) (1 : Nat)) (I 0) = some (AV.ptr 6 0) ∧ aLoad Tryd.prog 3 (List.drop (0 : Nat) (ints b)) = some (I (b.getD (0 : Nat) i0)) ∧ aBin Tryd.prog BinOp.sub (3 : Nat) (I (↑b.length : Int)) (I 1) = some (I (↑(b.length - (1 : Nat)) : Int)) ∧ aIndexAddr Tryd.prog 22 (AV.msl 6 0 b.length (9223372036854775808 : Nat) (1 : Nat)) (I (↑(b.length - (1 : Nat)) : Int)) = some (AV.ptr 6 (b.length - (1 : Nat))) ∧ aLoad Tryd.prog 3 (List.drop (b.length - (1 : Nat)) (ints b)) = some (I (b.getD (b.length - (1 : Nat)) i0)) ∧ aCall (Sof [c66w t]) (AV.fn (Fn.func (66 : FuncId)) [] [AV.ptr 0 0]) [I (b.getD (0 : Nat) i0), I (b.getD (b.length - (1 : Nat)) i0)] (H.mk [[ls t Room.no], [ls t Room.no], [I (↑b.length : Int)], [AV.fn (Fn.func (66 : FuncId)) [] [AV.ptr 0 0]], [AV.msl 6 0 b.length (9223372036854775808 : Nat) (1 : Nat)], [AV.fn (Fn.func (94 : FuncId)) [] [AV.ptr 4 0, AV.ptr 2 0, AV.ptr 3 0, AV.ptr 5 0, AV.ptr 1 0]], ints b, [I (↑fr : Int)], [AV.bool false]] [] []) = some (AV.bool true, H.mk [[ls t Room.no], [ls t Room.no], [I (↑b.length : Int)], [AV.fn (Fn.func (66 : FuncId)) [] [AV.ptr 0 0]], [AV.msl 6 0 b.length (9223372036854775808 : Nat) (1 : Nat)], [AV.fn (Fn.func (94 : FuncId)) [] [AV.ptr 4 0, AV.ptr 2 0, AV.ptr 3 0, AV.ptr 5 0, AV.ptr 1 0]], ints b, [I (↑fr : Int)], [AV.bool false]] [] []) ∧ (AV.bool true, H.mk [[ls t Room.no], [ls t Room.no], [I (↑b.length : Int)], [AV.fn (Fn.func (66 : FuncId)) [] [AV.ptr 0 0]], [AV.msl 6 0 b.length (9223372036854775808 : Nat) (1 : Nat)], [AV.fn (Fn.func (94 : FuncId)) [] [AV.ptr 4 0, AV.ptr 2 0, AV.ptr 3 0, AV.ptr 5 0, AV.ptr 1 0]], ints b, [I (↑fr : Int)], [AV.bool true]] [] []) = (AV.bool true, H.mk [[ls t Room.no], [ls t Room.no], [I (↑b.length : Int)], [AV.fn (Fn.func (66 : FuncId)) [] [AV.ptr 0 0]], [AV.msl 6 0 b.length (9223372036854775808 : Nat) (1 : Nat)], [AV.fn (Fn.func (94 : FuncId)) [] [AV.ptr 4 0, AV.ptr 2 0, AV.ptr 3 0, AV.ptr 5 0, AV.ptr 1 0]], ints b, [I (↑fr : Int)], [AV.bool true]] [] [])) (by kernel_rfl) ?_
  refine ⟨by first | with_reducible assumption | omega | assumption, ?_⟩
  refine ⟨by first | exact ixm0 (by kernel_rfl) k1 | exact ixm0 (by kernel_rfl) hb, ?_⟩
  refine ⟨by first | exact ldm_ints (by kernel_rfl) (by kernel_rfl) k1 | exact ldm_ints (by kernel_rfl) (by kernel_rfl) hb, ?_⟩
  refine ⟨told_sub (by with_reducible assumption), ?_⟩
  refine ⟨by first | exact ixm0 (by kernel_rfl) k1 | exact ixm0 (by kernel_rfl) hb, ?_⟩
  refine ⟨by first | exact ldm_ints (by kernel_rfl) (by kernel_rfl) k1 | exact ldm_ints (by kernel_rfl) (by kernel_rfl) hb, ?_⟩
  refine ⟨hc, ?_⟩
  rfl
theorem r94zf (t : List Int) (k : Nat) (b : List Int) (fr nx : Nat) (hk : k = b.length) (h : ExP t b 0 k fr nx) (hv : (sn t (lastN b)).testBit (frsN b) = false) : BodyO (EnO [c66w t]) M94 Tryd.f94 [I fr, I nx, .ptr 4 0, .ptr 2 0, .ptr 3 0, .ptr 5 0, .ptr 1 0] ⟨bEw t k b, [], []⟩ (.bool false, ⟨bEw t k b ++ [[I fr], [.bool false]], [], []⟩) := by
  subst hk
  have hb : 0 < b.length := List.length_pos_iff.2 h.ne
  have h8 := h.w.k8
  have c0 : (b.length : Int) = (b.length : Int) := rfl
  have ev0 : IntKind.i64.wrap ((b.length : Int) - 1) = ((b.length - 1 : Nat) : Int) := by rw [wr _ (by omega) (by omega)]; omega
  have k1 : b.length - 1 < b.length := by omega
  have hc := hit66 (H := ⟨bEw t b.length b ++ [[I fr], [.bool false]], [], []⟩) h.w h.ne ⟨_, rfl⟩ hv
  refine bodyO_s ([Ans.o (Orc.b true), Ans.o (Orc.val 18 (AV.ptr 6 0) H.nil), Ans.o (Orc.val 19 (I (b.getD (0 : Nat) i0)) H.nil), Ans.o (Orc.val 22 (I (↑(b.length - (1 : Nat)) : Int)) H.nil), Ans.o (Orc.val 23 (AV.ptr 6 (b.length - (1 : Nat))) H.nil), Ans.o (Orc.val 24 (I (b.getD (b.length - (1 : Nat)) i0)) H.nil), Ans.o (Orc.val 25 (AV.bool false) (H.mk [[ls t Room.no], [ls t Room.no], [I (↑b.length : Int)], [AV.fn (Fn.func (66 : FuncId)) [] [AV.ptr 0 0]], [AV.msl 6 0 b.length (9223372036854775808 : Nat) (1 : Nat)], [AV.fn (Fn.func (94 : FuncId)) [] [AV.ptr 4 0, AV.ptr 2 0, AV.ptr 3 0, AV.ptr 5 0, AV.ptr 1 0]], ints b, [I (↑fr : Int)], [AV.bool false]] [] []))]) ((↑b.length : Int) = (↑b.length : Int) ∧ aIndexAddr Tryd.prog 22 (AV.msl 6 0 b.length (9223372036854775808 : Nat) (1 : Nat)) (I 0) = some (AV.ptr 6 0) ∧ aLoad Tryd.prog 3 (List.drop (0 : Nat) (ints b)) = some (I (b.getD (0 : Nat) i0)) ∧ aBin Tryd.prog BinOp.sub (3 : Nat) (I (↑b.length : Int)) (I 1) = some (I (↑(b.length - (1 : Nat)) : Int)) ∧ aIndexAddr Tryd.prog 22 (AV.msl 6 0 b.length (9223372036854775808 : Nat) (1 : Nat)) (I (↑(b.length - (1 : Nat)) : Int)) = some (AV.ptr 6 (b.length - (1 : Nat))) ∧ aLoad Tryd.prog 3 (List.drop (b.length - (1 : Nat)) (ints b)) = some (I (b.getD (b.length - (1 : Nat)) i0)) ∧ aCall (Sof [c66w t]) (AV.fn (Fn.func (66 : FuncId)) [] [AV.ptr 0 0]) [I (b.getD (0 : Nat) i0), I (b.getD (b.length - (1 : Nat)) i0)] (H.mk [[ls t Room.no], [ls t Room.no], [I (↑b.length : Int)], [AV.fn (Fn.func (66 : FuncId)) [] [AV.ptr 0 0]], [AV.msl 6 0 b.length (9223372036854775808 : Nat) (1 : Nat)], [AV.fn (Fn.func (94 : FuncId)) [] [AV.ptr 4 0, AV.ptr 2 0, AV.ptr 3 0, AV.ptr 5 0, AV.ptr 1 0]], ints b, [I (↑fr : Int)], [AV.bool false]] [] []) = some (AV.bool false, H.mk [[ls t Room.no], [ls t Room.no], [I (↑b.length : Int)], [AV.fn (Fn.func (66 : FuncId)) [] [AV.ptr 0 0]], [AV.msl 6 0 b.length (9223372036854775808 : Nat) (1 : Nat)], [AV.fn (Fn.func (94 : FuncId)) [] [AV.ptr 4 0, AV.ptr 2 0, AV.ptr 3 0, AV.ptr 5 0, AV.ptr 1 0]], ints b, [I (↑fr : Int)], [AV.bool false]] [] []) ∧ (AV.bool false, H.mk [[ls t Room.no], [ls t Room.no], [I (↑b.length : Int)], [AV.fn (Fn.func (66 : FuncId)) [] [AV.ptr 0 0]], [AV.msl 6 0 b.length (9223372036854775808 : Nat) (1 : Nat)], [AV.fn (Fn.func (94 : FuncId)) [] [AV.ptr 4 0, AV.ptr 2 0, AV.ptr 3 0, AV.ptr 5 0, AV.ptr 1 0]], ints b, [I (↑fr : Int)], [AV.bool false]] [] []) = (AV.bool false, H.mk [[ls t Room.no], [ls t Room.no], [I (↑b.length : Int)], [AV.fn (Fn.func (66 : FuncId)) [] [AV.ptr 0 0]], [AV.msl 6 0 b.length (9223372036854775808 : Nat) (1 : Nat)], [AV.fn (Fn.func (94 : FuncId)) [] [AV.ptr 4 0, AV.ptr 2 0, AV.ptr 3 0, AV.ptr 5 0, AV.ptr 1 0]], ints b, [I (↑fr : Int)], [AV.bool false]] [] [])) (by kernel_rfl) ?_
  refine ⟨by first | with_reducible assumption | omega | assumption, ?_⟩
  refine ⟨by first | exact ixm0 (by kernel_rfl) k1 | exact ixm0 (by kernel_rfl) hb, ?_⟩
  refine ⟨by first | exact ldm_ints (by kernel_rfl) (by kernel_rfl) k1 | exact ldm_ints (by kernel_rfl) (by kernel_rfl) hb, ?_⟩
  refine ⟨told_sub (by with_reducible assumption), ?_⟩
  refine ⟨by first | exact ixm0 (by kernel_rfl) k1 | exact ixm0 (by kernel_rfl) hb, ?_⟩
  refine ⟨by first | exact ldm_ints (by kernel_rfl) (by kernel_rfl) k1 | exact ldm_ints (by kernel_rfl) (by kernel_rfl) hb, ?_⟩
  refine ⟨hc, ?_⟩
  rfl
theorem keepGw {t : List Int} {k : Nat} {c : List Int} {B : List (List AV)} {R : Nat} (h0 : B[0]? = some [ls t .no]) (h0' : B[1]? = some [ls t .no]) (h1 : B[2]? = some [I k]) (h2 : B[3]? = some [fitW]) (h3 : B[4]? = some [rowV R c.length]) (h4 : B[5]? = some [selfW]) (h5 : ∃ d, B[6]? = some d) (h6 : ∃ cs1, B[R]? = some cs1 ∧ cs1.take c.length = ints c ∧ c.length ≤ cs1.length) (hR : 6 ≤ R) : KeepOk (fun i => if i = 7 then R else i) (bEw t k c).length B (bFw t k c) where
  n := by show 7 ≤ 8; omega
  id i hi := by
    have hi : i < 7 := hi
    simp only [show i ≠ 7 by omega, if_false]
  inj i j hi hj h := by
    have hi : i < 8 := hi
    have hj : j < 8 := hj
    by_cases c1 : i = 7 <;> by_cases c2 : j = 7
    · exact .inl (by omega)
    · simp only [c1, if_true, c2, if_false] at h
      have : j = 6 := by omega
      subst this
      exact .inr (.inr rfl)
    · simp only [c1, if_false, c2, if_true] at h
      have : i = 6 := by omega
      subst this
      exact .inr (.inl rfl)
    · simp only [c1, c2, if_false] at h
      exact .inl h
  cells i cs h := by
    match i, h with
    | 0, h => cases h; exact ⟨_, h0, Nat.le_refl _, .same (bnd_ls t)⟩
    | 1, h => cases h; exact ⟨_, h0', Nat.le_refl _, .same (bnd_ls t)⟩
    | 2, h => cases h; exact ⟨_, h1, Nat.le_refl _, .same rfl⟩
    | 3, h => cases h; exact ⟨_, h2, Nat.le_refl _, .cons (RV.fitW (by show 1 ≤ 8; omega) (by simp only [show (0 : Nat) ≠ 7 by omega, if_false])) .nil⟩
    | 4, h => cases h; exact ⟨_, h3, Nat.le_refl _, .cons (RV.row (R := 7) (by show 7 < 8; omega)) .nil⟩
    | 5, h => cases h; exact ⟨_, h4, Nat.le_refl _, .cons (RV.selfW (by show 6 ≤ 8; omega) fun i hi => by simp only [show i ≠ 7 by omega, if_false]) .nil⟩
    | 6, h =>
      cases h
      obtain ⟨d, hd⟩ := h5
      exact ⟨d, hd, Nat.zero_le _, by simp only [List.length_nil, List.take_zero]; exact .nil⟩
    | 7, h =>
      cases h
      obtain ⟨cs1, g1, g2, g3⟩ := h6
      refine ⟨cs1, g1, by simpa using g3, ?_⟩
      have e : cs1.take (ints c).length = ints c := by rw [ints_len]; exact g2
      rw [e]
      exact .same (bnd_ints c)
    | i + 8, h => simp at h
theorem bJw_row {t : List Int} {k : Nat} {b : List Int} {fr nx j : Nat} : ∃ cs1, (bJw t k b fr nx j)[Rw j]? = some cs1 ∧ cs1.take b.length = ints b ∧ b.length ≤ cs1.length := by
  match j with
  | 0 => exact ⟨ints b, rfl, List.take_of_length_le (by simp), by simp⟩
  | j + 1 =>
    have hz : Zj b nx (j + 1) = List.replicate (2 * j + 1) [] ++ [ints (b ++ [((el nx j : Nat) : Int)])] := by rw [Zj, if_neg (by omega)]; rfl
    have hx : ints (b ++ [((el nx j : Nat) : Int)]) = ints b ++ [I (el nx j : Nat)] := by simp [ints]
    refine ⟨ints (b ++ [((el nx j : Nat) : Int)]), ?_, by rw [hx, List.take_left' (by simp)], by simp⟩
    rw [Rw, if_neg (by omega), show 9 + 2 * (j + 1) = (2 * j + 1) + 10 by omega]
    show (Zj b nx (j + 1))[2 * j + 1]? = _
    rw [hz, List.getElem?_append_right (by simp)]; simp
theorem hWw_row {t : List Int} {k : Nat} {b : List Int} {fr nx j : Nat} {l : List Int} : (hWw t k b fr nx j l).blk[10 + 2 * j + 1]? = some (ints l) := by
  rw [show 10 + 2 * j + 1 = (2 * j + 1) + 10 by omega]
  show (List.replicate (10 + 2 * j + 1 - 10) ([] : List AV) ++ [ints l])[2 * j + 1]? = _
  rw [show 10 + 2 * j + 1 - 10 = 2 * j + 1 by omega, List.getElem?_append_right (by simp)]; simp
theorem all94w : ∀ f, Ok94w f
  | 0 => fun t k b fr nx h => by
    have hk : k = b.length := h.w.l.symm
    subst hk
    have hb : 0 < b.length := List.length_pos_iff.2 h.ne
    have hkeep : ∀ v, KeepOk (fun i => if i = 7 then 6 else i) (bEw t b.length b).length (bEw t b.length b ++ [[I fr], [.bool v]]) (bFw t b.length b) := fun v => keepGw (t := t) (k := b.length) (c := b) (B := bEw t b.length b ++ [[I fr], [.bool v]]) (R := 6) rfl rfl rfl rfl rfl rfl ⟨_, rfl⟩ ⟨ints b, rfl, take_ints b, by simp⟩ (by omega)
    cases c : (sn t (lastN b)).testBit (frsN b)
    · have e : exW t b 0 fr = none := by rw [exW, wyM, c]; rfl
      rw [e]
      exact CallOkB.keep (hkeep false) (.same rfl) ((r94zf t b.length b fr nx rfl h c).call ok94 (rests mixed (.rd _ (c66w_reads t) .nil)) rfl)
    · have e : exW t b 0 fr = some b := by rw [exW, wyM, c]; rfl
      rw [e]
      exact CallOkB.keep (hkeep true) (.same rfl) ((r94zt t b.length b fr nx rfl h c).call ok94 (rests mixed (.rd _ (c66w_reads t) .nil)) rfl)
  | f + 1 => fun t k b fr nx h => by
    rcases first_of (fun j => exW t (b ++ [((el nx j : Nat) : Int)]) f (andn fr (2 ^ el nx j))) (pc nx) with hno | ⟨j0, l, h0, hyes, hno⟩
    · rw [h.allNoW hno]
      exact CallOkB.keep (keepGw (t := t) (k := k) (c := b) (B := bJw t k b fr nx (pc nx)) (R := Rw (pc nx)) rfl rfl rfl rfl rfl rfl ⟨_, rfl⟩ bJw_row (by rw [Rw]; split <;> omega)) (.same rfl) ((r94nw f (all94w f) t k b fr nx h hno).call ok94 (restsO mixed rfl (.eff d72 rfl .nil)) rfl)
    · rw [h.firstYesW h0 hno hyes]
      exact CallOkB.keep (keepGw (t := t) (k := k) (c := l) (B := (hWw t k b fr nx j0 l).blk) (R := 10 + 2 * j0 + 1) rfl rfl rfl rfl rfl rfl ⟨_, rfl⟩ ⟨ints l, hWw_row, take_ints l, by simp⟩ (by omega)) (.same rfl) ((r94sw f (all94w f) t k b fr nx j0 l h h0 hno hyes).call ok94 (restsO mixed rfl (.eff d72 rfl .nil)) rfl)
end
end Go.Proofs.Rnk

