/- Layer 2: the program's first way is the reference's. -/
import Derived.Test.YtnnhomkkggkkfaaDoorRkCf
import Derived.KernelRfl
set_option linter.unusedSimpArgs false
set_option linter.unusedVariables false
set_option linter.unnecessarySimpa false
set_option maxHeartbeats 4000000
set_option maxRecDepth 100000
namespace Go.Proofs.Rnk
open Go Go.VM
open Go.Proofs.Sur (andn andn_bit andn_le i_wrap i_and i_or i_xor i_andn i_shl i_shr bit_01)
theorem exT_eq {t : List Int} {f i : Nat} (h8 : t.length ≤ 8) (hi : i < t.length) : wyM (sn t) t.length false f ([] ++ [(i : Int)]) (0 ||| 2 ^ i) = exT t f i := by
  rw [exT, exR, met_next h8 (alls_lt h8) hi, met_all h8]; rfl
theorem rowR_first {t : List Int} {f : Nat} {l : List Int} (h8 : t.length ≤ 8) (hf : f + 1 = t.length) (hl : rowR t t.length false = some l) : ∃ j0, j0 < pc (alls t.length) ∧ exT t f (el (alls t.length) j0) = some l ∧ ∀ j, j < j0 → exT t f (el (alls t.length) j) = none := by
  have hin : ∀ j, j < pc (alls t.length) → el (alls t.length) j < t.length := fun j hj => by
    have := (el_mem hj).1
    rw [alls_bit] at this
    simpa using this
  have hfol : ∀ i, fol (sn t) [] 0 i = true := fun i => by simp [fol]
  have hro : rowR t t.length false = fRw (sn t) t.length false f [] 0 t.length := by rw [rowR, ← hf, wyM_go, hf]
  rcases first_of (fun j => exT t f (el (alls t.length) j)) (pc (alls t.length)) with hno | ⟨j0, l', h0, hyes, hno⟩
  · have : rowR t t.length false = none := by
      rw [hro]
      refine fRw_none _ fun i hi _ => ?_
      obtain ⟨j, h1, h2⟩ := el_of (show i < 8 by omega) (show (alls t.length).testBit i = true by rw [alls_bit]; simpa using hi)
      rw [exT_eq h8 hi, ← h2]
      exact hno j h1
    rw [this] at hl; cases hl
  · have : rowR t t.length false = some l' := by
      rw [hro]
      refine fRw_at (p := el (alls t.length) j0) (fun i hi _ => ?_) (hfol _) (by rw [exT_eq h8 (hin j0 h0)]; exact hyes) (hin j0 h0)
      have hi' : i < t.length := by have := hin j0 h0; omega
      obtain ⟨j, h1, h2⟩ := el_of (show i < 8 by omega) (show (alls t.length).testBit i = true by rw [alls_bit]; simpa using hi')
      rw [exT_eq h8 hi', ← h2]
      refine hno j (Nat.lt_of_not_le fun q => ?_)
      have := els_mono q h1
      omega
    rw [this] at hl
    cases hl
    exact ⟨j0, h0, hyes, hno⟩
theorem k70g (t : List Int) (r : Room) (h : t.length ≤ 8 ∧ rok t r) : callable Tryd.prog 70 = true ∧ ∀ h, CallOk Tryd.prog 70 [ls t r] h (I (alls t.length : Nat)) h := c70.ok (t, r) h
section
attribute [local instance] wrI
noncomputable def d70g : PCtr Tryd.prog where
  f := 70
  X := List Int × Room
  args x := [ls x.1 x.2]
  pre x := x.1.length ≤ 8 ∧ rok x.1 x.2
  v x := I (alls x.1.length : Nat)
  det := by
    rintro ⟨t, r⟩ ⟨t', r'⟩ e _ _
    simp only [List.cons.injEq, AV.sl.injEq, and_true] at e
    rw [ints_inj e.1]
  ok x hx := ⟨(k70g x.1 x.2 hx).1, fun h => CallOk.up (fun _ => rfl) ((k70g x.1 x.2 hx).2 h)⟩
theorem leaveT {t : List Int} {k j : Nat} {l : List Int} (h8 : l.length ≤ 8) : leave ⟨0, 0, 0⟩ (.tup [rowV (8 + 2 * j + 1) l.length, .bool true]) (hWt t k j l) = (.tup [ls l .no, .bool true], .nil) := by
  have hrow : (hWt t k j l).blk[8 + 2 * j + 1]? = some (ints l) := by
    rw [show 8 + 2 * j + 1 = (2 * j + 1) + 8 by omega]
    show (List.replicate (8 + 2 * j + 1 - 8) ([] : List AV) ++ [ints l])[2 * j + 1]? = _
    rw [show 8 + 2 * j + 1 - 8 = 2 * j + 1 by omega, List.getElem?_append_right (by simp)]; simp
  have hb : AV.bnds 0 0 0 (ints l) = true := bnd_ints l
  have h1 : (ints l).take l.length = ints l := take_ints l
  have h2 : (ints l).map (frz 0 0 (hWt t k j l) 4) = ints l := frz_ints 0 0 _ 2 l
  have hne : ¬ noCap = l.length := fun e => by rw [← e] at h8; exact absurd h8 (by decide)
  have hm : (hWt t k j l).maps = [] := rfl
  generalize hh : hWt t k j l = h at hrow h2 hm
  generalize hci : ints l = c at hrow h1 h2 hb
  simp [leave, frz, AV.bnd, AV.bnds, hrow, h1, h2, hb, Room.bnd, retok, hne, hm]
  exact hci.symm
theorem ok64w : FokM Tryd.prog M94 64 Tryd.f64 := ok64
theorem r64w (f : Nat) (t : List Int) (j0 : Nat) (l : List Int) (h : ExT t f t.length) (hl8 : l.length ≤ 8) (h0 : j0 < pc (alls t.length)) (hno : ∀ j, j < j0 → exT t f (el (alls t.length) j) = none) (hyes : exT t f (el (alls t.length) j0) = some l) :
    CallOk Tryd.prog 64 [ls t .no, I t.length, fitV] .nil (.tup [ls l .no, .bool true]) .nil := by
  have kk : CallOkB Tryd.prog 0 94 [I (alls t.length : Nat), I (alls t.length : Nat), .ptr 3 0, .ptr 1 0, .ptr 2 0, .ptr 4 0, .ptr 0 0] ⟨bT t t.length, [], []⟩ (.bool true) (hWt t t.length j0 l) := (r94t f (all94 f) t t.length j0 l h h0 hno hyes).call ok94 (restsO mixed rfl (.eff d72 rfl .nil)) rfl
  obtain ⟨dT, hd⟩ : ∃ d : CtrB Tryd.prog 0, d = oneB [I (alls t.length : Nat), I (alls t.length : Nat), .ptr 3 0, .ptr 1 0, .ptr 2 0, .ptr 4 0, .ptr 0 0] ⟨bT t t.length, [], []⟩ (.bool true) (hWt t t.length j0 l) kk := ⟨_, rfl⟩
  have hf : dT.f = 94 := by rw [hd]; rfl
  have p70 : t.length ≤ 8 ∧ rok t .no := ⟨h.h.s.2, fun _ => no_ne⟩
  have hc : aCall (SofO dT [d70g.to]) (.fn (.func 94) [] [.ptr 3 0, .ptr 1 0, .ptr 2 0, .ptr 4 0, .ptr 0 0]) [I (alls t.length : Nat), I (alls t.length : Nat)] ⟨bT t t.length, [], []⟩ = some (.bool true, hWt t t.length j0 l) := by
    subst hd
    exact acallO_hit (b := oneB _ _ _ _ kk) () rfl rfl
  have hc70 : ∀ H, aCall (SofO dT [d70g.to]) (.fn (.func 70) [] []) [ls t .no] H = some (I (alls t.length : Nat), H) := fun H => acallO_skip (by rw [hf]; decide) (acall_hit (c := d70g.to) (t, .no) _ rfl p70)
  have hb : Body ⟨Tryd.prog, SofO dT [d70g.to], Pof (P := Tryd.prog) [], H.nil.base, 300⟩ M94 Tryd.f64 [ls t .no, I t.length, fitV] .nil (.tup [ls l .no, .bool true], .nil) := by
    have hc70' := hc70 ⟨bT t t.length, [], []⟩
    refine body_s ([Ans.o (Orc.val 14 (I (↑(alls t.length) : Int)) (H.mk [[ls t Room.no], [I (↑t.length : Int)], [AV.fn (Fn.func (65 : FuncId)) [] []], [AV.sl [] (0 : Nat) Room.nil], [AV.fn (Fn.func (94 : FuncId)) [] [AV.ptr 3 0, AV.ptr 1 0, AV.ptr 2 0, AV.ptr 4 0, AV.ptr 0 0]]] [] [])), Ans.o (Orc.val 16 (I (↑(alls t.length) : Int)) (H.mk [[ls t Room.no], [I (↑t.length : Int)], [AV.fn (Fn.func (65 : FuncId)) [] []], [AV.sl [] (0 : Nat) Room.nil], [AV.fn (Fn.func (94 : FuncId)) [] [AV.ptr 3 0, AV.ptr 1 0, AV.ptr 2 0, AV.ptr 4 0, AV.ptr 0 0]]] [] [])), Ans.o (Orc.val 17 (AV.bool true) (H.mk ([ls t Room.no] :: [I (↑t.length : Int)] :: [AV.fn (Fn.func (65 : FuncId)) [] []] :: [AV.msl ((8 : Nat) + (2 : Nat) * j0 + (1 : Nat)) (0 : Nat) l.length (9223372036854775808 : Nat) (1 : Nat)] :: [AV.fn (Fn.func (94 : FuncId)) [] [AV.ptr 3 0, AV.ptr 1 0, AV.ptr 2 0, AV.ptr 4 0, AV.ptr 0 0]] :: [I (↑(alls t.length) : Int)] :: [AV.bool true] :: [I (dI (↑(alls t.length) : Int) j0)] :: (List.replicate ((8 : Nat) + (2 : Nat) * j0 + (1 : Nat) - (8 : Nat)) [] ++ [ints l])) [] []))]) (aCall (SofO dT [d70g.to]) (AV.fn (Fn.func 70) [] []) [ls t Room.no] (H.mk [[ls t Room.no], [I (↑t.length : Int)], [AV.fn (Fn.func (65 : FuncId)) [] []], [AV.sl [] (0 : Nat) Room.nil], [AV.fn (Fn.func 94) [] [AV.ptr 3 0, AV.ptr 1 0, AV.ptr 2 0, AV.ptr 4 0, AV.ptr 0 0]]] [] []) = some (I (↑(alls t.length) : Int), H.mk [[ls t Room.no], [I (↑t.length : Int)], [AV.fn (Fn.func (65 : FuncId)) [] []], [AV.sl [] (0 : Nat) Room.nil], [AV.fn (Fn.func (94 : FuncId)) [] [AV.ptr 3 0, AV.ptr 1 0, AV.ptr 2 0, AV.ptr 4 0, AV.ptr 0 0]]] [] []) ∧ aCall (SofO dT [d70g.to]) (AV.fn (Fn.func 70) [] []) [ls t Room.no] (H.mk [[ls t Room.no], [I (↑t.length : Int)], [AV.fn (Fn.func (65 : FuncId)) [] []], [AV.sl [] (0 : Nat) Room.nil], [AV.fn (Fn.func (94 : FuncId)) [] [AV.ptr 3 0, AV.ptr 1 0, AV.ptr 2 0, AV.ptr 4 0, AV.ptr 0 0]]] [] []) = some (I (↑(alls t.length) : Int), H.mk [[ls t Room.no], [I (↑t.length : Int)], [AV.fn (Fn.func (65 : FuncId)) [] []], [AV.sl [] (0 : Nat) Room.nil], [AV.fn (Fn.func (94 : FuncId)) [] [AV.ptr 3 0, AV.ptr 1 0, AV.ptr 2 0, AV.ptr 4 0, AV.ptr 0 0]]] [] []) ∧ aCall (SofO dT [d70g.to]) (AV.fn (Fn.func 94) [] [AV.ptr 3 0, AV.ptr 1 0, AV.ptr 2 0, AV.ptr 4 0, AV.ptr 0 0]) [I (↑(alls t.length) : Int), I (↑(alls t.length) : Int)] (H.mk [[ls t Room.no], [I (↑t.length : Int)], [AV.fn (Fn.func (65 : FuncId)) [] []], [AV.sl [] (0 : Nat) Room.nil], [AV.fn (Fn.func (94 : FuncId)) [] [AV.ptr 3 0, AV.ptr 1 0, AV.ptr 2 0, AV.ptr 4 0, AV.ptr 0 0]]] [] []) = some (AV.bool true, H.mk ([ls t Room.no] :: [I (↑t.length : Int)] :: [AV.fn (Fn.func (65 : FuncId)) [] []] :: [AV.msl ((8 : Nat) + (2 : Nat) * j0 + (1 : Nat)) (0 : Nat) l.length (9223372036854775808 : Nat) (1 : Nat)] :: [AV.fn (Fn.func (94 : FuncId)) [] [AV.ptr 3 0, AV.ptr 1 0, AV.ptr 2 0, AV.ptr 4 0, AV.ptr 0 0]] :: [I (↑(alls t.length) : Int)] :: [AV.bool true] :: [I (dI (↑(alls t.length) : Int) j0)] :: (List.replicate ((8 : Nat) + (2 : Nat) * j0 + (1 : Nat) - (8 : Nat)) [] ++ [ints l])) [] []) ∧ leave (Base.mk H.nil.blk.length H.nil.toks.length H.nil.maps.length) (AV.tup [AV.msl ((8 : Nat) + (2 : Nat) * j0 + (1 : Nat)) (0 : Nat) l.length (9223372036854775808 : Nat) (1 : Nat), AV.bool true]) (H.mk ([ls t Room.no] :: [I (↑t.length : Int)] :: [AV.fn (Fn.func (65 : FuncId)) [] []] :: [AV.msl ((8 : Nat) + (2 : Nat) * j0 + (1 : Nat)) (0 : Nat) l.length (9223372036854775808 : Nat) (1 : Nat)] :: [AV.fn (Fn.func (94 : FuncId)) [] [AV.ptr 3 0, AV.ptr 1 0, AV.ptr 2 0, AV.ptr 4 0, AV.ptr 0 0]] :: [I (↑(alls t.length) : Int)] :: [AV.bool true] :: [I (dI (↑(alls t.length) : Int) j0)] :: (List.replicate ((8 : Nat) + (2 : Nat) * j0 + (1 : Nat) - (8 : Nat)) [] ++ [ints l])) [] []) = (AV.tup [ls l Room.no, AV.bool true], H.mk [] [] [])) (by kernel_rfl) ?_
    refine ⟨hc70 _, ?_⟩
    refine ⟨hc70 _, ?_⟩
    refine ⟨hc, ?_⟩
    exact leaveT hl8
  exact hb.call ok64w (restsO (nt := 0) (nm := 0) mixed (by rw [hf]; rfl) (.pure d70g .nil)) rfl
end
end Go.Proofs.Rnk

