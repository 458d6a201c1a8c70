/- Layer 2: the program's first round is the reference's. -/
import Derived.Test.YtnnhomkkggkkfaaDoorRkDf
import Derived.KernelRfl
set_option linter.unusedSimpArgs false
set_option linter.unusedVariables false
set_option linter.unnecessarySimpa false
set_option maxHeartbeats 4000000
set_option maxRecDepth 100000
namespace Go.Proofs.Rnk
open Go Go.VM
open Go.Proofs.Sur (andn andn_bit andn_le i_wrap i_and i_or i_xor i_andn i_shl i_shr bit_01)
theorem exTw_eq {t : List Int} {f i : Nat} (h8 : t.length ≤ 8) (hi : i < t.length) : wyM (sn t) t.length true f ([] ++ [(i : Int)]) (0 ||| 2 ^ i) = exTw t f i := by
  rw [exTw, exW, met_next h8 (alls_lt h8) hi, met_all h8]; rfl
theorem el_in {t : List Int} {j : Nat} (hj : j < pc (alls t.length)) : el (alls t.length) j < t.length := by
  have := (el_mem hj).1
  rw [alls_bit] at this
  simpa using this
theorem rowW_at {t : List Int} {f k j0 : Nat} {l : List Int} (h8 : t.length ≤ 8) (hf : f + 1 = k) (h0 : j0 < pc (alls t.length)) (hyes : exTw t f (el (alls t.length) j0) = some l) (hno : ∀ j, j < j0 → exTw t f (el (alls t.length) j) = none) : rowR t k true = some l := by
  have hfol : ∀ i, fol (sn t) [] 0 i = true := fun i => by simp [fol]
  rw [rowR, ← hf, wyM_go]
  refine fRw_at (p := el (alls t.length) j0) (fun i hi _ => ?_) (hfol _) (by rw [exTw_eq h8 (el_in h0)]; exact hyes) (el_in h0)
  have hi' : i < t.length := by have := el_in h0; omega
  obtain ⟨j, h1, h2⟩ := el_of (show i < 8 by omega) (show (alls t.length).testBit i = true by rw [alls_bit]; simpa using hi')
  rw [exTw_eq h8 hi', ← h2]
  refine hno j (Nat.lt_of_not_le fun q => ?_)
  have := els_mono q h1
  omega
theorem rowW_no {t : List Int} {f k : Nat} (h8 : t.length ≤ 8) (hf : f + 1 = k) (hno : ∀ j, j < pc (alls t.length) → exTw t f (el (alls t.length) j) = none) : rowR t k true = none := by
  rw [rowR, ← hf, wyM_go]
  refine fRw_none _ fun i hi _ => ?_
  obtain ⟨j, h1, h2⟩ := el_of (show i < 8 by omega) (show (alls t.length).testBit i = true by rw [alls_bit]; simpa using hi)
  rw [exTw_eq h8 hi, ← h2]
  exact hno j h1
theorem rowW_some {t : List Int} {f k : Nat} {l : List Int} (h8 : t.length ≤ 8) (hf : f + 1 = k) (hl : rowR t k true = some l) : ∃ j0, j0 < pc (alls t.length) ∧ exTw t f (el (alls t.length) j0) = some l ∧ ∀ j, j < j0 → exTw t f (el (alls t.length) j) = none := by
  rcases first_of (fun j => exTw t f (el (alls t.length) j)) (pc (alls t.length)) with hno | ⟨j0, l', h0, hyes, hno⟩
  · rw [rowW_no h8 hf hno] at hl; cases hl
  · rw [rowW_at h8 hf h0 hyes hno] at hl
    cases hl
    exact ⟨j0, h0, hyes, hno⟩
theorem rowW_none {t : List Int} {f k : Nat} (h8 : t.length ≤ 8) (hf : f + 1 = k) (hl : rowR t k true = none) : ∀ j, j < pc (alls t.length) → exTw t f (el (alls t.length) j) = none := by
  rcases first_of (fun j => exTw t f (el (alls t.length) j)) (pc (alls t.length)) with hno | ⟨j0, l', h0, hyes, hno⟩
  · exact hno
  · rw [rowW_at h8 hf h0 hyes hno] at hl; cases hl
theorem k56g (t : List Int) (r : Room) (h : (lim t.length ∧ rok t r) ∧ inI t) : callable Tryd.prog 56 = true ∧ ∀ h, CallOk Tryd.prog 56 [ls t r] h (c56.v (t, r)) h := c56.ok (t, r) h
section
attribute [local instance] wrI
noncomputable def d56g : PCtr Tryd.prog where
  f := 56
  X := List Int × Room
  args x := [ls x.1 x.2]
  pre x := (lim x.1.length ∧ rok x.1 x.2) ∧ inI x.1
  v x := .bool (tnB x.1)
  det := by
    rintro ⟨t, r⟩ ⟨t', r'⟩ e _ _
    simp only [List.cons.injEq, AV.sl.injEq, and_true] at e
    rw [ints_inj e.1]
  ok x hx := ⟨(k56g x.1 x.2 hx).1, fun h => CallOk.up (fun _ => rfl) ((k56g x.1 x.2 hx).2 h)⟩
def oneF (f : FuncId) (hcall : callable Tryd.prog f = true) (args : List AV) (h : H) (v : AV) (h' : H) (ok : CallOkB Tryd.prog 0 f args h v h') : CtrB Tryd.prog 0 where
  f := f
  X := Unit
  args _ := args
  pre _ g := g = h
  res _ _ := (v, h')
  det _ _ _ _ _ _ := rfl
  ok _ g hg := by subst hg; exact ⟨hcall, ok⟩
theorem call64 : callable Tryd.prog 64 = true := ok64w.call
abbrev a94 (t : List Int) : List AV := [I (alls t.length : Nat), I (alls t.length : Nat), .ptr 4 0, .ptr 2 0, .ptr 3 0, .ptr 5 0, .ptr 1 0]
theorem b64s (f : Nat) (t : List Int) (k j0 : Nat) (l : List Int) (h : ExT t f k) (h0 : j0 < pc (alls t.length)) (hno : ∀ j, j < j0 → exTw t f (el (alls t.length) j) = none) (hyes : exTw t f (el (alls t.length) j0) = some l) :
    CallOkB Tryd.prog 0 64 [ls t .no, I k, fitW] (hT t) (.tup [rowV (9 + 2 * j0 + 1) l.length, .bool true]) (hWtw t k j0 l) := by
  have kk : CallOkB Tryd.prog 0 94 (a94 t) ⟨bTw t k, [], []⟩ (.bool true) (hWtw t k j0 l) := (r94tw f (all94w f) t k j0 l h h0 hno hyes).call ok94 (restsO mixed rfl (.eff d72 rfl .nil)) rfl
  obtain ⟨dT, hd⟩ : ∃ d : CtrB Tryd.prog 0, d = oneB (a94 t) ⟨bTw t k, [], []⟩ (.bool true) (hWtw t k j0 l) kk := ⟨_, rfl⟩
  have hf : dT.f = 94 := by rw [hd]; rfl
  have p70 : t.length ≤ 8 ∧ rok t .no := ⟨h.h.s.2, fun _ => no_ne⟩
  have hc : aCall (SofO dT [d70g.to]) (.fn (.func 94) [] [.ptr 4 0, .ptr 2 0, .ptr 3 0, .ptr 5 0, .ptr 1 0]) [I (alls t.length : Nat), I (alls t.length : Nat)] ⟨bTw t k, [], []⟩ = some (.bool true, hWtw t k j0 l) := by
    subst hd
    exact acallO_hit (b := oneB _ _ _ _ kk) () rfl rfl
  have hc70 : ∀ H, aCall (SofO dT [d70g.to]) (.fn (.func 70) [] []) [ls t .no] H = some (I (alls t.length : Nat), H) := fun H => acallO_skip (by rw [hf]; decide) (acall_hit (c := d70g.to) (t, .no) _ rfl p70)
  have hb : BodyO (EnB dT [d70g.to]) M94 Tryd.f64 [ls t .no, I k, fitW] (hT t) (.tup [rowV (9 + 2 * j0 + 1) l.length, .bool true], hWtw t k j0 l) := by
    have hc70' := hc70 ⟨bTw t k, [], []⟩
    refine bodyO_s ([Ans.o (Orc.val 14 (I (↑(alls t.length) : Int)) (H.mk [[ls t Room.no], [ls t Room.no], [I (↑k : Int)], [AV.fn (Fn.func (66 : FuncId)) [] [AV.ptr 0 0]], [AV.sl [] (0 : Nat) Room.nil], [AV.fn (Fn.func (94 : FuncId)) [] [AV.ptr 4 0, AV.ptr 2 0, AV.ptr 3 0, AV.ptr 5 0, AV.ptr 1 0]]] [] [])), Ans.o (Orc.val 16 (I (↑(alls t.length) : Int)) (H.mk [[ls t Room.no], [ls t Room.no], [I (↑k : Int)], [AV.fn (Fn.func (66 : FuncId)) [] [AV.ptr 0 0]], [AV.sl [] (0 : Nat) Room.nil], [AV.fn (Fn.func (94 : FuncId)) [] [AV.ptr 4 0, AV.ptr 2 0, AV.ptr 3 0, AV.ptr 5 0, AV.ptr 1 0]]] [] [])), Ans.o (Orc.val 17 (AV.bool true) (H.mk ([ls t Room.no] :: [ls t Room.no] :: [I (↑k : Int)] :: [AV.fn (Fn.func (66 : FuncId)) [] [AV.ptr 0 0]] :: [AV.msl ((9 : Nat) + (2 : Nat) * j0 + (1 : Nat)) (0 : Nat) l.length (9223372036854775808 : Nat) (1 : Nat)] :: [AV.fn (Fn.func (94 : FuncId)) [] [AV.ptr 4 0, AV.ptr 2 0, AV.ptr 3 0, AV.ptr 5 0, AV.ptr 1 0]] :: [I (↑(alls t.length) : Int)] :: [AV.bool true] :: [I (dI (↑(alls t.length) : Int) j0)] :: (List.replicate ((9 : Nat) + (2 : Nat) * j0 + (1 : Nat) - (9 : Nat)) [] ++ [ints l])) [] []))]) (aCall (SofO dT [d70g.to]) (AV.fn (Fn.func 70) [] []) [ls t Room.no] (H.mk [[ls t Room.no], [ls t Room.no], [I (↑k : Int)], [AV.fn (Fn.func (66 : FuncId)) [] [AV.ptr 0 0]], [AV.sl [] (0 : Nat) Room.nil], [AV.fn (Fn.func 94) [] [AV.ptr 4 0, AV.ptr 2 0, AV.ptr 3 0, AV.ptr 5 0, AV.ptr 1 0]]] [] []) = some (I (↑(alls t.length) : Int), H.mk [[ls t Room.no], [ls t Room.no], [I (↑k : Int)], [AV.fn (Fn.func (66 : FuncId)) [] [AV.ptr 0 0]], [AV.sl [] (0 : Nat) Room.nil], [AV.fn (Fn.func (94 : FuncId)) [] [AV.ptr 4 0, AV.ptr 2 0, AV.ptr 3 0, AV.ptr 5 0, AV.ptr 1 0]]] [] []) ∧ aCall (SofO dT [d70g.to]) (AV.fn (Fn.func 70) [] []) [ls t Room.no] (H.mk [[ls t Room.no], [ls t Room.no], [I (↑k : Int)], [AV.fn (Fn.func (66 : FuncId)) [] [AV.ptr 0 0]], [AV.sl [] (0 : Nat) Room.nil], [AV.fn (Fn.func (94 : FuncId)) [] [AV.ptr 4 0, AV.ptr 2 0, AV.ptr 3 0, AV.ptr 5 0, AV.ptr 1 0]]] [] []) = some (I (↑(alls t.length) : Int), H.mk [[ls t Room.no], [ls t Room.no], [I (↑k : Int)], [AV.fn (Fn.func (66 : FuncId)) [] [AV.ptr 0 0]], [AV.sl [] (0 : Nat) Room.nil], [AV.fn (Fn.func (94 : FuncId)) [] [AV.ptr 4 0, AV.ptr 2 0, AV.ptr 3 0, AV.ptr 5 0, AV.ptr 1 0]]] [] []) ∧ aCall (SofO dT [d70g.to]) (AV.fn (Fn.func 94) [] [AV.ptr 4 0, AV.ptr 2 0, AV.ptr 3 0, AV.ptr 5 0, AV.ptr 1 0]) [I (↑(alls t.length) : Int), I (↑(alls t.length) : Int)] (H.mk [[ls t Room.no], [ls t Room.no], [I (↑k : Int)], [AV.fn (Fn.func (66 : FuncId)) [] [AV.ptr 0 0]], [AV.sl [] (0 : Nat) Room.nil], [AV.fn (Fn.func (94 : FuncId)) [] [AV.ptr 4 0, AV.ptr 2 0, AV.ptr 3 0, AV.ptr 5 0, AV.ptr 1 0]]] [] []) = some (AV.bool true, H.mk ([ls t Room.no] :: [ls t Room.no] :: [I (↑k : Int)] :: [AV.fn (Fn.func (66 : FuncId)) [] [AV.ptr 0 0]] :: [AV.msl ((9 : Nat) + (2 : Nat) * j0 + (1 : Nat)) (0 : Nat) l.length (9223372036854775808 : Nat) (1 : Nat)] :: [AV.fn (Fn.func (94 : FuncId)) [] [AV.ptr 4 0, AV.ptr 2 0, AV.ptr 3 0, AV.ptr 5 0, AV.ptr 1 0]] :: [I (↑(alls t.length) : Int)] :: [AV.bool true] :: [I (dI (↑(alls t.length) : Int) j0)] :: (List.replicate ((9 : Nat) + (2 : Nat) * j0 + (1 : Nat) - (9 : Nat)) [] ++ [ints l])) [] []) ∧ (AV.tup [AV.msl ((9 : Nat) + (2 : Nat) * j0 + (1 : Nat)) (0 : Nat) l.length (9223372036854775808 : Nat) (1 : Nat), AV.bool true], H.mk ([ls t Room.no] :: [ls t Room.no] :: [I (↑k : Int)] :: [AV.fn (Fn.func (66 : FuncId)) [] [AV.ptr 0 0]] :: [AV.msl ((9 : Nat) + (2 : Nat) * j0 + (1 : Nat)) (0 : Nat) l.length (9223372036854775808 : Nat) (1 : Nat)] :: [AV.fn (Fn.func (94 : FuncId)) [] [AV.ptr 4 0, AV.ptr 2 0, AV.ptr 3 0, AV.ptr 5 0, AV.ptr 1 0]] :: [I (↑(alls t.length) : Int)] :: [AV.bool true] :: [I (dI (↑(alls t.length) : Int) j0)] :: (List.replicate ((9 : Nat) + (2 : Nat) * j0 + (1 : Nat) - (9 : Nat)) [] ++ [ints l])) [] []) = (AV.tup [AV.msl ((9 : Nat) + (2 : Nat) * j0 + (1 : Nat)) (0 : Nat) l.length (9223372036854775808 : Nat) (1 : Nat), AV.bool true], H.mk ([ls t Room.no] :: [ls t Room.no] :: [I (↑k : Int)] :: [AV.fn (Fn.func (66 : FuncId)) [] [AV.ptr 0 0]] :: [AV.msl ((9 : Nat) + (2 : Nat) * j0 + (1 : Nat)) (0 : Nat) l.length (9223372036854775808 : Nat) (1 : Nat)] :: [AV.fn (Fn.func (94 : FuncId)) [] [AV.ptr 4 0, AV.ptr 2 0, AV.ptr 3 0, AV.ptr 5 0, AV.ptr 1 0]] :: [I (↑(alls t.length) : Int)] :: [AV.bool true] :: [I (dI (↑(alls t.length) : Int) j0)] :: (List.replicate ((9 : Nat) + (2 : Nat) * j0 + (1 : Nat) - (9 : Nat)) [] ++ [ints l])) [] [])) (by kernel_rfl) ?_
    refine ⟨hc70 _, ?_⟩
    refine ⟨hc70 _, ?_⟩
    refine ⟨hc, ?_⟩
    rfl
  exact hb.call ok64w (restsO mixed (by rw [hf]; rfl) (.pure d70g .nil)) rfl
theorem b64n (f : Nat) (t : List Int) (k : Nat) (h : ExT t f k) (hno : ∀ j, j < pc (alls t.length) → exTw t f (el (alls t.length) j) = none) :
    CallOkB Tryd.prog 0 64 [ls t .no, I k, fitW] (hT t) (.tup [RCw (pc (alls t.length)), .bool false]) ⟨bVw t k (alls t.length) (alls t.length) (pc (alls t.length)), [], []⟩ := by
  have kk : CallOkB Tryd.prog 0 94 (a94 t) ⟨bTw t k, [], []⟩ (.bool false) ⟨bVw t k (alls t.length) (alls t.length) (pc (alls t.length)), [], []⟩ := (r94tn f (all94w f) t k h hno).call ok94 (restsO mixed rfl (.eff d72 rfl .nil)) rfl
  obtain ⟨rc, hrc⟩ : ∃ rc, rc = RCw (pc (alls t.length)) := ⟨_, rfl⟩
  obtain ⟨zt, hzt⟩ : ∃ zt, zt = ZTw (alls t.length) (pc (alls t.length)) := ⟨_, rfl⟩
  have kk : CallOkB Tryd.prog 0 94 (a94 t) ⟨bTw t k, [], []⟩ (.bool false) ⟨[ls t .no] :: [ls t .no] :: [I k] :: [fitW] :: [rc] :: [selfW] :: [I (alls t.length : Nat)] :: [.bool false] :: [I (dI (alls t.length : Nat) (pc (alls t.length)))] :: zt, [], []⟩ := by rw [hrc, hzt]; exact kk
  rw [bVw, ← hrc, ← hzt]
  obtain ⟨dT, hd⟩ : ∃ d : CtrB Tryd.prog 0, d = oneB (a94 t) ⟨bTw t k, [], []⟩ (.bool false) ⟨[ls t .no] :: [ls t .no] :: [I k] :: [fitW] :: [rc] :: [selfW] :: [I (alls t.length : Nat)] :: [.bool false] :: [I (dI (alls t.length : Nat) (pc (alls t.length)))] :: zt, [], []⟩ kk := ⟨_, rfl⟩
  have hf : dT.f = 94 := by rw [hd]; rfl
  have p70 : t.length ≤ 8 ∧ rok t .no := ⟨h.h.s.2, fun _ => no_ne⟩
  have hc : aCall (SofO dT [d70g.to]) (.fn (.func 94) [] [.ptr 4 0, .ptr 2 0, .ptr 3 0, .ptr 5 0, .ptr 1 0]) [I (alls t.length : Nat), I (alls t.length : Nat)] ⟨bTw t k, [], []⟩ = some (.bool false, ⟨[ls t .no] :: [ls t .no] :: [I k] :: [fitW] :: [rc] :: [selfW] :: [I (alls t.length : Nat)] :: [.bool false] :: [I (dI (alls t.length : Nat) (pc (alls t.length)))] :: zt, [], []⟩) := by
    subst hd
    exact acallO_hit (b := oneB _ _ _ _ kk) () rfl rfl
  have hc70 : ∀ H, aCall (SofO dT [d70g.to]) (.fn (.func 70) [] []) [ls t .no] H = some (I (alls t.length : Nat), H) := fun H => acallO_skip (by rw [hf]; decide) (acall_hit (c := d70g.to) (t, .no) _ rfl p70)
  have hb : BodyO (EnB dT [d70g.to]) M94 Tryd.f64 [ls t .no, I k, fitW] (hT t) (.tup [rc, .bool false], ⟨[ls t .no] :: [ls t .no] :: [I k] :: [fitW] :: [rc] :: [selfW] :: [I (alls t.length : Nat)] :: [.bool false] :: [I (dI (alls t.length : Nat) (pc (alls t.length)))] :: zt, [], []⟩) := by
    have hc70' := hc70 ⟨bTw t k, [], []⟩
    refine bodyO_s ([Ans.o (Orc.val 14 (I (↑(alls t.length) : Int)) (H.mk [[ls t Room.no], [ls t Room.no], [I (↑k : Int)], [AV.fn (Fn.func (66 : FuncId)) [] [AV.ptr 0 0]], [AV.sl [] (0 : Nat) Room.nil], [AV.fn (Fn.func (94 : FuncId)) [] [AV.ptr 4 0, AV.ptr 2 0, AV.ptr 3 0, AV.ptr 5 0, AV.ptr 1 0]]] [] [])), Ans.o (Orc.val 16 (I (↑(alls t.length) : Int)) (H.mk [[ls t Room.no], [ls t Room.no], [I (↑k : Int)], [AV.fn (Fn.func (66 : FuncId)) [] [AV.ptr 0 0]], [AV.sl [] (0 : Nat) Room.nil], [AV.fn (Fn.func (94 : FuncId)) [] [AV.ptr 4 0, AV.ptr 2 0, AV.ptr 3 0, AV.ptr 5 0, AV.ptr 1 0]]] [] [])), Ans.o (Orc.val 17 (AV.bool false) (H.mk ([ls t Room.no] :: [ls t Room.no] :: [I (↑k : Int)] :: [AV.fn (Fn.func (66 : FuncId)) [] [AV.ptr 0 0]] :: [rc] :: [AV.fn (Fn.func (94 : FuncId)) [] [AV.ptr 4 0, AV.ptr 2 0, AV.ptr 3 0, AV.ptr 5 0, AV.ptr 1 0]] :: [I (↑(alls t.length) : Int)] :: [AV.bool false] :: [I (dI (↑(alls t.length) : Int) (pc (alls t.length)))] :: zt) [] []))]) (aCall (SofO dT [d70g.to]) (AV.fn (Fn.func 70) [] []) [ls t Room.no] (H.mk [[ls t Room.no], [ls t Room.no], [I (↑k : Int)], [AV.fn (Fn.func (66 : FuncId)) [] [AV.ptr 0 0]], [AV.sl [] (0 : Nat) Room.nil], [AV.fn (Fn.func 94) [] [AV.ptr 4 0, AV.ptr 2 0, AV.ptr 3 0, AV.ptr 5 0, AV.ptr 1 0]]] [] []) = some (I (↑(alls t.length) : Int), H.mk [[ls t Room.no], [ls t Room.no], [I (↑k : Int)], [AV.fn (Fn.func (66 : FuncId)) [] [AV.ptr 0 0]], [AV.sl [] (0 : Nat) Room.nil], [AV.fn (Fn.func (94 : FuncId)) [] [AV.ptr 4 0, AV.ptr 2 0, AV.ptr 3 0, AV.ptr 5 0, AV.ptr 1 0]]] [] []) ∧ aCall (SofO dT [d70g.to]) (AV.fn (Fn.func 70) [] []) [ls t Room.no] (H.mk [[ls t Room.no], [ls t Room.no], [I (↑k : Int)], [AV.fn (Fn.func (66 : FuncId)) [] [AV.ptr 0 0]], [AV.sl [] (0 : Nat) Room.nil], [AV.fn (Fn.func (94 : FuncId)) [] [AV.ptr 4 0, AV.ptr 2 0, AV.ptr 3 0, AV.ptr 5 0, AV.ptr 1 0]]] [] []) = some (I (↑(alls t.length) : Int), H.mk [[ls t Room.no], [ls t Room.no], [I (↑k : Int)], [AV.fn (Fn.func (66 : FuncId)) [] [AV.ptr 0 0]], [AV.sl [] (0 : Nat) Room.nil], [AV.fn (Fn.func (94 : FuncId)) [] [AV.ptr 4 0, AV.ptr 2 0, AV.ptr 3 0, AV.ptr 5 0, AV.ptr 1 0]]] [] []) ∧ aCall (SofO dT [d70g.to]) (AV.fn (Fn.func 94) [] [AV.ptr 4 0, AV.ptr 2 0, AV.ptr 3 0, AV.ptr 5 0, AV.ptr 1 0]) [I (↑(alls t.length) : Int), I (↑(alls t.length) : Int)] (H.mk [[ls t Room.no], [ls t Room.no], [I (↑k : Int)], [AV.fn (Fn.func (66 : FuncId)) [] [AV.ptr 0 0]], [AV.sl [] (0 : Nat) Room.nil], [AV.fn (Fn.func (94 : FuncId)) [] [AV.ptr 4 0, AV.ptr 2 0, AV.ptr 3 0, AV.ptr 5 0, AV.ptr 1 0]]] [] []) = some (AV.bool false, H.mk ([ls t Room.no] :: [ls t Room.no] :: [I (↑k : Int)] :: [AV.fn (Fn.func (66 : FuncId)) [] [AV.ptr 0 0]] :: [rc] :: [AV.fn (Fn.func (94 : FuncId)) [] [AV.ptr 4 0, AV.ptr 2 0, AV.ptr 3 0, AV.ptr 5 0, AV.ptr 1 0]] :: [I (↑(alls t.length) : Int)] :: [AV.bool false] :: [I (dI (↑(alls t.length) : Int) (pc (alls t.length)))] :: zt) [] []) ∧ (AV.tup [rc, AV.bool false], H.mk ([ls t Room.no] :: [ls t Room.no] :: [I (↑k : Int)] :: [AV.fn (Fn.func (66 : FuncId)) [] [AV.ptr 0 0]] :: [rc] :: [AV.fn (Fn.func (94 : FuncId)) [] [AV.ptr 4 0, AV.ptr 2 0, AV.ptr 3 0, AV.ptr 5 0, AV.ptr 1 0]] :: [I (↑(alls t.length) : Int)] :: [AV.bool false] :: [I (dI (↑(alls t.length) : Int) (pc (alls t.length)))] :: zt) [] []) = (AV.tup [rc, AV.bool false], H.mk ([ls t Room.no] :: [ls t Room.no] :: [I (↑k : Int)] :: [AV.fn (Fn.func (66 : FuncId)) [] [AV.ptr 0 0]] :: [rc] :: [AV.fn (Fn.func (94 : FuncId)) [] [AV.ptr 4 0, AV.ptr 2 0, AV.ptr 3 0, AV.ptr 5 0, AV.ptr 1 0]] :: [I (↑(alls t.length) : Int)] :: [AV.bool false] :: [I (dI (↑(alls t.length) : Int) (pc (alls t.length)))] :: zt) [] [])) (by kernel_rfl) ?_
    refine ⟨hc70 _, ?_⟩
    refine ⟨hc70 _, ?_⟩
    refine ⟨hc, ?_⟩
    rfl
  exact hb.call ok64w (restsO mixed (by rw [hf]; rfl) (.pure d70g .nil)) rfl
theorem leaveTw {t : List Int} {k j : Nat} {l : List Int} (h8 : l.length ≤ 8) : leave ⟨0, 0, 0⟩ (.tup [rowV (9 + 2 * j + 1) l.length, I 0]) (hWtw t k j l) = (.tup [ls l .no, I 0], .nil) := by
  have hrow : (hWtw t k j l).blk[9 + 2 * j + 1]? = some (ints l) := by
    rw [show 9 + 2 * j + 1 = (2 * j + 1) + 9 by omega]
    show (List.replicate (9 + 2 * j + 1 - 9) ([] : List AV) ++ [ints l])[2 * j + 1]? = _
    rw [show 9 + 2 * j + 1 - 9 = 2 * j + 1 by omega, List.getElem?_append_right (by simp)]; simp
  have hb : AV.bnds 0 0 0 (ints l) = true := bnd_ints l
  have h1 : (ints l).take l.length = ints l := take_ints l
  have h2 : (ints l).map (frz 0 0 (hWtw t k j l) 4) = ints l := frz_ints 0 0 _ 2 l
  have hne : ¬ noCap = l.length := fun e => by rw [← e] at h8; exact absurd h8 (by decide)
  have hm : (hWtw t k j l).maps = [] := rfl
  generalize hh : hWtw t k j l = h at hrow h2 hm
  generalize hci : ints l = c at hrow h1 h2 hb
  simp [leave, frz, AV.bnd, AV.bnds, hrow, h1, h2, hb, Room.bnd, retok, hne, hm]
  exact hci.symm
abbrev M64 : FuncId → Bool := (· == 64)
theorem ok29 : FokM Tryd.prog M64 29 Tryd.f29 := ⟨mixed, by kernel_rfl, by kernel_rfl, by kernel_rfl, by kernel_rfl⟩
theorem r29s (t : List Int) (k : Nat) (l : List Int) (h : Tn t) (hI : inI t) (h3 : 3 ≤ k) (hk : k ≤ t.length) (hl : rowR t k true = some l) (hl8 : l.length ≤ 8) : CallOk Tryd.prog 29 [ls t .no, I k] .nil (.tup [ls l .no, I 0]) .nil := by
  have h8 := h.s.2
  have c1 : (3 : Int) ≤ (k : Int) := by omega
  have c2 : (k : Int) ≤ (t.length : Int) := by omega
  have hb := tn_t h
  obtain ⟨j0, g0, g1, g2⟩ := rowW_some (f := k - 1) h8 (by omega) hl
  have kk := b64s (k - 1) t k j0 l ⟨h, by omega, by omega⟩ g0 g2 g1
  obtain ⟨dT, hd⟩ : ∃ d : CtrB Tryd.prog 0, d = oneF 64 call64 _ _ _ _ kk := ⟨_, rfl⟩
  have hf : dT.f = 64 := by rw [hd]; rfl
  have p56 : (lim t.length ∧ rok t .no) ∧ inI t := ⟨⟨by simp only [lim]; omega, fun _ => no_ne⟩, hI⟩
  have hc : aCall (SofO dT [d56g.to]) (.fn (.func 64) [] []) [ls t .no, I k, fitW] (hT t) = some (.tup [rowV (9 + 2 * j0 + 1) l.length, .bool true], hWtw t k j0 l) := by
    subst hd
    exact acallO_hit (b := oneF 64 call64 _ _ _ _ kk) () rfl rfl
  have hc56 : aCall (SofO dT [d56g.to]) (.fn (.func 56) [] []) [ls t .no] (hT t) = some (.bool true, hT t) := acallO_skip (by rw [hf]; decide) (acall_b (acall_hit (c := d56g.to) (t, .no) _ rfl p56) hb)
  have hbd : Body ⟨Tryd.prog, SofO dT [d56g.to], Pof (P := Tryd.prog) [], H.nil.base, 300⟩ M64 Tryd.f29 [ls t .no, I k] .nil (.tup [ls l .no, I 0], .nil) := by
    refine body_s ([Ans.o (Orc.val 9 (AV.bool true) (H.mk [[ls t Room.no]] [] [])), Ans.o (Orc.b false), Ans.o (Orc.b false), Ans.o (Orc.val 25 (AV.tup [AV.msl ((9 : Nat) + (2 : Nat) * j0 + (1 : Nat)) (0 : Nat) l.length (9223372036854775808 : Nat) (1 : Nat), AV.bool true]) (H.mk ([ls t Room.no] :: [ls t Room.no] :: [I (↑k : Int)] :: [AV.fn (Fn.func (66 : FuncId)) [] [AV.ptr 0 0]] :: [AV.msl ((9 : Nat) + (2 : Nat) * j0 + (1 : Nat)) (0 : Nat) l.length (9223372036854775808 : Nat) (1 : Nat)] :: [AV.fn (Fn.func (94 : FuncId)) [] [AV.ptr 4 0, AV.ptr 2 0, AV.ptr 3 0, AV.ptr 5 0, AV.ptr 1 0]] :: [I (↑(alls t.length) : Int)] :: [AV.bool true] :: [I (dI (↑(alls t.length) : Int) j0)] :: (List.replicate ((9 : Nat) + (2 : Nat) * j0 + (1 : Nat) - (9 : Nat)) [] ++ [ints l])) [] []))]) (aCall (SofO dT [d56g.to]) (AV.fn (Fn.func 56) [] []) [ls t Room.no] (H.mk [[ls t Room.no]] [] []) = some (AV.bool true, H.mk [[ls t Room.no]] [] []) ∧ (3 : Int) ≤ (↑k : Int) ∧ (↑k : Int) ≤ (↑t.length : Int) ∧ aCall (SofO dT [d56g.to]) (AV.fn (Fn.func 64) [] []) [ls t Room.no, I (↑k : Int), AV.fn (Fn.func 66) [] [AV.ptr 0 0]] (H.mk [[ls t Room.no]] [] []) = some (AV.tup [AV.msl ((9 : Nat) + (2 : Nat) * j0 + (1 : Nat)) (0 : Nat) l.length (9223372036854775808 : Nat) (1 : Nat), AV.bool true], H.mk ([ls t Room.no] :: [ls t Room.no] :: [I (↑k : Int)] :: [AV.fn (Fn.func (66 : FuncId)) [] [AV.ptr 0 0]] :: [AV.msl ((9 : Nat) + (2 : Nat) * j0 + (1 : Nat)) (0 : Nat) l.length (9223372036854775808 : Nat) (1 : Nat)] :: [AV.fn (Fn.func (94 : FuncId)) [] [AV.ptr 4 0, AV.ptr 2 0, AV.ptr 3 0, AV.ptr 5 0, AV.ptr 1 0]] :: [I (↑(alls t.length) : Int)] :: [AV.bool true] :: [I (dI (↑(alls t.length) : Int) j0)] :: (List.replicate ((9 : Nat) + (2 : Nat) * j0 + (1 : Nat) - (9 : Nat)) [] ++ [ints l])) [] []) ∧ leave (Base.mk H.nil.blk.length H.nil.toks.length H.nil.maps.length) (AV.tup [AV.msl ((9 : Nat) + (2 : Nat) * j0 + (1 : Nat)) (0 : Nat) l.length (9223372036854775808 : Nat) (1 : Nat), I 0]) (H.mk ([ls t Room.no] :: [ls t Room.no] :: [I (↑k : Int)] :: [AV.fn (Fn.func (66 : FuncId)) [] [AV.ptr 0 0]] :: [AV.msl ((9 : Nat) + (2 : Nat) * j0 + (1 : Nat)) (0 : Nat) l.length (9223372036854775808 : Nat) (1 : Nat)] :: [AV.fn (Fn.func (94 : FuncId)) [] [AV.ptr 4 0, AV.ptr 2 0, AV.ptr 3 0, AV.ptr 5 0, AV.ptr 1 0]] :: [I (↑(alls t.length) : Int)] :: [AV.bool true] :: [I (dI (↑(alls t.length) : Int) j0)] :: (List.replicate ((9 : Nat) + (2 : Nat) * j0 + (1 : Nat) - (9 : Nat)) [] ++ [ints l])) [] []) = (AV.tup [ls l Room.no, I 0], H.mk [] [] [])) (by kernel_rfl) ?_
    refine ⟨hc56, ?_⟩
    refine ⟨by first | with_reducible assumption | omega | assumption, ?_⟩
    refine ⟨by first | with_reducible assumption | omega | assumption, ?_⟩
    refine ⟨hc, ?_⟩
    exact leaveTw hl8
  exact hbd.call ok29 (restsO (nt := 0) (nm := 0) mixed (by rw [hf]; rfl) (.pure d56g .nil)) rfl
theorem r29n (t : List Int) (k : Nat) (h : Tn t) (hI : inI t) (h3 : 3 ≤ k) (hk : k ≤ t.length) (hl : rowR t k true = none) : CallOk Tryd.prog 29 [ls t .no, I k] .nil (.tup [.sl [] 0 .nil, I 4]) .nil := by
  have h8 := h.s.2
  have c1 : (3 : Int) ≤ (k : Int) := by omega
  have c2 : (k : Int) ≤ (t.length : Int) := by omega
  have hb := tn_t h
  have kk := b64n (k - 1) t k ⟨h, by omega, by omega⟩ (rowW_none h8 (by omega) hl)
  obtain ⟨rc, hrc⟩ : ∃ rc, rc = RCw (pc (alls t.length)) := ⟨_, rfl⟩
  obtain ⟨hh, hhh⟩ : ∃ hh : H, hh = ⟨bVw t k (alls t.length) (alls t.length) (pc (alls t.length)), [], []⟩ := ⟨_, rfl⟩
  rw [← hrc, ← hhh] at kk
  have hm : hh.toks = [] ∧ hh.maps = [] := by rw [hhh]; exact ⟨rfl, rfl⟩
  obtain ⟨dT, hd⟩ : ∃ d : CtrB Tryd.prog 0, d = oneF 64 call64 _ _ _ _ kk := ⟨_, rfl⟩
  have hf : dT.f = 64 := by rw [hd]; rfl
  have p56 : (lim t.length ∧ rok t .no) ∧ inI t := ⟨⟨by simp only [lim]; omega, fun _ => no_ne⟩, hI⟩
  have hc : aCall (SofO dT [d56g.to]) (.fn (.func 64) [] []) [ls t .no, I k, fitW] (hT t) = some (.tup [rc, .bool false], hh) := by
    subst hd
    exact acallO_hit (b := oneF 64 call64 _ _ _ _ kk) () rfl rfl
  have hc56 : aCall (SofO dT [d56g.to]) (.fn (.func 56) [] []) [ls t .no] (hT t) = some (.bool true, hT t) := acallO_skip (by rw [hf]; decide) (acall_b (acall_hit (c := d56g.to) (t, .no) _ rfl p56) hb)
  have hbd : Body ⟨Tryd.prog, SofO dT [d56g.to], Pof (P := Tryd.prog) [], H.nil.base, 300⟩ M64 Tryd.f29 [ls t .no, I k] .nil (.tup [.sl [] 0 .nil, I 4], .nil) := by
    refine body_s ([Ans.o (Orc.val 9 (AV.bool true) (H.mk [[ls t Room.no]] [] [])), Ans.o (Orc.b false), Ans.o (Orc.b false), Ans.o (Orc.val 25 (AV.tup [rc, AV.bool false]) hh)]) (aCall (SofO dT [d56g.to]) (AV.fn (Fn.func 56) [] []) [ls t Room.no] (H.mk [[ls t Room.no]] [] []) = some (AV.bool true, H.mk [[ls t Room.no]] [] []) ∧ (3 : Int) ≤ (↑k : Int) ∧ (↑k : Int) ≤ (↑t.length : Int) ∧ aCall (SofO dT [d56g.to]) (AV.fn (Fn.func 64) [] []) [ls t Room.no, I (↑k : Int), AV.fn (Fn.func 66) [] [AV.ptr 0 0]] (H.mk [[ls t Room.no]] [] []) = some (AV.tup [rc, AV.bool false], hh) ∧ (AV.tup [AV.sl [] (0 : Nat) Room.nil, I 4], H.mk [] [] []) = (AV.tup [AV.sl [] (0 : Nat) Room.nil, I 4], H.mk [] [] [])) (by kernel_rfl) ?_
    refine ⟨hc56, ?_⟩
    refine ⟨by first | with_reducible assumption | omega | assumption, ?_⟩
    refine ⟨by first | with_reducible assumption | omega | assumption, ?_⟩
    refine ⟨hc, ?_⟩
    rfl
  exact hbd.call ok29 (restsO (nt := 0) (nm := 0) mixed (by rw [hf]; rfl) (.pure d56g .nil)) rfl
end
end Go.Proofs.Rnk

