/- Layer 4: Tree, as a contract. -/
import Derived.Test.YtdnidpojcocklaaDoorLnBd
import Derived.Test.YtdnidpojcocklaaDoorLnBm
import Derived.Test.YtdnidpojcocklaaDoorLnC
import Derived.KernelRfl
set_option linter.unusedSimpArgs false
set_option linter.unusedVariables false
set_option linter.unnecessarySimpa false
set_option maxHeartbeats 4000000
set_option maxRecDepth 100000
namespace Go.Proofs.Lrn
open Go Go.VM
/-- the tree of a class -/
noncomputable abbrev trL (p : Int) (b : BitVec 32) : List Tri := tre p (dimV p b).toNat b 0
theorem trL_len (p : Int) (b : BitVec 32) : (trL p b).length = tn (dimV p b).toNat := tre_len p _ b 0
theorem tn_32 {p : Int} {b : BitVec 32} (hp : p5 p) (hb : b ≠ 0#32) : 2 ^ (dimV p b).toNat ≤ 32 := by
  have h1 := dim_pow hp 33 b (by have := pc_le b; omega) hb
  have := pc_le b
  omega
theorem k52g (p : Int) (l : List Int) (r : Room) (h : cls p l ∧ rok l r) : callable Tryd.prog 52 = true ∧ ∀ H, CallOk Tryd.prog 52 [I p, ls l r] H (.tup [cA p (sOf l), .bool true]) H := c52g.ok (p, l, r) h
theorem k58g (p : Int) (b : BitVec 32) (h : p5 p) : callable Tryd.prog 58 = true ∧ ∀ H, CallOk Tryd.prog 58 [cA p b] H (I (dimV p b)) H := c58.ok (p, b) h
theorem leaveN {B : List (List AV)} {L : List Tri} {R n : Nat} (hR : B[R]? = some (trisA L)) (hn : L.length = n) (h8 : n ≤ 1000) : leave ⟨0, 0, 0⟩ (.tup [rN R n, I 0]) ⟨B, [], []⟩ = (.tup [.sl (trisA L) n .no, I 0], .nil) := by
  have hb : AV.bnds 0 0 0 (trisA L) = true := trisA_bnds 0 0 0 L
  have h1 : (trisA L).take (n * 3) = trisA L := List.take_of_length_le (by rw [trisA_len]; omega)
  have h2 : (trisA L).map (frz 0 0 ⟨B, [], []⟩ 4) = trisA L := triR.cells_frz 0 0 _ 3 L
  have hne : ¬ noCap = n := fun e => by rw [← e] at h8; exact absurd h8 (by decide)
  generalize hc : trisA L = c at hR hb h1 h2
  simp [leave, frz, AV.bnd, AV.bnds, hR, h1, h2, hb, Room.bnd, retok, hne]
section
attribute [local instance] wrN
def oneN (args : List AV) (h : H) (v : AV) (h' : H) (ok : CallOkB Tryd.prog 0 59 args h v h') : CtrB Tryd.prog 0 where
  f := 59
  X := Unit
  args _ := args
  pre _ g := g = h
  res _ _ := (v, h')
  det _ _ _ _ _ _ := rfl
  ok _ g hg := by subst hg; exact ⟨ok59.call, ok⟩
noncomputable def d52 : PCtr Tryd.prog where
  f := 52
  X := Int × List Int × Room
  args q := [I q.1, ls q.2.1 q.2.2]
  pre q := cls q.1 q.2.1 ∧ rok q.2.1 q.2.2
  v q := .tup [cA q.1 (sOf q.2.1), .bool true]
  det := by
    rintro ⟨p, l, r⟩ ⟨p', l', r'⟩ e _ _
    simp at e
    simp [e]
  ok q hq := ⟨(k52g q.1 q.2.1 q.2.2 hq).1, fun H => CallOk.up (fun _ => rfl) ((k52g q.1 q.2.1 q.2.2 hq).2 H)⟩
noncomputable def d58 : PCtr Tryd.prog where
  f := 58
  X := Int × BitVec 32
  args q := [cA q.1 q.2]
  pre q := p5 q.1
  v q := I (dimV q.1 q.2)
  det := by
    rintro ⟨p, b⟩ ⟨p', b'⟩ e _ _
    simp at e
    simp [e]
  ok q hq := ⟨(k58g q.1 q.2 hq).1, fun H => CallOk.up (fun _ => rfl) ((k58g q.1 q.2 hq).2 H)⟩
theorem ok25 : FokM Tryd.prog M59 25 Tryd.f25 := ⟨mixed, by kernel_rfl, by kernel_rfl, by kernel_rfl, by kernel_rfl⟩
theorem r25 (p : Int) (l : List Int) (r : Room) (h : cls p l ∧ rok l r) (d : Nat) (hd : dimV p (sOf l) = (d : Int)) (v : AV) (B : List (List AV)) (V : AV)
    (kk : CallOkB Tryd.prog 0 59 [cA p (sOf l), .sl [] 0 .nil, I d] ⟨[bx p (sOf l)], [], []⟩ v ⟨B, [], []⟩) (hv : leave ⟨0, 0, 0⟩ (.tup [v, I 0]) ⟨B, [], []⟩ = (.tup [V, I 0], .nil)) :
    CallOk Tryd.prog 25 [I p, ls l r] .nil (.tup [V, I 0]) .nil := by
  obtain ⟨dT, hT⟩ : ∃ b : CtrB Tryd.prog 0, b = oneN _ _ _ _ kk := ⟨_, rfl⟩
  have hf : dT.f = 59 := by rw [hT]; rfl
  have h5 := h.1.1
  have hc : aCall (SofO dT [d52.to, d58.to]) (.fn (.func 59) [] []) [cA p (sOf l), .sl [] 0 .nil, I d] ⟨[bx p (sOf l)], [], []⟩ = some (v, ⟨B, [], []⟩) := by
    subst hT
    exact acallO_hit (b := oneN _ _ _ _ kk) () rfl rfl
  have hc52 : ∀ H, aCall (SofO dT [d52.to, d58.to]) (.fn (.func 52) [] []) [I p, ls l r] H = some (.tup [cA p (sOf l), .bool true], H) := fun H => acallO_skip (by rw [hf]; decide) (acall_hit (c := d52.to) (p, l, r) _ rfl h)
  have hc58 : ∀ H, aCall (SofO dT [d52.to, d58.to]) (.fn (.func 58) [] []) [cA p (sOf l)] H = some (I d, H) := fun H => by
    rw [← hd]; exact acallO_skip (by rw [hf]; decide) (acall_hit (c := d58.to) (p, sOf l) _ rfl h5)
  have hb : Body ⟨Tryd.prog, SofO dT [d52.to, d58.to], Pof (P := Tryd.prog) [], H.nil.base, 300⟩ M59 Tryd.f25 [I p, ls l r] .nil (.tup [V, I 0], .nil) := by
    have hc58' := hc58 ⟨[bx p (sOf l)], [], []⟩
    refine body_s ([Ans.o (Orc.val 11 (AV.tup [AV.agg [I p, AV.int IntKind.u32 (↑(sOf l).toNat : Int)], AV.bool true]) (H.mk [] [] [])), Ans.o (Orc.val 18 (I (↑d : Int)) (H.mk [[I p, AV.int IntKind.u32 (↑(sOf l).toNat : Int)]] [] [])), Ans.o (Orc.val 19 v (H.mk B [] []))]) (aCall (SofO dT [d52.to, d58.to]) (AV.fn (Fn.func (52 : Nat)) [] []) [I p, AV.sl (ints l) l.length r] (H.mk [] [] []) = some (AV.tup [AV.agg [I p, AV.int IntKind.u32 (↑(sOf l).toNat : Int)], AV.bool true], H.mk [] [] []) ∧ aCall (SofO dT [d52.to, d58.to]) (AV.fn (Fn.func (58 : Nat)) [] []) [AV.agg [I p, AV.int IntKind.u32 (↑(sOf l).toNat : Int)]] (H.mk [[I p, AV.int IntKind.u32 (↑(sOf l).toNat : Int)]] [] []) = some (I (↑d : Int), H.mk [[I p, AV.int IntKind.u32 (↑(sOf l).toNat : Int)]] [] []) ∧ aCall (SofO dT [d52.to, d58.to]) (AV.fn (Fn.func (59 : Nat)) [] []) [AV.agg [I p, AV.int IntKind.u32 (↑(sOf l).toNat : Int)], AV.sl [] (0 : Nat) Room.nil, I (↑d : Int)] (H.mk [[I p, AV.int IntKind.u32 (↑(sOf l).toNat : Int)]] [] []) = some (v, H.mk B [] []) ∧ leave (Base.mk H.nil.blk.length H.nil.toks.length H.nil.maps.length) (AV.tup [v, I 0]) (H.mk B [] []) = (AV.tup [V, I 0], H.mk [] [] [])) (by kernel_rfl) ?_
    refine ⟨hc52 _, ?_⟩
    refine ⟨hc58 _, ?_⟩
    refine ⟨hc, ?_⟩
    exact hv
  exact hb.call ok25 (restsO (nt := 0) (nm := 0) mixed (by rw [hf]; rfl) (.pure _ (.pure _ .nil))) rfl
end
/-- the room of the tree -/
def tR (d : Nat) : Room := if d = 0 then .nil else .no
theorem cls_ne {p : Int} {l : List Int} (h : cls p l) : sOf l ≠ 0#32 := fun e => by
  have h1 := h.2.1
  have h2 := (sOf_nil (cls_in h)).1 e
  rw [h2] at h1
  simp at h1
theorem k25 (p : Int) (l : List Int) (r : Room) (h : cls p l ∧ rok l r) : CallOk Tryd.prog 25 [I p, ls l r] .nil (.tup [.sl (trisA (trL p (sOf l))) (trL p (sOf l)).length (tR (dimV p (sOf l)).toNat), I 0]) .nil := by
  have h5 := h.1.1
  have hne := cls_ne h.1
  have h32 := tn_32 h5 hne
  have hpos := dimV_pos (p := p) hne
  obtain ⟨d, hd⟩ : ∃ d : Nat, dimV p (sOf l) = (d : Int) := ⟨(dimV p (sOf l)).toNat, by omega⟩
  have hlen := trL_len p (sOf l)
  have e : (dimV p (sOf l)).toNat = d := by omega
  rw [trL] at hlen ⊢
  rw [e] at h32 hlen ⊢
  refine @CallOk.up wrN _ (fun _ => rfl) _ _ _ _ _ _ ?_
  match d with
  | 0 => exact r25 p l r h 0 hd _ _ _ (t59z p (sOf l) (c59 0 (all59w 0)) rfl) rfl
  | 1 =>
    have k := t59a (c59 0 (all59w 0)) rfl p (sOf l) ⟨h5, by omega, by omega, by omega⟩
    refine r25 p l r h 1 hd _ _ _ k ?_
    rw [hlen]
    exact leaveN (R := 2) (L := tre p 1 (sOf l) 0) rfl (tre_len p 1 _ 0) (by decide)
  | d + 2 =>
    have k := t59s d p (sOf l) ⟨h5, by omega, by omega, by omega⟩
    refine r25 p l r h (d + 2) hd _ _ _ k ?_
    rw [hlen]
    exact leaveN (R := 4) (L := tre p (d + 2) (sOf l) 0) rfl (tre_len p (d + 2) _ 0) (by simp only [tn]; omega)
/-- 'Tree' of a class -/
noncomputable def c25 : PCtr Tryd.prog where
  f := 25
  X := Int × List Int × Room
  args q := [I q.1, ls q.2.1 q.2.2]
  pre q := cls q.1 q.2.1 ∧ rok q.2.1 q.2.2
  v q := .tup [.sl (trisA (trL q.1 (sOf q.2.1))) (trL q.1 (sOf q.2.1)).length (tR (dimV q.1 (sOf q.2.1)).toNat), I 0]
  det := by
    rintro ⟨p, l, r⟩ ⟨p', l', r'⟩ e _ _
    simp at e
    simp [e]
  ok := by
    rintro ⟨p, l, r⟩ h
    refine ⟨ok25.call, fun H => CallOk.wk ?_⟩
    have := pure_call (k25 p l r.wk ⟨h.1, by simpa using h.2⟩) (by simp [AV.bnds, AV.bnd, rm_wk_bnd]) (by simp only [tR]; split <;> simp [AV.bnd, AV.bnds, Room.bnd]) H
    exact this
end Go.Proofs.Lrn

