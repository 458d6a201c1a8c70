/- Layer 2: the best order, by the reference. -/
import Derived.Test.YtnnhomkkggkkfaaDoorRkBr
import Derived.Test.YtnnhomkkggkkfaaDoorRkAs
import Derived.KernelRfl
set_option linter.unusedSimpArgs false
set_option linter.unusedVariables false
set_option linter.unnecessarySimpa false
set_option maxHeartbeats 4000000
set_option maxRecDepth 100000
namespace Go.Proofs.Rnk
open Go Go.VM

theorem QQ_best {t : List Int} (h : Tn t) (ht : tS (sn t) (alls t.length)) : QQ t t.length [] 0 0 (29, []) = (ag (sn t) (alls t.length), oT t) := by
  have h8 := h.s.2
  have hA := alls_lt h8
  have hp := pc_alls t.length (by omega)
  have h1 := (ag_spec (A := sn t) hA).1
  have h2 : c2 (pc (alls t.length)) ≤ c2 8 := c2_mono (by omega)
  have h3 : c2 8 = 28 := by decide
  have := ordM_spec (A := sn t) (n := t.length) h8 t.length [] 0 0 (alls t.length) (29, []) hp hA (fun i => by rw [alls_bit]; simp) ht
  show ordM (sn t) t.length t.length [] 0 0 (29, []) = _
  rw [this, crX_none, if_pos (by show 0 + 0 + _ < 29; omega)]
  simp only [Nat.zero_add, List.nil_append]
  rfl
theorem tS_tn {t : List Int} (h : Tn t) : tS (sn t) (alls t.length) := fun x y hx hy hne => by
  rw [alls_bit] at hx hy
  exact h.tot (by simpa using hx) (by simpa using hy) hne
/-- the search from its beginning -/
noncomputable def c76z : Ctr Tryd.prog where
  f := 76
  X := List Int × Room
  args x := [ls x.1 x.2, .sl [] 0 .nil, I 0, I 0, .ptr 0 0, .ptr 1 0]
  pre x h := h = ⟨[[I 29], [.sl [] 0 .nil]], [], []⟩ ∧ Tn x.1 ∧ rok x.1 x.2
  res x _ := (.tup [], hQ (ag (sn x.1) (alls x.1.length)) (oT x.1) [])
  det := by
    rintro ⟨t, r⟩ ⟨t', r'⟩ h e _ _
    simp only [List.cons.injEq, AV.sl.injEq, and_true] at e
    have e := ints_inj e.1
    subst e; rfl
  ok := by
    rintro ⟨t, r⟩ h ⟨h1, h2, h3⟩
    have h1 : h = hQ 29 [] [] := h1
    subst h1
    have := (c76 t.length (all76 t.length)).ok ((t, r), ([], .nil), (0, 0), (29, []), []) (hQ 29 [] []) ⟨rfl, ⟨h2, h3⟩, rfl, by simp, (by show 0 < 256; omega), (by show 0 ≤ _; omega)⟩
    have e := QQ_best h2 (tS_tn h2)
    refine ⟨this.1, ?_⟩
    have h4 := this.2
    simp only [c76, res76, e] at h4
    exact h4
noncomputable abbrev cs38 : List (Ctr Tryd.prog) := [c76z]
theorem ct38 : Ctrs Tryd.prog M76 cs38 := .eff _ rfl .nil
theorem ok38 : FokM Tryd.prog M76 38 Tryd.f38 := ⟨mixed, by kernel_rfl, by kernel_rfl, by kernel_rfl, by kernel_rfl⟩
theorem leaf38 {o o' : List Int} {u : Nat} (e : o = o') : leave ⟨0, 0, 0⟩ (lq o) ⟨[[I u], [lq o]], [], []⟩ = (lq o', .nil) := by
  subst e
  have hb : AV.bnds 0 0 0 (ints o) = true := enc_bnds ints_c1 o 0 0 0
  simp [leave, AV.bnd, hb]
theorem r38 (t : List Int) (r : Room) (h : Tn t) (hr : rok t r) : Body (En6 cs38) M76 Tryd.f38 [ls t r] .nil (lq (oT t), .nil) := by
  have p76 : (H.mk [[I 29], [.sl [] 0 .nil]] [] [] = H.mk [[I 29], [.sl [] 0 .nil]] [] []) ∧ Tn t ∧ rok t r := ⟨rfl, h, hr⟩
  refine body_s ([Ans.o (Orc.val 6 (AV.tup []) (H.mk [[I (↑(ag (sn t) (alls t.length)) : Int)], [AV.sl (ints (oT t)) (oT t).length (rq (oT t))]] [] []))]) (aCall (Sof cs38) (AV.fn (Fn.func (76 : Nat)) [] []) [AV.sl (ints t) t.length r, AV.sl [] (0 : Nat) Room.nil, I 0, I 0, AV.ptr 0 0, AV.ptr 1 0] (H.mk [[I 29], [AV.sl [] (0 : Nat) Room.nil]] [] []) = some (AV.tup [], H.mk [[I (↑(ag (sn t) (alls t.length)) : Int)], [AV.sl (ints (oT t)) (oT t).length (rq (oT t))]] [] []) ∧ leave (Base.mk H.nil.blk.length H.nil.toks.length H.nil.maps.length) (AV.sl (ints (oT t)) (oT t).length (rq (oT t))) (H.mk [[I (↑(ag (sn t) (alls t.length)) : Int)], [AV.sl (ints (oT t)) (oT t).length (rq (oT t))]] [] []) = (AV.sl (ints (oT t)) (oT t).length (rq (oT t)), H.mk [] [] [])) (by kernel_rfl) ?_
  refine ⟨acall_hit (c := c76z) (t, r) _ rfl p76, ?_⟩
  exact leaf38 rfl
/-- 'Order' of the reference -/
noncomputable def c38 : PCtr Tryd.prog := sctr ok38 (X := List Int × Room) (fun x => [ls x.1 x.2]) (fun x => Tn x.1 ∧ rok x.1 x.2) (fun x => lq (oT x.1))
  (by rintro ⟨l, r⟩ ⟨m, s⟩ e _ _; simp at e; simp only [e.1]) (fun x => by simp [AV.bnds, AV.bnd, AV.wk, rm_wk_bnd]) (fun x => by simp [AV.bnd, AV.bnds]) (fun x hx => ⟨_, _, _, ct38, r38 x.1 x.2.wk hx.1 (by simpa using hx.2)⟩)
end Go.Proofs.Rnk

