/- Layer 2: the players of a set; whom a player nearly beats; kings. -/
import Derived.Test.YtnnhomkkggkkfaaDoorRkB
import Derived.Test.YtnnhomkkggkkfaaDoorRkE
import Derived.KernelRfl
set_option linter.unusedSimpArgs false
set_option linter.unusedVariables false
set_option linter.unnecessarySimpa false
set_option maxHeartbeats 4000000
set_option maxRecDepth 100000
namespace Go.Proofs.Rnk
open Go Go.VM
open Go.Proofs.Sur (andn andn_bit andn_le i_wrap i_and i_or i_andn i_shl i_shr bit_01)

theorem ok72 : FokM Tryd.prog none1 72 Tryd.f72 := ⟨mixed, by kernel_rfl, by kernel_rfl, by kernel_rfl, by kernel_rfl⟩
theorem r72 (blk : List (List AV)) (ts : List Nat) (ms : List (List (AV × AV))) (s : Int) :
    Body ⟨Tryd.prog, Sof (P := Tryd.prog) [], Pof (P := Tryd.prog) [], H.base ⟨blk, ts, ms⟩, 300⟩ none1 Tryd.f72 [I s] ⟨blk, ts, ms⟩ (.fn (.func 95) [] [.ptr blk.length 0], ⟨blk ++ [[I s]], ts, ms⟩) := by
  refine body_s ([]) (leave (Base.mk (H.mk blk ts ms).blk.length (H.mk blk ts ms).toks.length (H.mk blk ts ms).maps.length) (AV.fn (Fn.func 95) [] [AV.ptr (H.mk blk ts ms).blk.length (0 : Nat)]) (H.mk ((H.mk blk ts ms).blk ++ [[aev ([I s] ++ List.replicate (Tryd.f72.ntmps - [I s].length) AV.undef) (Operand.tmp (0 : Nat))]]) ts ms) = (AV.fn (Fn.func (95 : FuncId)) [] [AV.ptr blk.length (0 : Nat)], H.mk (blk ++ [[I s]]) ts ms)) (by kernel_rfl) ?_
  simp [leave, frz, AV.bnd, AV.bnds, aev]
noncomputable def c72 : Ctr Tryd.prog where
  f := 72
  X := Int
  args x := [I x]
  pre _ _ := True
  res x h := (.fn (.func 95) [] [.ptr h.blk.length 0], ⟨h.blk ++ [[I x]], h.toks, h.maps⟩)
  det := by
    intro x y h e _ _
    simp only [List.cons.injEq, AV.int.injEq, true_and, and_true] at e
    rw [e]
  ok x h _ := ⟨ok72.call, (r72 h.blk h.toks h.maps x).run ok72 .nil rfl⟩
def dI (x : Int) : Nat → Int
  | 0 => x
  | k + 1 => (drop1 x.toNat (k + 1) : Nat)
theorem dI_eq {x : Int} (h : 0 ≤ x) : ∀ k, dI x k = ((drop1 x.toNat k : Nat) : Int)
  | 0 => by simp only [dI, drop1]; omega
  | _ + 1 => rfl
abbrev powI (b : Nat) (x : Int) (k : Nat) (h : H) : Prop := h.blk[b]? = some [I (dI x k)]
abbrev pnxI (b : Nat) (x : Int) (k : Nat) (h : H) : H := { h with blk := h.blk.set b [I (dI x (k + 1))] }
theorem players_itI {p : Pures} {β : Base} {b : Nat} {x : Int} (hx : s8 x) {h0 : H} (hh : h0.blk[b]? = some [I x]) :
    IterOk Tryd.prog β 95 [.ptr b 0] h0 h0 (pc x.toNat) (pxs x.toNat) (powI b x) (pnxI b x) := by
  have h0' : 0 ≤ x := hx.1
  have e1 : powI b x = pown b x.toNat := by funext k h; simp only [powI, pown, dI_eq h0']
  have e2 : pnxI b x = pnx b x.toNat := by funext k h; simp only [pnxI, pnx, dI_eq h0']
  rw [e1, e2]
  exact players_it (p := p) (by have := hx.2; omega) (by rw [← e1]; exact hh)
abbrev sn (t : List Int) (i : Nat) : Nat := (ia t i).toNat
theorem Tn.sn {t : List Int} (h : Tn t) (i : Nat) : sn t i < 256 ∧ ((sn t i : Nat) : Int) = ia t i := by have := h.s8 i; simp only [Rnk.sn, Rnk.s8] at *; omega
theorem el_mem {s k : Nat} (hk : k < pc s) : s.testBit (el s k) = true ∧ el s k < 8 := by
  have h : el s k ∈ els s := by
    have : k < (els s).length := hk
    rw [el, List.getD_eq_getElem?_getD, List.getElem?_eq_getElem this]
    exact List.getElem_mem this
  simp only [els, List.mem_filter, List.mem_range] at h
  exact ⟨h.2, h.1⟩
abbrev M72 : FuncId → Bool := (· == 72)
end Go.Proofs.Rnk

