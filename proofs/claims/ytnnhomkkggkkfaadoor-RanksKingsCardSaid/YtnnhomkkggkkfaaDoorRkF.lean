/- Layer 2: the players of a set; whom a player nearly beats; kings. -/
import Derived.Test.YtnnhomkkggkkfaaDoorRkB
import Derived.Test.YtnnhomkkggkkfaaDoorRkE
import Derived.KernelRfl
set_option linter.unusedSimpArgs false
set_option linter.unusedVariables false
set_option linter.unnecessarySimpa false
set_option maxHeartbeats 4000000
set_option maxRecDepth 100000
namespace Go.Proofs.Rnk
open Go Go.VM
open Go.Proofs.Sur (andn andn_bit andn_le i_wrap i_and i_or i_andn i_shl i_shr bit_01)

theorem ok72 : FokM Tryd.prog none1 72 Tryd.f72 := ⟨mixed, by kernel_rfl, by kernel_rfl, by kernel_rfl, by kernel_rfl⟩
theorem r72 (blk : List (List AV)) (ts : List Nat) (ms : List (List (AV × AV))) (s : Int) :
    Body ⟨Tryd.prog, Sof (P := Tryd.prog) [], Pof (P := Tryd.prog) [], H.base ⟨blk, ts, ms⟩, 300⟩ none1 Tryd.f72 [I s] ⟨blk, ts, ms⟩ (.fn (.func 95) [] [.ptr blk.length 0], ⟨blk ++ [[I s]], ts, ms⟩) := by
  refine body_s ([]) (leave (Base.mk (H.mk blk ts ms).blk.length (H.mk blk ts ms).toks.length (H.mk blk ts ms).maps.length) (AV.fn (Fn.func (95 : Nat)) [] [AV.ptr (H.mk blk ts ms).blk.length (0 : Nat)]) (H.mk ((H.mk blk ts ms).blk ++ [[aev ([I s] ++ List.replicate (Tryd.f72.ntmps - [I s].length) AV.undef) (Operand.tmp (0 : Nat))]]) ts ms) = (AV.fn (Fn.func (95 : FuncId)) [] [AV.ptr blk.length (0 : Nat)], H.mk (blk ++ [[I s]]) ts ms)) (by kernel_rfl) ?_
  simp [leave, frz, AV.bnd, AV.bnds, aev]
/-- the players of a set -/
noncomputable def c72 : Ctr Tryd.prog where
  f := 72
  X := Int
  args x := [I x]
  pre _ _ := True
  res x h := (.fn (.func 95) [] [.ptr h.blk.length 0], ⟨h.blk ++ [[I x]], h.toks, h.maps⟩)
  det := by
    intro x y h e _ _
    simp only [List.cons.injEq, AV.int.injEq, true_and, and_true] at e
    rw [e]
  ok x h _ := ⟨ok72.call, (r72 h.blk h.toks h.maps x).run ok72 .nil rfl⟩
/-- a set without its least elements, as an integer -/
def dI (x : Int) : Nat → Int
  | 0 => x
  | k + 1 => (drop1 x.toNat (k + 1) : Nat)
theorem dI_eq {x : Int} (h : 0 ≤ x) : ∀ k, dI x k = ((drop1 x.toNat k : Nat) : Int)
  | 0 => by simp only [dI, drop1]; omega
  | _ + 1 => rfl
abbrev powI (b : Nat) (x : Int) (k : Nat) (h : H) : Prop := h.blk[b]? = some [I (dI x k)]
abbrev pnxI (b : Nat) (x : Int) (k : Nat) (h : H) : H := { h with blk := h.blk.set b [I (dI x (k + 1))] }
theorem players_itI {p : Pures} {β : Base} {b : Nat} {x : Int} (hx : s8 x) {h0 : H} (hh : h0.blk[b]? = some [I x]) :
    IterOk Tryd.prog β 95 [.ptr b 0] h0 h0 (pc x.toNat) (pxs x.toNat) (powI b x) (pnxI b x) := by
  have h0' : 0 ≤ x := hx.1
  have e1 : powI b x = pown b x.toNat := by funext k h; simp only [powI, pown, dI_eq h0']
  have e2 : pnxI b x = pnx b x.toNat := by funext k h; simp only [pnxI, pnx, dI_eq h0']
  rw [e1, e2]
  exact players_it (p := p) (by have := hx.2; omega) (by rw [← e1]; exact hh)
abbrev sn (t : List Int) (i : Nat) : Nat := (ia t i).toNat
theorem Tn.sn {t : List Int} (h : Tn t) (i : Nat) : sn t i < 256 ∧ ((sn t i : Nat) : Int) = ia t i := by have := h.s8 i; simp only [Rnk.sn, Rnk.s8] at *; omega
/-- a player, whom it beats, and whom the first k of them beat -/
def nrV (t : List Int) (p : Nat) : Nat → Nat
  | 0 => 2 ^ p ||| sn t p
  | k + 1 => nrV t p k ||| sn t (el (sn t p) k)
abbrev nrE (t : List Int) (p : Nat) : Nat := nrV t p (pc (sn t p))
theorem nrV_lt {t : List Int} (h : Tn t) {p : Nat} (hp : p < 8) : ∀ k, nrV t p k < 256
  | 0 => by
    have h1 : 2 ^ p < 2 ^ 8 := Nat.pow_lt_pow_right (by decide) hp
    exact Nat.or_lt_two_pow (n := 8) h1 (h.sn p).1
  | k + 1 => Nat.or_lt_two_pow (n := 8) (nrV_lt h hp k) (h.sn _).1
theorem el_mem {s k : Nat} (hk : k < pc s) : s.testBit (el s k) = true ∧ el s k < 8 := by
  have h : el s k ∈ els s := by
    have : k < (els s).length := hk
    rw [el, List.getD_eq_getElem?_getD, List.getElem?_eq_getElem this]
    exact List.getElem_mem this
  simp only [els, List.mem_filter, List.mem_range] at h
  exact ⟨h.2, h.1⟩
abbrev M72 : FuncId → Bool := (· == 72)
abbrev h69 (t : List Int) (r : Room) (p k : Nat) : H := ⟨[[ls t r], [I (nrV t p k : Nat)], [I (dI (ia t p) k)]], [], []⟩
abbrev o69 (t : List Int) (r : Room) (p : Nat) : List Out := [.mk Unit .normal [5] (fun _ => True) (fun _ => [.ptr 1 0]) (fun _ => h69 t r p (pc (sn t p))) (fun _ => [])]
theorem simp69 : allSimpleM M72 (rangeBody (rangeAt Tryd.f69 0)) = true := by kernel_rfl
theorem lp69 (t : List Int) (r : Room) (p : Nat) (h : Tn t) (hr : rok t r) (hp : p < t.length) :
    RangeS (En6 [c72]) (rangeAt Tryd.f69 0) 27 [2, 5, 18] [.ptr 0 0, .ptr 1 0, .fn (.func 95) [] [.ptr 2 0]] (h69 t r p 0) (o69 t r p) := by
  have hR : Rests (En6 [c72]) M72 := rests mixed (.eff c72 rfl .nil)
  have h8 := h.s.2
  refine range_at hR (by kernel_rfl) simp69 (players_itI (p := Pof (P := Tryd.prog) []) (b := 2) (x := ia t p) (h.s8 p) rfl) (fun u => rfl) (fun k => rfl) none (by intro nb h; cases h) (fun k h => h = h69 t r p k) rfl (by intro nb h; cases h) ?_ ?_
  · rintro k _ hk hown rfl
    have hm := el_mem hk
    have hl := (h.lt (i := p) (j := el (sn t p) k) hm.1).2
    have hri := rok_idx hr hl
    have hsn := (h.sn (el (sn t p) k))
    have hv := nrV_lt h (show p < 8 by omega) k
    have ev1 : IntKind.i64.wrap ((BitVec.ofInt IntKind.i64.bits ((nrV t p k : Nat) : Int) ||| BitVec.ofInt IntKind.i64.bits (t.getD (el (sn t p) k) i0)).toNat : Int) = ((nrV t p (k + 1) : Nat) : Int) := by
      have := i_or (a := nrV t p k) (b := sn t (el (sn t p) k)) (by omega) (by omega)
      rw [hsn.2] at this
      exact this
    refine ⟨[Ans.o (Orc.val 23 (AV.cptr (ints (List.drop (el (ia t p).toNat k) t))) H.nil), Ans.o (Orc.val 24 (I (t.getD (el (ia t p).toNat k) i0)) H.nil), Ans.o (Orc.val 25 (I (↑(nrV t p (k + (1 : Nat))) : Int)) H.nil)], fun u => of_eq (aIndexAddr Tryd.prog (22 : Nat) (AV.sl (ints t) t.length r) (I (↑(el (ia t p).toNat k) : Int)) = some (AV.cptr (ints (List.drop (el (ia t p).toNat k) t))) ∧ aLoad Tryd.prog (3 : Nat) (ints (List.drop (el (ia t p).toNat k) t)) = some (I (t.getD (el (ia t p).toNat k) i0)) ∧ aBin Tryd.prog BinOp.or (3 : Nat) (I (↑(nrV t p k) : Int)) (I (t.getD (el (ia t p).toNat k) i0)) = some (I (↑(nrV t p (k + (1 : Nat))) : Int)) ∧ True ∧ Keep (powI (2 : Nat) (ia t p) k (H.mk [[AV.sl (ints t) t.length r], [I (↑(nrV t p (k + (1 : Nat))) : Int)], [I (dI (ia t p) k)]] [] []) ∧ H.mk [[AV.sl (ints t) t.length r], [I (↑(nrV t p (k + (1 : Nat))) : Int)], [I (dI (ia t p) (k + (1 : Nat)))]] [] [] = H.mk [[AV.sl (ints t) t.length r], [I (↑(nrV t p (k + (1 : Nat))) : Int)], [I (dI (ia t p) (k + (1 : Nat)))]] [] [])) (by kernel_rfl) ?_⟩
    refine ⟨ix_ints (by kernel_rfl) hl hri, ?_⟩
    refine ⟨by first | exact ld_ints (by kernel_rfl) (by kernel_rfl) (by omega) | exact ldm_ints (by kernel_rfl) (by kernel_rfl) (by first | omega | (simp; omega)), ?_⟩
    refine ⟨told_or (by with_reducible assumption), ?_⟩
    refine ⟨by trivial, ?_⟩
    exact ⟨rfl, rfl⟩
  · rintro _ rfl u
    exact .inl ⟨(), trivial, rfl, rfl, rfl⟩
theorem ok69 : FokM Tryd.prog (· == 72) 69 Tryd.f69 := ⟨mixed, by kernel_rfl, by kernel_rfl, by kernel_rfl, by kernel_rfl⟩
theorem r69 (t : List Int) (r : Room) (p : Nat) (hp : (Tn t ∧ rok t r) ∧ p < t.length) : Body ⟨Tryd.prog, Sof (P := Tryd.prog) [c72], Pof (P := Tryd.prog) [], H.nil.base, 300⟩ (· == 72) Tryd.f69 [ls t r, I p] .nil (I (nrE t p : Nat), .nil) := by
  obtain ⟨⟨h, hr⟩, hl⟩ := hp
  have h8 := h.s.2
  have hri := rok_idx hr hl
  have hsn := h.sn p
  have ev1 := pw_shl (n := p) (by omega)
  have h1 : 2 ^ p < 2 ^ 8 := Nat.pow_lt_pow_right (by decide) (by omega)
  have ev2 : IntKind.i64.wrap ((BitVec.ofInt IntKind.i64.bits ((2 ^ p : Nat) : Int) ||| BitVec.ofInt IntKind.i64.bits (t.getD p i0)).toNat : Int) = ((nrV t p 0 : Nat) : Int) := by
    have := i_or (a := 2 ^ p) (b := sn t p) (by omega) (by omega)
    rw [hsn.2] at this
    exact this
  have lp := lp69 t r p h hr hl
  refine body_s ([Ans.o (Orc.val 8 (I (↑((2 : Nat) ^ p) : Int)) H.nil), Ans.o (Orc.val 11 (AV.cptr (ints (List.drop p t))) H.nil), Ans.o (Orc.val 12 (I (t.getD p i0)) H.nil), Ans.o (Orc.val 13 (I (↑(nrV t p (0 : Nat)) : Int)) H.nil), Ans.o (Orc.val 16 (AV.cptr (ints (List.drop p t))) H.nil), Ans.o (Orc.val 17 (I (t.getD p i0)) H.nil), Ans.o (Orc.val 18 (AV.fn (Fn.func (95 : FuncId)) [] [AV.ptr 2 0]) (H.mk [[AV.sl (ints t) t.length r], [I (↑(nrV t p (0 : Nat)) : Int)], [I (t.getD p i0)]] [] [])), Ans.loop [(2 : Nat), (5 : Nat), (18 : Nat)] [Out.mk Unit AX.normal [(5 : Nat)] (fun x => True) (fun x => [AV.ptr 1 0]) (fun x => h69 t r p (pc (sn t p))) fun y => []]]) (aBin Tryd.prog BinOp.shl (3 : Nat) (I 1) (I (↑p : Int)) = some (I (↑((2 : Nat) ^ p) : Int)) ∧ aIndexAddr Tryd.prog (22 : Nat) (AV.sl (ints t) t.length r) (I (↑p : Int)) = some (AV.cptr (ints (List.drop p t))) ∧ aLoad Tryd.prog (3 : Nat) (ints (List.drop p t)) = some (I (t.getD p i0)) ∧ aBin Tryd.prog BinOp.or (3 : Nat) (I (↑((2 : Nat) ^ p) : Int)) (I (t.getD p i0)) = some (I (↑(nrV t p (0 : Nat)) : Int)) ∧ aIndexAddr Tryd.prog (22 : Nat) (AV.sl (ints t) t.length r) (I (↑p : Int)) = some (AV.cptr (ints (List.drop p t))) ∧ aLoad Tryd.prog (3 : Nat) (ints (List.drop p t)) = some (I (t.getD p i0)) ∧ aCall (Sof [c72]) (AV.fn (Fn.func (72 : Nat)) [] []) [I (t.getD p i0)] (H.mk [[AV.sl (ints t) t.length r], [I (↑(nrV t p (0 : Nat)) : Int)]] [] []) = some (AV.fn (Fn.func (95 : FuncId)) [] [AV.ptr 2 0], H.mk [[AV.sl (ints t) t.length r], [I (↑(nrV t p (0 : Nat)) : Int)], [I (t.getD p i0)]] [] []) ∧ RangeS (Env.mk Tryd.prog (Sof [c72]) (Pof (P := Tryd.prog) []) H.nil.base (300 : Nat)) (rangeAt Tryd.f69 (0 : Nat)) (27 : Nat) [(2 : Nat), (5 : Nat), (18 : Nat)] [AV.ptr 0 0, AV.ptr 1 0, AV.fn (Fn.func (95 : FuncId)) [] [AV.ptr 2 0]] (H.mk [[AV.sl (ints t) t.length r], [I (↑(nrV t p (0 : Nat)) : Int)], [I (t.getD p i0)]] [] []) [Out.mk Unit AX.normal [(5 : Nat)] (fun x => True) (fun x => [AV.ptr 1 0]) (fun x => h69 t r p (pc (sn t p))) fun y => []] ∧ (∀ (y : Unit), True → ∀ (u : Nat → AV), (I (↑(nrV t p (pc (sn t p))) : Int), H.mk [] [] []) = (I (↑(nrE t p) : Int), H.mk [] [] [])) ∧ True) (by kernel_rfl) ?_
  refine ⟨by first | exact told_shl (by first | exact Int.natCast_nonneg _ | omega) (by with_reducible assumption) | exact told_shl (by omega) rfl, ?_⟩
  refine ⟨ix_ints (by kernel_rfl) hl hri, ?_⟩
  refine ⟨by first | exact ld_ints (by kernel_rfl) (by kernel_rfl) (by omega) | exact ldm_ints (by kernel_rfl) (by kernel_rfl) (by first | omega | (simp; omega)), ?_⟩
  refine ⟨told_or (by with_reducible assumption), ?_⟩
  refine ⟨ix_ints (by kernel_rfl) hl hri, ?_⟩
  refine ⟨by first | exact ld_ints (by kernel_rfl) (by kernel_rfl) (by omega) | exact ldm_ints (by kernel_rfl) (by kernel_rfl) (by first | omega | (simp; omega)), ?_⟩
  refine ⟨by (refine acall_hit (c := c72) (t.getD p i0) _ rfl ?_; trivial), ?_⟩
  refine ⟨lp, ?_⟩
  refine And.intro ?_ ?_
  · skip
    intro y
    intro w1
    intro u
    rfl
  · skip
    trivial
noncomputable def c69 : PCtr Tryd.prog := sctr ok69 (X := List Int × Room × Nat) (fun x => [ls x.1 x.2.1, I x.2.2]) (fun x => (Tn x.1 ∧ rok x.1 x.2.1) ∧ x.2.2 < x.1.length) (fun x => I (nrE x.1 x.2.2 : Nat)) (by intro x y e _ _; simp [Int.natCast_inj] at e; simp [e]) (fun x => by simp [AV.bnds, AV.bnd, AV.wk, rm_wk_bnd]) (fun x => by first | rfl | (simp [AV.bnd, rm_wk_bnd]; done)  | (simp [AV.bnd, AV.bnds, rm_wk_bnd]; done) | simp [AV.bnd, AV.bnds, Room.bnd, rm_wk_bnd]) (fun x hx => ⟨_, _, _, .eff c72 rfl (.nil), r69 (x.1) (x.2.1).wk (x.2.2) (by first | exact hx | (simp only [rok_wk]; exact hx) | (simp only [rok_wk, lst_wk]; exact hx) | (simp only [rok_wk, lst_wk, lsn_wk]; exact hx))⟩)
end Go.Proofs.Rnk

