/- Layer 3: a small table is settled. -/
import Derived.Test.YtheoddlhpklccaaTkB
import Derived.Test.YtheoddlhpklccaaTkC
import Derived.KernelRfl
set_option linter.unusedSimpArgs false
set_option linter.unusedVariables false
set_option linter.unnecessarySimpa false
set_option maxHeartbeats 4000000
set_option maxRecDepth 100000
namespace Go.Proofs.Tlk
open Go Go.VM
noncomputable def c76 (cs : List AV) (h : Cs cs) : Ctr Try.prog :=
  fctr ok76 (hC cs) (X := Nat) (fun c => [.ptr 2 0, .agg [I 1, I c]]) (fun c => c = 1 ∨ c = 2 ∨ c = 3) st76
    (by intro x y e _ _; simp [Int.natCast_inj] at e; rw [e]) (hC_closed h) (fun _ _ => rfl) (fun x hx => by rcases hx with rfl | rfl | rfl <;> rfl)
    (fun x hx => ⟨_, _, _, .rd _ (c80_reads cs h) (.rd _ (c51_reads cs h) (.pure c79 .nil)), r76 cs h x hx⟩)
theorem c76_reads (cs : List AV) (h : Cs cs) : (c76 cs h).Reads := fctr_reads ..
noncomputable def c75 : Ctr Try.prog where
  f := 75
  X := Nat × Nat
  args x := [.ptr x.1 x.2]
  pre _ _ := True
  res x h := (.fn (.func 87) [] [.ptr h.blk.length 0], ⟨h.blk ++ [[.ptr x.1 x.2]], h.toks, h.maps⟩)
  det := by
    rintro ⟨a, b⟩ ⟨c, d⟩ h e _ _
    simp at e
    rw [e.1, e.2]
  ok x h _ := ⟨ok75.call, (r75 h.blk h.toks h.maps x.1 x.2).run ok75 .nil rfl⟩
theorem ok50 : FokM Try.prog (· == 75) 50 Try.f50 := ⟨mixed, by kernel_rfl, by kernel_rfl, by kernel_rfl, by kernel_rfl⟩
theorem simp50 : allSimpleM (· == 75) (rangeBody (rangeAt Try.f50 0)) = true := by kernel_rfl
/-- the debate's cells at first -/
def cs0 : List AV := tb ++ List.replicate 768 (I 0)
/-- the heap at a round -/
abbrev hD (cs : List AV) : H := ⟨[tb, tb, cs, [.ptr 2 0], [.ptr 2 0]], [], []⟩
/-- what is asked of the debate's cells at first and at last -/
structure Cz (cs cs' : List AV) : Prop where
  c : Cs cs
  bld : aBuild Try.prog 103 [(0, .agg tb)] = some (.agg cs)
  s1 : aStore Try.prog (H.mk [tb] [] []).base 73 (.ptr 2 55) st0 ⟨[tb, tb, cs, [.ptr 2 0], [.ptr 2 0], [I 1, I 1]], [], []⟩ = some ⟨[tb, tb, cs, [.ptr 2 0], [.ptr 2 0], [I 1, I 1]], [], []⟩
  s2 : aStore Try.prog (H.mk [tb] [] []).base 73 (.ptr 2 58) st0 ⟨[tb, tb, cs, [.ptr 2 0], [.ptr 2 0], [I 1, I 2]], [], []⟩ = some ⟨[tb, tb, cs, [.ptr 2 0], [.ptr 2 0], [I 1, I 2]], [], []⟩
  s3 : aStore Try.prog (H.mk [tb] [] []).base 73 (.ptr 2 61) (.agg [I 1, I 2, I 1]) ⟨[tb, tb, cs, [.ptr 2 0], [.ptr 2 0], [I 1, I 3]], [], []⟩ = some ⟨[tb, tb, cs', [.ptr 2 0], [.ptr 2 0], [I 1, I 3]], [], []⟩
  p0 : cs[0]? = some (I 1)
  p1 : cs[1]? = some (I 3)
  bn' : AV.bnds 0 0 0 cs' = true
  p0' : cs'[0]? = some (I 1)
  p1' : cs'[1]? = some (I 3)
noncomputable abbrev EnD (cs : List AV) (h : Cs cs) : Env := ⟨Try.prog, Sof (P := Try.prog) [c75, c76 cs h], Pof (P := Try.prog) [], (H.mk [tb] [] []).base, 300⟩
def o50 (cs' : List AV) : List Out := [.mk Unit .normal [3] (fun _ => True) (fun _ => [.ptr 3 0]) (fun _ => hD cs') (fun _ => [])]
theorem lp50 (cs cs' : List AV) (hc : Cs cs) (h : Cz cs cs') : RangeS (EnD cs hc) (rangeAt Try.f50 0) 26 [3, 11] [.ptr 3 0, .fn (.func 87) [] [.ptr 4 0]] (hD cs) (o50 cs') := by
  have hR : Rests (EnD cs hc) (· == 75) := rests mixed (.eff c75 rfl (.rd _ (c76_reads cs hc) .nil))
  have s1 := h.s1
  have s2 := h.s2
  have s3 := h.s3
  have hbn : ∀ cs z, AV.bnds 0 0 0 cs = true → (H.mk [tb, tb, cs, [.ptr 2 0], [.ptr 2 0], z] [] []).clean 5 := fun cs z hb x hx => by
    simp only [List.take_succ_cons, List.take_zero, List.mem_cons, List.not_mem_nil, or_false] at hx
    rcases hx with rfl | rfl | rfl | rfl | rfl
    · rfl
    · rfl
    · exact AV.bnds_mono (Nat.zero_le _) (Nat.zero_le _) (Nat.zero_le _) _ hb
    · rfl
    · rfl
  have hH : ∀ z, Has 4 2 0 1 3 ⟨[tb, tb, cs, [.ptr 2 0], [.ptr 2 0]] ++ z, [], []⟩ := fun _ => ⟨rfl, cs, rfl, h.p0, h.p1⟩
  have hH' : ∀ z, Has 4 2 0 1 3 ⟨[tb, tb, cs', [.ptr 2 0], [.ptr 2 0]] ++ z, [], []⟩ := fun _ => ⟨rfl, cs', rfl, h.p0', h.p1'⟩
  refine range_at hR (by kernel_rfl) simp50 (rect_it (p := Pof (P := Try.prog) []) (S := Sof (P := Try.prog) []) (sof_ok _) (b := 4) (tb := 2) (to := 0) (na := 1) (nb := 3) (by decide) (by decide) (by decide) (hH [])) (fun u => rfl) (fun k => rfl) (some 5) (by intro nb h; cases h; decide) (fun k h => h = if k < 3 then hD cs else hD cs') rfl (by intro nb h k h' e; cases h; rw [e]; split <;> exact Nat.le_refl 5) ?_ ?_
  · rintro k _ hk hown rfl
    match k, hk with
    | 0, _ =>
      refine ⟨[Ans.o (Orc.val 20 (AV.agg [I 0, I 0, I 0]) (H.mk [[I 1, I 3, I 1, I 2], [I 1, I 3, I 1, I 2], cs, [AV.ptr 2 0], [AV.ptr 2 0], [I 1, I 1]] [] [])), Ans.o (Orc.val 9999 (AV.tup []) (H.mk [tb, tb, cs, [AV.ptr 2 0], [AV.ptr 2 0], [I 1, I 1]] [] []))], fun u => of_eq (aCall (Sof [c75, c76 cs hc]) (AV.fn (Fn.func (76 : Nat)) [] []) [AV.ptr 2 0, AV.agg [I 1, I 1]] (H.mk [[I 1, I 3, I 1, I 2], [I 1, I 3, I 1, I 2], cs, [AV.ptr 2 0], [AV.ptr 2 0], [I 1, I 1]] [] []) = some (AV.agg [I 0, I 0, I 0], H.mk [[I 1, I 3, I 1, I 2], [I 1, I 3, I 1, I 2], cs, [AV.ptr 2 0], [AV.ptr 2 0], [I 1, I 1]] [] []) ∧ aStore Try.prog (H.mk [tb] [] []).base (73 : Nat) (AV.ptr 2 55) (AV.agg [I 0, I 0, I 0]) (H.mk [[I 1, I 3, I 1, I 2], [I 1, I 3, I 1, I 2], cs, [AV.ptr 2 0], [AV.ptr 2 0], [I 1, I 1]] [] []) = some (H.mk [[I 1, I 3, I 1, I 2], [I 1, I 3, I 1, I 2], cs, [AV.ptr 2 0], [AV.ptr 2 0], [I 1, I 1]] [] []) ∧ True ∧ Keep ((H.mk [[I 1, I 3, I 1, I 2], [I 1, I 3, I 1, I 2], cs, [AV.ptr 2 0], [AV.ptr 2 0], [I 1, I 1]] [] []).clean (5 : Nat) ∧ Has (4 : Nat) (2 : Nat) (0 : Nat) (1 : Nat) (3 : Nat) (H.mk [[I 1, I 3, I 1, I 2], [I 1, I 3, I 1, I 2], cs, [AV.ptr 2 0], [AV.ptr 2 0]] [] []) ∧ H.mk [[I 1, I 3, I 1, I 2], [I 1, I 3, I 1, I 2], cs, [AV.ptr 2 0], [AV.ptr 2 0]] [] [] = H.mk [[I 1, I 3, I 1, I 2], [I 1, I 3, I 1, I 2], cs, [AV.ptr 2 0], [AV.ptr 2 0]] [] [])) (by kernel_rfl) ?_⟩
      refine ⟨by first | (refine acall_hit (c := c76 cs hc) (1 : Nat) _ rfl ?_; exact ⟨by simp, _, rfl⟩), ?_⟩
      refine ⟨s1, ?_⟩
      refine ⟨by trivial, ?_⟩
      exact ⟨hbn _ _ hc.b, hH [], rfl⟩
    | 1, _ =>
      refine ⟨[Ans.o (Orc.val 20 (AV.agg [I 0, I 0, I 0]) (H.mk [[I 1, I 3, I 1, I 2], [I 1, I 3, I 1, I 2], cs, [AV.ptr 2 0], [AV.ptr 2 0], [I 1, I 2]] [] [])), Ans.o (Orc.val 9999 (AV.tup []) (H.mk [tb, tb, cs, [AV.ptr 2 0], [AV.ptr 2 0], [I 1, I 2]] [] []))], fun u => of_eq (aCall (Sof [c75, c76 cs hc]) (AV.fn (Fn.func (76 : Nat)) [] []) [AV.ptr 2 0, AV.agg [I 1, I 2]] (H.mk [[I 1, I 3, I 1, I 2], [I 1, I 3, I 1, I 2], cs, [AV.ptr 2 0], [AV.ptr 2 0], [I 1, I 2]] [] []) = some (AV.agg [I 0, I 0, I 0], H.mk [[I 1, I 3, I 1, I 2], [I 1, I 3, I 1, I 2], cs, [AV.ptr 2 0], [AV.ptr 2 0], [I 1, I 2]] [] []) ∧ aStore Try.prog (H.mk [tb] [] []).base (73 : Nat) (AV.ptr 2 58) (AV.agg [I 0, I 0, I 0]) (H.mk [[I 1, I 3, I 1, I 2], [I 1, I 3, I 1, I 2], cs, [AV.ptr 2 0], [AV.ptr 2 0], [I 1, I 2]] [] []) = some (H.mk [[I 1, I 3, I 1, I 2], [I 1, I 3, I 1, I 2], cs, [AV.ptr 2 0], [AV.ptr 2 0], [I 1, I 2]] [] []) ∧ True ∧ Keep ((H.mk [[I 1, I 3, I 1, I 2], [I 1, I 3, I 1, I 2], cs, [AV.ptr 2 0], [AV.ptr 2 0], [I 1, I 2]] [] []).clean (5 : Nat) ∧ Has (4 : Nat) (2 : Nat) (0 : Nat) (1 : Nat) (3 : Nat) (H.mk [[I 1, I 3, I 1, I 2], [I 1, I 3, I 1, I 2], cs, [AV.ptr 2 0], [AV.ptr 2 0]] [] []) ∧ H.mk [[I 1, I 3, I 1, I 2], [I 1, I 3, I 1, I 2], cs, [AV.ptr 2 0], [AV.ptr 2 0]] [] [] = H.mk [[I 1, I 3, I 1, I 2], [I 1, I 3, I 1, I 2], cs, [AV.ptr 2 0], [AV.ptr 2 0]] [] [])) (by kernel_rfl) ?_⟩
      refine ⟨by first | (refine acall_hit (c := c76 cs hc) (2 : Nat) _ rfl ?_; exact ⟨by simp, _, rfl⟩), ?_⟩
      refine ⟨s2, ?_⟩
      refine ⟨by trivial, ?_⟩
      exact ⟨hbn _ _ hc.b, hH [], rfl⟩
    | 2, _ =>
      refine ⟨[Ans.o (Orc.val 20 (AV.agg [I 1, I 2, I 1]) (H.mk [[I 1, I 3, I 1, I 2], [I 1, I 3, I 1, I 2], cs, [AV.ptr 2 0], [AV.ptr 2 0], [I 1, I 3]] [] [])), Ans.o (Orc.val 9999 (AV.tup []) (H.mk [tb, tb, cs', [AV.ptr 2 0], [AV.ptr 2 0], [I 1, I 3]] [] []))], fun u => of_eq (aCall (Sof [c75, c76 cs hc]) (AV.fn (Fn.func (76 : Nat)) [] []) [AV.ptr 2 0, AV.agg [I 1, I 3]] (H.mk [[I 1, I 3, I 1, I 2], [I 1, I 3, I 1, I 2], cs, [AV.ptr 2 0], [AV.ptr 2 0], [I 1, I 3]] [] []) = some (AV.agg [I 1, I 2, I 1], H.mk [[I 1, I 3, I 1, I 2], [I 1, I 3, I 1, I 2], cs, [AV.ptr 2 0], [AV.ptr 2 0], [I 1, I 3]] [] []) ∧ aStore Try.prog (H.mk [tb] [] []).base (73 : Nat) (AV.ptr 2 61) (AV.agg [I 1, I 2, I 1]) (H.mk [[I 1, I 3, I 1, I 2], [I 1, I 3, I 1, I 2], cs, [AV.ptr 2 0], [AV.ptr 2 0], [I 1, I 3]] [] []) = some (H.mk [[I 1, I 3, I 1, I 2], [I 1, I 3, I 1, I 2], cs', [AV.ptr 2 0], [AV.ptr 2 0], [I 1, I 3]] [] []) ∧ True ∧ Keep ((H.mk [[I 1, I 3, I 1, I 2], [I 1, I 3, I 1, I 2], cs', [AV.ptr 2 0], [AV.ptr 2 0], [I 1, I 3]] [] []).clean (5 : Nat) ∧ Has (4 : Nat) (2 : Nat) (0 : Nat) (1 : Nat) (3 : Nat) (H.mk [[I 1, I 3, I 1, I 2], [I 1, I 3, I 1, I 2], cs', [AV.ptr 2 0], [AV.ptr 2 0]] [] []) ∧ H.mk [[I 1, I 3, I 1, I 2], [I 1, I 3, I 1, I 2], cs', [AV.ptr 2 0], [AV.ptr 2 0]] [] [] = H.mk [[I 1, I 3, I 1, I 2], [I 1, I 3, I 1, I 2], cs', [AV.ptr 2 0], [AV.ptr 2 0]] [] [])) (by kernel_rfl) ?_⟩
      refine ⟨by first | (refine acall_hit (c := c76 cs hc) (3 : Nat) _ rfl ?_; exact ⟨by simp, _, rfl⟩), ?_⟩
      refine ⟨s3, ?_⟩
      refine ⟨by trivial, ?_⟩
      exact ⟨hbn _ _ h.bn', hH' [], rfl⟩
  · rintro _ rfl u
    exact .inl ⟨(), trivial, rfl, rfl, rfl⟩
theorem r50 (cs cs' : List AV) (hc : Cs cs) (h : Cz cs cs') : Body (EnD cs hc) (· == 75) Try.f50 [.agg tb] ⟨[tb], [], []⟩ (.ptr 2 0, hD cs') := by
  have hb := h.bld
  have hl := lp50 cs cs' hc h
  refine body_s ([Ans.o (Orc.val 6 (AV.agg cs) H.nil), Ans.o (Orc.val 11 (AV.fn (Fn.func (87 : FuncId)) [] [AV.ptr 4 0]) (H.mk [[I 1, I 3, I 1, I 2], [I 1, I 3, I 1, I 2], cs, [AV.ptr 2 0], [AV.ptr 2 0]] [] [])), Ans.loop [(3 : Nat), (11 : Nat)] [Out.mk Unit AX.normal [(3 : Nat)] (fun x => True) (fun x => [AV.ptr 3 0]) (fun x => hD cs') fun y => []]]) (aBuild Try.prog (103 : Nat) [((0 : Nat), AV.agg [I 1, I 3, I 1, I 2])] = some (AV.agg cs) ∧ aCall (Sof [c75, c76 cs hc]) (AV.fn (Fn.func (75 : Nat)) [] []) [AV.ptr 2 0] (H.mk [[I 1, I 3, I 1, I 2], [I 1, I 3, I 1, I 2], cs, [AV.ptr 2 0]] [] []) = some (AV.fn (Fn.func (87 : FuncId)) [] [AV.ptr 4 0], H.mk [[I 1, I 3, I 1, I 2], [I 1, I 3, I 1, I 2], cs, [AV.ptr 2 0], [AV.ptr 2 0]] [] []) ∧ RangeS (Env.mk Try.prog (Sof [c75, c76 cs hc]) (Pof (P := Try.prog) []) (H.mk [tb] [] []).base (300 : Nat)) (rangeAt Try.f50 (0 : Nat)) (26 : Nat) [(3 : Nat), (11 : Nat)] [AV.ptr 3 0, AV.fn (Fn.func (87 : FuncId)) [] [AV.ptr 4 0]] (H.mk [[I 1, I 3, I 1, I 2], [I 1, I 3, I 1, I 2], cs, [AV.ptr 2 0], [AV.ptr 2 0]] [] []) [Out.mk Unit AX.normal [(3 : Nat)] (fun x => True) (fun x => [AV.ptr 3 0]) (fun x => hD cs') fun y => []] ∧ (∀ (y : Unit), True → ∀ (u : Nat → AV), (AV.ptr 2 0, H.mk [[I 1, I 3, I 1, I 2], [I 1, I 3, I 1, I 2], cs', [AV.ptr 2 0], [AV.ptr 2 0]] [] []) = (AV.ptr 2 0, H.mk [[I 1, I 3, I 1, I 2], [I 1, I 3, I 1, I 2], cs', [AV.ptr 2 0], [AV.ptr 2 0]] [] [])) ∧ True) (by kernel_rfl) ?_
  refine ⟨hb, ?_⟩
  refine ⟨by (refine acall_hit (c := c75) ((2, 0) : Nat × Nat) _ rfl ?_; trivial), ?_⟩
  refine ⟨hl, ?_⟩
  refine And.intro ?_ ?_
  · skip
    intro y
    intro w1
    intro u
    rfl
  · skip
    trivial
end Go.Proofs.Tlk

