/- Layer 3: the document's own example is awake. -/
import Derived.Test.YtheoddlhpklccaaTkD
import Derived.KernelRfl
set_option linter.unusedSimpArgs false
set_option linter.unusedVariables false
set_option linter.unnecessarySimpa false
set_option maxHeartbeats 4000000
set_option maxRecDepth 100000
namespace Go.Proofs.Tlk
open Go Go.VM
theorem ok71 : FokM Try.prog none1 71 Try.f71 := ⟨mixed, by kernel_rfl, by kernel_rfl, by kernel_rfl, by kernel_rfl⟩
theorem r71 (n : Nat) (hp : n = 1 ∨ n = 2) : Body ⟨Try.prog, Sof (P := Try.prog) [], Pof (P := Try.prog) [], H.nil.base, 300⟩ none1 Try.f71 [I n] .nil (.bool true, .nil) := by
  rcases hp with rfl | rfl
  · refine body_s ([Ans.o Orc.dflt, Ans.o Orc.dflt]) ((AV.bool true, H.mk [] [] []) = (AV.bool true, H.mk [] [] [])) (by kernel_rfl) ?_
    rfl
  · refine body_s ([Ans.o Orc.dflt, Ans.o Orc.dflt]) ((AV.bool true, H.mk [] [] []) = (AV.bool true, H.mk [] [] [])) (by kernel_rfl) ?_
    rfl
noncomputable def c71 : PCtr Try.prog := sctr ok71 (X := Nat) (fun x => [I x]) (fun x => x = 1 ∨ x = 2) (fun x => .bool true) (by intro x y e _ _; simp [Int.natCast_inj] at e; simp [e]) (fun x => by simp [AV.bnds, AV.bnd, AV.wk, rm_wk_bnd]) (fun x => by first | rfl | (simp [AV.bnd, rm_wk_bnd]; done)  | (simp [AV.bnd, AV.bnds, rm_wk_bnd]; done) | simp [AV.bnd, AV.bnds, Room.bnd, rm_wk_bnd]) (fun x hx => ⟨_, _, _, .nil, r71 (x) hx⟩)
theorem ok57 : FokM Try.prog none1 57 Try.f57 := ⟨mixed, by kernel_rfl, by kernel_rfl, by kernel_rfl, by kernel_rfl⟩
theorem r57 (n : Nat) (hp : n = 0 ∨ n = 1) : Body ⟨Try.prog, Sof (P := Try.prog) [], Pof (P := Try.prog) [], H.nil.base, 300⟩ none1 Try.f57 [I n] .nil (.bool true, .nil) := by
  rcases hp with rfl | rfl
  · refine body_s ([Ans.o Orc.dflt]) ((AV.bool true, H.mk [] [] []) = (AV.bool true, H.mk [] [] [])) (by kernel_rfl) ?_
    rfl
  · refine body_s ([Ans.o Orc.dflt, Ans.o Orc.dflt]) ((AV.bool true, H.mk [] [] []) = (AV.bool true, H.mk [] [] [])) (by kernel_rfl) ?_
    rfl
noncomputable def c57 : PCtr Try.prog := sctr ok57 (X := Nat) (fun x => [I x]) (fun x => x = 0 ∨ x = 1) (fun x => .bool true) (by intro x y e _ _; simp [Int.natCast_inj] at e; simp [e]) (fun x => by simp [AV.bnds, AV.bnd, AV.wk, rm_wk_bnd]) (fun x => by first | rfl | (simp [AV.bnd, rm_wk_bnd]; done)  | (simp [AV.bnd, AV.bnds, rm_wk_bnd]; done) | simp [AV.bnd, AV.bnds, Room.bnd, rm_wk_bnd]) (fun x hx => ⟨_, _, _, .nil, r57 (x) hx⟩)
theorem ok72 : FokM Try.prog none1 72 Try.f72 := ⟨mixed, by kernel_rfl, by kernel_rfl, by kernel_rfl, by kernel_rfl⟩
theorem r72 (n : Nat) (hp : n = 0 ∨ n = 1) : Body ⟨Try.prog, Sof (P := Try.prog) [], Pof (P := Try.prog) [], H.nil.base, 300⟩ none1 Try.f72 [.agg [I 0, I n]] .nil (I (n + 1 : Nat), .nil) := by
  rcases hp with rfl | rfl
  · refine body_s ([]) (IntKind.i64.wrap (0 : Int) = (0 : Int) ∧ IntKind.i64.wrap (0 : Int) = (0 : Int) ∧ (I 1, H.mk [] [] []) = (I 1, H.mk [] [] [])) (by kernel_rfl) ?_
    refine ⟨wr _ (by omega) (by omega), ?_⟩
    refine ⟨wr _ (by omega) (by omega), ?_⟩
    rfl
  · refine body_s ([]) (IntKind.i64.wrap (0 : Int) = (0 : Int) ∧ IntKind.i64.wrap (1 : Int) = (1 : Int) ∧ (I 2, H.mk [] [] []) = (I 2, H.mk [] [] [])) (by kernel_rfl) ?_
    refine ⟨wr _ (by omega) (by omega), ?_⟩
    refine ⟨wr _ (by omega) (by omega), ?_⟩
    rfl
noncomputable def c72 : PCtr Try.prog := sctr ok72 (X := Nat) (fun x => [.agg [I 0, I x]]) (fun x => x = 0 ∨ x = 1) (fun x => I (x + 1 : Nat)) (by intro x y e _ _; simp [Int.natCast_inj] at e; simp [e]) (fun x => by simp [AV.bnds, AV.bnd, AV.wk, rm_wk_bnd]) (fun x => by first | rfl | (simp [AV.bnd, rm_wk_bnd]; done)  | (simp [AV.bnd, AV.bnds, rm_wk_bnd]; done) | simp [AV.bnd, AV.bnds, Room.bnd, rm_wk_bnd]) (fun x hx => ⟨_, _, _, .nil, r72 (x) hx⟩)
abbrev t01 (r : Room) : AV := .sl [.sl [I 0, I 1] 2 .full] 1 r
theorem ok45 : FokM Try.prog none1 45 Try.f45 := ⟨mixed, by kernel_rfl, by kernel_rfl, by kernel_rfl, by kernel_rfl⟩
theorem r45  (hp : True) : Body ⟨Try.prog, Sof (P := Try.prog) [c71.to, c57.to, c72.to], Pof (P := Try.prog) [], H.nil.base, 300⟩ none1 Try.f45 [t01 .no] .nil (.tup [.agg tb, .bool true], .nil) := by
  refine body_s ([Ans.o (Orc.val 11 (AV.bool true) (H.mk [[I 0, I 0, I 0, I 0]] [] [])), Ans.o (Orc.val 18 (AV.bool true) (H.mk [[I 0, I 0, I 0, I 0]] [] [])), Ans.o Orc.dflt, Ans.o Orc.dflt, Ans.o Orc.dflt, Ans.o (Orc.val 57 (AV.bool true) (H.mk [[I 0, I 0, I 0, I 0], [I 1, I 3, I 0, I 0]] [] [])), Ans.o (Orc.val 67 (I 1) (H.mk [[I 0, I 0, I 0, I 0], [I 1, I 3, I 0, I 0]] [] [])), Ans.o Orc.dflt, Ans.o (Orc.val 57 (AV.bool true) (H.mk [[I 0, I 0, I 0, I 0], [I 1, I 3, I 1, I 0]] [] [])), Ans.o (Orc.val 67 (I 2) (H.mk [[I 0, I 0, I 0, I 0], [I 1, I 3, I 1, I 0]] [] [])), Ans.o Orc.dflt, Ans.o Orc.dflt]) (aCall (Sof [c71.to, c57.to, c72.to]) (AV.fn (Fn.func (71 : Nat)) [] []) [I 1] (H.mk [[I 0, I 0, I 0, I 0]] [] []) = some (AV.bool true, H.mk [[I 0, I 0, I 0, I 0]] [] []) ∧ aCall (Sof [c71.to, c57.to, c72.to]) (AV.fn (Fn.func (71 : Nat)) [] []) [I 2] (H.mk [[I 0, I 0, I 0, I 0]] [] []) = some (AV.bool true, H.mk [[I 0, I 0, I 0, I 0]] [] []) ∧ IntKind.i64.wrap (1 : Int) = (1 : Int) ∧ IntKind.i64.wrap (3 : Int) = (3 : Int) ∧ aCall (Sof [c71.to, c57.to, c72.to]) (AV.fn (Fn.func (57 : Nat)) [] []) [I 0] (H.mk [[I 0, I 0, I 0, I 0], [I 1, I 3, I 0, I 0]] [] []) = some (AV.bool true, H.mk [[I 0, I 0, I 0, I 0], [I 1, I 3, I 0, I 0]] [] []) ∧ aCall (Sof [c71.to, c57.to, c72.to]) (AV.fn (Fn.func (72 : Nat)) [] []) [AV.agg [I 0, I 0]] (H.mk [[I 0, I 0, I 0, I 0], [I 1, I 3, I 0, I 0]] [] []) = some (I 1, H.mk [[I 0, I 0, I 0, I 0], [I 1, I 3, I 0, I 0]] [] []) ∧ IntKind.i64.wrap (1 : Int) = (1 : Int) ∧ aCall (Sof [c71.to, c57.to, c72.to]) (AV.fn (Fn.func (57 : Nat)) [] []) [I 1] (H.mk [[I 0, I 0, I 0, I 0], [I 1, I 3, I 1, I 0]] [] []) = some (AV.bool true, H.mk [[I 0, I 0, I 0, I 0], [I 1, I 3, I 1, I 0]] [] []) ∧ aCall (Sof [c71.to, c57.to, c72.to]) (AV.fn (Fn.func (72 : Nat)) [] []) [AV.agg [I 0, I 1]] (H.mk [[I 0, I 0, I 0, I 0], [I 1, I 3, I 1, I 0]] [] []) = some (I 2, H.mk [[I 0, I 0, I 0, I 0], [I 1, I 3, I 1, I 0]] [] []) ∧ IntKind.i64.wrap (2 : Int) = (2 : Int) ∧ IntKind.i64.wrap (1 : Int) = (1 : Int) ∧ (AV.tup [AV.agg [I 1, I 3, I 1, I 2], AV.bool true], H.mk [] [] []) = (AV.tup [AV.agg [I 1, I 3, I 1, I 2], AV.bool true], H.mk [] [] [])) (by kernel_rfl) ?_
  refine ⟨by first | (refine acall_hit (c := c71.to) (1 : Nat) _ rfl ?_; exact .inl rfl) | (refine acall_hit (c := c71.to) (2 : Nat) _ rfl ?_; exact .inr rfl), ?_⟩
  refine ⟨by first | (refine acall_hit (c := c71.to) (1 : Nat) _ rfl ?_; exact .inl rfl) | (refine acall_hit (c := c71.to) (2 : Nat) _ rfl ?_; exact .inr rfl), ?_⟩
  refine ⟨wr _ (by omega) (by omega), ?_⟩
  refine ⟨wr _ (by omega) (by omega), ?_⟩
  refine ⟨by first | (refine acall_hit (c := c57.to) (0 : Nat) _ rfl ?_; exact .inl rfl) | (refine acall_hit (c := c57.to) (1 : Nat) _ rfl ?_; exact .inr rfl), ?_⟩
  refine ⟨by first | (refine acall_hit (c := c72.to) (0 : Nat) _ rfl ?_; exact .inl rfl) | (refine acall_hit (c := c72.to) (1 : Nat) _ rfl ?_; exact .inr rfl), ?_⟩
  refine ⟨wr _ (by omega) (by omega), ?_⟩
  refine ⟨by first | (refine acall_hit (c := c57.to) (0 : Nat) _ rfl ?_; exact .inl rfl) | (refine acall_hit (c := c57.to) (1 : Nat) _ rfl ?_; exact .inr rfl), ?_⟩
  refine ⟨by first | (refine acall_hit (c := c72.to) (0 : Nat) _ rfl ?_; exact .inl rfl) | (refine acall_hit (c := c72.to) (1 : Nat) _ rfl ?_; exact .inr rfl), ?_⟩
  refine ⟨wr _ (by omega) (by omega), ?_⟩
  refine ⟨wr _ (by omega) (by omega), ?_⟩
  rfl
noncomputable def c45 : PCtr Try.prog := sctr ok45 (X := Unit) (fun x => [t01 .no]) (fun x => True) (fun x => .tup [.agg tb, .bool true]) (by intro x y e _ _; rfl) (fun _ => rfl) (fun x => by first | rfl | (simp [AV.bnd, rm_wk_bnd]; done)  | (simp [AV.bnd, AV.bnds, rm_wk_bnd]; done) | simp [AV.bnd, AV.bnds, Room.bnd, rm_wk_bnd]) (fun x hx => ⟨_, _, _, .pure c71 (.pure c57 (.pure c72 (.nil))), r45  hx⟩)
/-- the debate's cells at last -/
def cs1 : List AV := putAt cs0 61 [I 1, I 2, I 1]
theorem hCs : Cs cs0 := ⟨by kernel_rfl, by kernel_rfl, by kernel_rfl, by kernel_rfl, by kernel_rfl⟩
theorem hCz : Cz cs0 cs1 := ⟨hCs, by kernel_rfl, by kernel_rfl, by kernel_rfl, by kernel_rfl, by kernel_rfl, by kernel_rfl, by kernel_rfl, by kernel_rfl, by kernel_rfl⟩
/-- a small table is settled: where the table's cells lie alone in the heap -/
noncomputable def c50 : Ctr Try.prog where
  f := 50
  X := Unit
  args _ := [.agg tb]
  pre _ h := h = ⟨[tb], [], []⟩
  res _ _ := (.ptr 2 0, hD cs1)
  det _ _ _ _ _ _ := rfl
  ok _ h hp := by
    subst hp
    exact ⟨ok50.call, (r50 cs0 cs1 hCs hCz).run ok50 (.eff c75 rfl (.rd _ (c76_reads cs0 hCs) .nil)) rfl⟩
abbrev st3 : AV := .agg [I 1, I 2, I 1]
theorem r51z (cs : List AV) (h : aLoad Try.prog 73 (cs.drop 61) = some st3) : Body (EnC [] cs) none1 Try.f51 [.ptr 2 0, .agg [I 1, I 3]] (hC cs) (st3, hC cs) := by
  refine body_s ([Ans.o (Orc.val 14 st3 H.nil)]) (aLoad Try.prog (73 : Nat) (List.drop ((0 : Nat) + #[Field.mk "table" (64 : Nat) (0 : Nat) true "" "planchet/talk" (0 : Nat), Field.mk "steps" (101 : Nat) (4 : Nat) false "" "planchet/talk" (32 : Nat)][(1 : Nat)].offset + Int.toNat (1 : Int) * (fun x => x.size) (Env.mk Try.prog (Sof (P := Try.prog) []) (Pof (P := Try.prog) []) (hC cs).base (300 : Nat)).P.types[(100 : Nat)] + Int.toNat (3 : Int) * (fun x => x.size) (Env.mk Try.prog (Sof (P := Try.prog) []) (Pof (P := Try.prog) []) (hC cs).base (300 : Nat)).P.types[(73 : Nat)]) cs) = some (AV.agg [I 1, I 2, I 1]) ∧ (AV.agg [I 1, I 2, I 1], H.mk [[I 1, I 3, I 1, I 2], [I 1, I 3, I 1, I 2], cs] [] []) = (AV.agg [I 1, I 2, I 1], H.mk [[I 1, I 3, I 1, I 2], [I 1, I 3, I 1, I 2], cs] [] [])) (by kernel_rfl) ?_
  refine ⟨h, ?_⟩
  rfl
theorem hz1 : AV.bnds 0 0 0 cs1 = true := by kernel_rfl
theorem hz2 : aLoad Try.prog 73 (cs1.drop 61) = some st3 := by kernel_rfl
theorem hC_closed' {cs : List AV} (h : AV.bnds 0 0 0 cs = true) : (hC cs).closed := ⟨rfl, rfl, fun x hx => by
  simp only [List.mem_cons, List.not_mem_nil, or_false] at hx
  rcases hx with rfl | rfl | rfl
  · rfl
  · rfl
  · exact AV.bnds_mono (Nat.zero_le _) (Nat.zero_le _) (Nat.zero_le _) _ h⟩
noncomputable def c51z : Ctr Try.prog :=
  fctr ok51 (hC cs1) (X := Unit) (fun _ => [.ptr 2 0, .agg [I 1, I 3]]) (fun _ => True) (fun _ => st3)
    (by intro x y e _ _; rfl) (hC_closed' hz1) (fun _ _ => rfl) (fun _ _ => rfl) (fun _ _ => ⟨_, _, _, .nil, r51z cs1 hz2⟩)
def T16 : List (TRow Try.prog) := [⟨45, [t01 .no], .nil, .tup [.agg tb, .bool true], .nil, (c45.ok () trivial).1, (c45.ok () trivial).2 _⟩,
  ⟨50, [.agg tb], ⟨[tb], [], []⟩, .ptr 2 0, hD cs1, c50.ok () _ rfl⟩,
  ⟨51, [.ptr 2 0, .agg [I 1, I 3]], hD cs1, st3, hD cs1, c51z.ok () (hD cs1) ⟨trivial, [[.ptr 2 0], [.ptr 2 0]], rfl⟩⟩]
theorem a16 : CallOk Try.prog 16 [t01 .no] .nil (.tup [I 1, I 0]) .nil := acall_ok (tab_ok T16) (dall_ok mixed (tab_ok T16)) (n := 10) (by kernel_rfl)
noncomputable def c16 : PCtr Try.prog where
  f := 16
  X := Unit
  args _ := [t01 .full]
  pre _ := True
  v _ := .tup [I 1, I 0]
  det := by intro x y e _ _; rfl
  ok _ _ := ⟨by kernel_rfl, fun h => (pure_call a16 rfl rfl h).wk⟩
theorem ok18 : FokM Try.prog none1 18 Try.f18 := ⟨mixed, by kernel_rfl, by kernel_rfl, by kernel_rfl, by kernel_rfl⟩
theorem r18  (hp : True) : Body ⟨Try.prog, Sof (P := Try.prog) [c16.to], Pof (P := Try.prog) [], H.nil.base, 300⟩ none1 Try.f18 [] .nil (.bool true, .nil) := by
  refine body_s ([Ans.o (Orc.val 6 (AV.tup [I 1, I 0]) (H.mk [] [] [])), Ans.o Orc.dflt, Ans.o Orc.dflt]) (aCall (Sof [c16.to]) (AV.fn (Fn.func (16 : Nat)) [] []) [AV.sl [AV.sl [I 0, I 1] (2 : Nat) Room.full] (1 : Nat) Room.full] (H.mk [] [] []) = some (AV.tup [I 1, I 0], H.mk [] [] []) ∧ (AV.bool true, H.mk [] [] []) = (AV.bool true, H.mk [] [] [])) (by kernel_rfl) ?_
  refine ⟨by (refine acall_hit (c := c16.to) () _ rfl ?_; trivial), ?_⟩
  rfl
noncomputable def c18 : PCtr Try.prog := sctr ok18 (X := Unit) (fun x => []) (fun x => True) (fun x => .bool true) (by intro x y e _ _; rfl) (fun _ => rfl) (fun x => by first | rfl | (simp [AV.bnd, rm_wk_bnd]; done)  | (simp [AV.bnd, AV.bnds, rm_wk_bnd]; done) | simp [AV.bnd, AV.bnds, Room.bnd, rm_wk_bnd]) (fun x hx => ⟨_, _, _, .pure c16 (.nil), r18  hx⟩)
end Go.Proofs.Tlk

