/- Layer 3: a small table's debate. -/
import Derived.Test.YtheoddlhpklccaaTkA
import Derived.Test.YtheoddlhpklccaaVm6
import Derived.Test.YtheoddlhpklccaaVm7
import Derived.KernelRfl
set_option linter.unusedSimpArgs false
set_option linter.unusedVariables false
set_option linter.unnecessarySimpa false
set_option maxHeartbeats 4000000
set_option maxRecDepth 100000
namespace Go.Proofs.Tlk
open Go Go.VM
theorem ok60 : FokM Try.prog none1 60 Try.f60 := ⟨mixed, by kernel_rfl, by kernel_rfl, by kernel_rfl, by kernel_rfl⟩
theorem r60 (c : Nat) (hp : c = 1 ∨ c = 2 ∨ c = 3) : Body ⟨Try.prog, Sof (P := Try.prog) [], Pof (P := Try.prog) [], H.nil.base, 300⟩ none1 Try.f60 [.agg [I 1, I c]] .nil (I c, .nil) := by
  rcases hp with rfl | rfl | rfl
  · refine body_s ([Ans.o Orc.dflt, Ans.o Orc.dflt, Ans.o Orc.dflt, Ans.o Orc.dflt, Ans.o Orc.dflt, Ans.o Orc.dflt, Ans.o Orc.dflt, Ans.o Orc.dflt, Ans.o Orc.dflt]) (IntKind.i64.wrap (0 : Int) = (0 : Int) ∧ IntKind.i64.wrap (1 : Int) = (1 : Int) ∧ IntKind.i64.wrap (2 : Int) = (2 : Int) ∧ IntKind.i64.wrap (3 : Int) = (3 : Int) ∧ IntKind.i64.wrap (4 : Int) = (4 : Int) ∧ (I 1, H.mk [] [] []) = (I 1, H.mk [] [] [])) (by kernel_rfl) ?_
    refine ⟨wr _ (by omega) (by omega), ?_⟩
    refine ⟨wr _ (by omega) (by omega), ?_⟩
    refine ⟨wr _ (by omega) (by omega), ?_⟩
    refine ⟨wr _ (by omega) (by omega), ?_⟩
    refine ⟨wr _ (by omega) (by omega), ?_⟩
    rfl
  · refine body_s ([Ans.o Orc.dflt, Ans.o Orc.dflt, Ans.o Orc.dflt, Ans.o Orc.dflt, Ans.o Orc.dflt, Ans.o Orc.dflt, Ans.o Orc.dflt, Ans.o Orc.dflt, Ans.o Orc.dflt]) (IntKind.i64.wrap (0 : Int) = (0 : Int) ∧ IntKind.i64.wrap (1 : Int) = (1 : Int) ∧ IntKind.i64.wrap (2 : Int) = (2 : Int) ∧ IntKind.i64.wrap (3 : Int) = (3 : Int) ∧ IntKind.i64.wrap (4 : Int) = (4 : Int) ∧ (I 2, H.mk [] [] []) = (I 2, H.mk [] [] [])) (by kernel_rfl) ?_
    refine ⟨wr _ (by omega) (by omega), ?_⟩
    refine ⟨wr _ (by omega) (by omega), ?_⟩
    refine ⟨wr _ (by omega) (by omega), ?_⟩
    refine ⟨wr _ (by omega) (by omega), ?_⟩
    refine ⟨wr _ (by omega) (by omega), ?_⟩
    rfl
  · refine body_s ([Ans.o Orc.dflt, Ans.o Orc.dflt, Ans.o Orc.dflt, Ans.o Orc.dflt, Ans.o Orc.dflt, Ans.o Orc.dflt, Ans.o Orc.dflt, Ans.o Orc.dflt, Ans.o Orc.dflt]) (IntKind.i64.wrap (0 : Int) = (0 : Int) ∧ IntKind.i64.wrap (1 : Int) = (1 : Int) ∧ IntKind.i64.wrap (2 : Int) = (2 : Int) ∧ IntKind.i64.wrap (3 : Int) = (3 : Int) ∧ IntKind.i64.wrap (4 : Int) = (4 : Int) ∧ (I 3, H.mk [] [] []) = (I 3, H.mk [] [] [])) (by kernel_rfl) ?_
    refine ⟨wr _ (by omega) (by omega), ?_⟩
    refine ⟨wr _ (by omega) (by omega), ?_⟩
    refine ⟨wr _ (by omega) (by omega), ?_⟩
    refine ⟨wr _ (by omega) (by omega), ?_⟩
    refine ⟨wr _ (by omega) (by omega), ?_⟩
    rfl
noncomputable def c60 : PCtr Try.prog := sctr ok60 (X := Nat) (fun x => [.agg [I 1, I x]]) (fun x => x = 1 ∨ x = 2 ∨ x = 3) (fun x => I x) (by intro x y e _ _; simp [Int.natCast_inj] at e; simp [e]) (fun x => by simp [AV.bnds, AV.bnd, AV.wk, rm_wk_bnd]) (fun x => by first | rfl | (simp [AV.bnd, rm_wk_bnd]; done)  | (simp [AV.bnd, AV.bnds, rm_wk_bnd]; done) | simp [AV.bnd, AV.bnds, Room.bnd, rm_wk_bnd]) (fun x hx => ⟨_, _, _, .nil, r60 (x) hx⟩)
abbrev tb : List AV := [I 1, I 3, I 1, I 2]
abbrev st0 : AV := .agg [I 0, I 0, I 0]
/-- the cells of the debate while no step but of clear rectangles is known -/
structure Cs (cs : List AV) : Prop where
  b : AV.bnds 0 0 0 cs = true
  w0 : aLoad Try.prog 3 (cs.drop 2) = some (I 1)
  w1 : aLoad Try.prog 3 (cs.drop 3) = some (I 2)
  s1 : aLoad Try.prog 73 (cs.drop 55) = some st0
  s2 : aLoad Try.prog 73 (cs.drop 58) = some st0
abbrev hC (cs : List AV) : H := ⟨[tb, tb, cs], [], []⟩
theorem hC_closed {cs : List AV} (h : Cs cs) : (hC cs).closed := ⟨rfl, rfl, fun x hx => by
  simp only [List.mem_cons, List.not_mem_nil, or_false] at hx
  rcases hx with rfl | rfl | rfl
  · rfl
  · rfl
  · exact AV.bnds_mono (Nat.zero_le _) (Nat.zero_le _) (Nat.zero_le _) _ h.b⟩
theorem ok80 : FokM Try.prog none1 80 Try.f80 := ⟨mixed, by kernel_rfl, by kernel_rfl, by kernel_rfl, by kernel_rfl⟩
abbrev i80 (c v : Nat) : Bool := if c = 1 then v == 0 else if c = 2 then v == 1 else false
noncomputable abbrev EnC (l : List (Ctr Try.prog)) (cs : List AV) : Env := ⟨Try.prog, Sof (P := Try.prog) l, Pof (P := Try.prog) [], (hC cs).base, 300⟩
theorem r80 (cs : List AV) (h : Cs cs) (c v : Nat) (hp : (c = 1 ∨ c = 2 ∨ c = 3) ∧ (v = 0 ∨ v = 1)) : Body (EnC [c60.to] cs) none1 Try.f80 [.ptr 2 0, .agg [I 1, I c], I v] (hC cs) (.bool (i80 c v), hC cs) := by
  have h0 := h.w0
  have h1 := h.w1
  obtain ⟨rfl | rfl | rfl, rfl | rfl⟩ := hp
  · refine body_s ([Ans.o (Orc.val 8 (I 1) (H.mk [[I 1, I 3, I 1, I 2], [I 1, I 3, I 1, I 2], cs, [I 1, I 1]] [] [])), Ans.o (Orc.val 14 (I 1) H.nil), Ans.o Orc.dflt]) (aCall (Sof [c60.to]) (AV.fn (Fn.func (60 : Nat)) [] []) [AV.agg [I 1, I 1]] (H.mk [[I 1, I 3, I 1, I 2], [I 1, I 3, I 1, I 2], cs, [I 1, I 1]] [] []) = some (I 1, H.mk [[I 1, I 3, I 1, I 2], [I 1, I 3, I 1, I 2], cs, [I 1, I 1]] [] []) ∧ aLoad Try.prog (3 : Nat) (List.drop ((0 : Nat) + #[Field.mk "all" (56 : Nat) (0 : Nat) false "" "planchet/talk" (0 : Nat), Field.mk "with" (56 : Nat) (2 : Nat) false "" "planchet/talk" (16 : Nat)][(1 : Nat)].offset + (↑(0 : Nat) : Int).toNat * (fun x => x.size) (Env.mk Try.prog (Sof [c60.to]) (Pof (P := Try.prog) []) (hC cs).base (300 : Nat)).P.types[(3 : Nat)]) cs) = some (I 1) ∧ (AV.bool true, H.mk [[I 1, I 3, I 1, I 2], [I 1, I 3, I 1, I 2], cs] [] []) = (AV.bool true, H.mk [[I 1, I 3, I 1, I 2], [I 1, I 3, I 1, I 2], cs] [] [])) (by kernel_rfl) ?_
    refine ⟨by first | (refine acall_hit (c := c60.to) (1 : Nat) _ rfl ?_; exact .inl rfl) | (refine acall_hit (c := c60.to) (2 : Nat) _ rfl ?_; exact .inr (.inl rfl)) | (refine acall_hit (c := c60.to) (3 : Nat) _ rfl ?_; exact .inr (.inr rfl)), ?_⟩
    refine ⟨h0, ?_⟩
    rfl
  · refine body_s ([Ans.o (Orc.val 8 (I 1) (H.mk [[I 1, I 3, I 1, I 2], [I 1, I 3, I 1, I 2], cs, [I 1, I 1]] [] [])), Ans.o (Orc.val 14 (I 2) H.nil), Ans.o Orc.dflt]) (aCall (Sof [c60.to]) (AV.fn (Fn.func (60 : Nat)) [] []) [AV.agg [I 1, I 1]] (H.mk [[I 1, I 3, I 1, I 2], [I 1, I 3, I 1, I 2], cs, [I 1, I 1]] [] []) = some (I 1, H.mk [[I 1, I 3, I 1, I 2], [I 1, I 3, I 1, I 2], cs, [I 1, I 1]] [] []) ∧ aLoad Try.prog (3 : Nat) (List.drop ((0 : Nat) + #[Field.mk "all" (56 : Nat) (0 : Nat) false "" "planchet/talk" (0 : Nat), Field.mk "with" (56 : Nat) (2 : Nat) false "" "planchet/talk" (16 : Nat)][(1 : Nat)].offset + (↑(1 : Nat) : Int).toNat * (fun x => x.size) (Env.mk Try.prog (Sof [c60.to]) (Pof (P := Try.prog) []) (hC cs).base (300 : Nat)).P.types[(3 : Nat)]) cs) = some (I 2) ∧ (AV.bool false, H.mk [[I 1, I 3, I 1, I 2], [I 1, I 3, I 1, I 2], cs] [] []) = (AV.bool false, H.mk [[I 1, I 3, I 1, I 2], [I 1, I 3, I 1, I 2], cs] [] [])) (by kernel_rfl) ?_
    refine ⟨by first | (refine acall_hit (c := c60.to) (1 : Nat) _ rfl ?_; exact .inl rfl) | (refine acall_hit (c := c60.to) (2 : Nat) _ rfl ?_; exact .inr (.inl rfl)) | (refine acall_hit (c := c60.to) (3 : Nat) _ rfl ?_; exact .inr (.inr rfl)), ?_⟩
    refine ⟨h1, ?_⟩
    rfl
  · refine body_s ([Ans.o (Orc.val 8 (I 2) (H.mk [[I 1, I 3, I 1, I 2], [I 1, I 3, I 1, I 2], cs, [I 1, I 2]] [] [])), Ans.o (Orc.val 14 (I 1) H.nil), Ans.o Orc.dflt]) (aCall (Sof [c60.to]) (AV.fn (Fn.func (60 : Nat)) [] []) [AV.agg [I 1, I 2]] (H.mk [[I 1, I 3, I 1, I 2], [I 1, I 3, I 1, I 2], cs, [I 1, I 2]] [] []) = some (I 2, H.mk [[I 1, I 3, I 1, I 2], [I 1, I 3, I 1, I 2], cs, [I 1, I 2]] [] []) ∧ aLoad Try.prog (3 : Nat) (List.drop ((0 : Nat) + #[Field.mk "all" (56 : Nat) (0 : Nat) false "" "planchet/talk" (0 : Nat), Field.mk "with" (56 : Nat) (2 : Nat) false "" "planchet/talk" (16 : Nat)][(1 : Nat)].offset + (↑(0 : Nat) : Int).toNat * (fun x => x.size) (Env.mk Try.prog (Sof [c60.to]) (Pof (P := Try.prog) []) (hC cs).base (300 : Nat)).P.types[(3 : Nat)]) cs) = some (I 1) ∧ (AV.bool false, H.mk [[I 1, I 3, I 1, I 2], [I 1, I 3, I 1, I 2], cs] [] []) = (AV.bool false, H.mk [[I 1, I 3, I 1, I 2], [I 1, I 3, I 1, I 2], cs] [] [])) (by kernel_rfl) ?_
    refine ⟨by first | (refine acall_hit (c := c60.to) (1 : Nat) _ rfl ?_; exact .inl rfl) | (refine acall_hit (c := c60.to) (2 : Nat) _ rfl ?_; exact .inr (.inl rfl)) | (refine acall_hit (c := c60.to) (3 : Nat) _ rfl ?_; exact .inr (.inr rfl)), ?_⟩
    refine ⟨h0, ?_⟩
    rfl
  · refine body_s ([Ans.o (Orc.val 8 (I 2) (H.mk [[I 1, I 3, I 1, I 2], [I 1, I 3, I 1, I 2], cs, [I 1, I 2]] [] [])), Ans.o (Orc.val 14 (I 2) H.nil), Ans.o Orc.dflt]) (aCall (Sof [c60.to]) (AV.fn (Fn.func (60 : Nat)) [] []) [AV.agg [I 1, I 2]] (H.mk [[I 1, I 3, I 1, I 2], [I 1, I 3, I 1, I 2], cs, [I 1, I 2]] [] []) = some (I 2, H.mk [[I 1, I 3, I 1, I 2], [I 1, I 3, I 1, I 2], cs, [I 1, I 2]] [] []) ∧ aLoad Try.prog (3 : Nat) (List.drop ((0 : Nat) + #[Field.mk "all" (56 : Nat) (0 : Nat) false "" "planchet/talk" (0 : Nat), Field.mk "with" (56 : Nat) (2 : Nat) false "" "planchet/talk" (16 : Nat)][(1 : Nat)].offset + (↑(1 : Nat) : Int).toNat * (fun x => x.size) (Env.mk Try.prog (Sof [c60.to]) (Pof (P := Try.prog) []) (hC cs).base (300 : Nat)).P.types[(3 : Nat)]) cs) = some (I 2) ∧ (AV.bool true, H.mk [[I 1, I 3, I 1, I 2], [I 1, I 3, I 1, I 2], cs] [] []) = (AV.bool true, H.mk [[I 1, I 3, I 1, I 2], [I 1, I 3, I 1, I 2], cs] [] [])) (by kernel_rfl) ?_
    refine ⟨by first | (refine acall_hit (c := c60.to) (1 : Nat) _ rfl ?_; exact .inl rfl) | (refine acall_hit (c := c60.to) (2 : Nat) _ rfl ?_; exact .inr (.inl rfl)) | (refine acall_hit (c := c60.to) (3 : Nat) _ rfl ?_; exact .inr (.inr rfl)), ?_⟩
    refine ⟨h1, ?_⟩
    rfl
  · refine body_s ([Ans.o (Orc.val 8 (I 3) (H.mk [[I 1, I 3, I 1, I 2], [I 1, I 3, I 1, I 2], cs, [I 1, I 3]] [] [])), Ans.o (Orc.val 14 (I 1) H.nil), Ans.o Orc.dflt]) (aCall (Sof [c60.to]) (AV.fn (Fn.func (60 : Nat)) [] []) [AV.agg [I 1, I 3]] (H.mk [[I 1, I 3, I 1, I 2], [I 1, I 3, I 1, I 2], cs, [I 1, I 3]] [] []) = some (I 3, H.mk [[I 1, I 3, I 1, I 2], [I 1, I 3, I 1, I 2], cs, [I 1, I 3]] [] []) ∧ aLoad Try.prog (3 : Nat) (List.drop ((0 : Nat) + #[Field.mk "all" (56 : Nat) (0 : Nat) false "" "planchet/talk" (0 : Nat), Field.mk "with" (56 : Nat) (2 : Nat) false "" "planchet/talk" (16 : Nat)][(1 : Nat)].offset + (↑(0 : Nat) : Int).toNat * (fun x => x.size) (Env.mk Try.prog (Sof [c60.to]) (Pof (P := Try.prog) []) (hC cs).base (300 : Nat)).P.types[(3 : Nat)]) cs) = some (I 1) ∧ (AV.bool false, H.mk [[I 1, I 3, I 1, I 2], [I 1, I 3, I 1, I 2], cs] [] []) = (AV.bool false, H.mk [[I 1, I 3, I 1, I 2], [I 1, I 3, I 1, I 2], cs] [] [])) (by kernel_rfl) ?_
    refine ⟨by first | (refine acall_hit (c := c60.to) (1 : Nat) _ rfl ?_; exact .inl rfl) | (refine acall_hit (c := c60.to) (2 : Nat) _ rfl ?_; exact .inr (.inl rfl)) | (refine acall_hit (c := c60.to) (3 : Nat) _ rfl ?_; exact .inr (.inr rfl)), ?_⟩
    refine ⟨h0, ?_⟩
    rfl
  · refine body_s ([Ans.o (Orc.val 8 (I 3) (H.mk [[I 1, I 3, I 1, I 2], [I 1, I 3, I 1, I 2], cs, [I 1, I 3]] [] [])), Ans.o (Orc.val 14 (I 2) H.nil), Ans.o Orc.dflt]) (aCall (Sof [c60.to]) (AV.fn (Fn.func (60 : Nat)) [] []) [AV.agg [I 1, I 3]] (H.mk [[I 1, I 3, I 1, I 2], [I 1, I 3, I 1, I 2], cs, [I 1, I 3]] [] []) = some (I 3, H.mk [[I 1, I 3, I 1, I 2], [I 1, I 3, I 1, I 2], cs, [I 1, I 3]] [] []) ∧ aLoad Try.prog (3 : Nat) (List.drop ((0 : Nat) + #[Field.mk "all" (56 : Nat) (0 : Nat) false "" "planchet/talk" (0 : Nat), Field.mk "with" (56 : Nat) (2 : Nat) false "" "planchet/talk" (16 : Nat)][(1 : Nat)].offset + (↑(1 : Nat) : Int).toNat * (fun x => x.size) (Env.mk Try.prog (Sof [c60.to]) (Pof (P := Try.prog) []) (hC cs).base (300 : Nat)).P.types[(3 : Nat)]) cs) = some (I 2) ∧ (AV.bool false, H.mk [[I 1, I 3, I 1, I 2], [I 1, I 3, I 1, I 2], cs] [] []) = (AV.bool false, H.mk [[I 1, I 3, I 1, I 2], [I 1, I 3, I 1, I 2], cs] [] [])) (by kernel_rfl) ?_
    refine ⟨by first | (refine acall_hit (c := c60.to) (1 : Nat) _ rfl ?_; exact .inl rfl) | (refine acall_hit (c := c60.to) (2 : Nat) _ rfl ?_; exact .inr (.inl rfl)) | (refine acall_hit (c := c60.to) (3 : Nat) _ rfl ?_; exact .inr (.inr rfl)), ?_⟩
    refine ⟨h1, ?_⟩
    rfl
noncomputable def c80 (cs : List AV) (h : Cs cs) : Ctr Try.prog :=
  fctr ok80 (hC cs) (X := Nat × Nat) (fun x => [.ptr 2 0, .agg [I 1, I x.1], I x.2]) (fun x => (x.1 = 1 ∨ x.1 = 2 ∨ x.1 = 3) ∧ (x.2 = 0 ∨ x.2 = 1)) (fun x => .bool (i80 x.1 x.2))
    (by rintro ⟨a, b⟩ ⟨c, d⟩ e _ _; simp [Int.natCast_inj] at e; simp [e.1, e.2]) (hC_closed h) (fun _ _ => rfl) (fun _ _ => rfl) (fun x hx => ⟨_, _, _, .pure c60 .nil, r80 cs h x.1 x.2 hx⟩)
theorem c80_reads (cs : List AV) (h : Cs cs) : (c80 cs h).Reads := fctr_reads ..
theorem none_ok : SummOk Try.prog (fun _ _ _ => none) := fun f args h v h' he => by cases he
theorem a79 (s : Nat) (hp : s = 1 ∨ s = 2) : CallOk Try.prog 79 [.agg [I 1, I 3], I 1, I s] .nil (.tup [.agg [I 1, I (3 - (s : Int))], .agg [I 1, I s]]) .nil := by
  rcases hp with rfl | rfl
  · exact acall_ok none_ok (dall_ok mixed none_ok) (n := 10) (by kernel_rfl)
  · exact acall_ok none_ok (dall_ok mixed none_ok) (n := 10) (by kernel_rfl)
noncomputable def c79 : PCtr Try.prog where
  f := 79
  X := Nat
  args s := [.agg [I 1, I 3], I 1, I s]
  pre s := s = 1 ∨ s = 2
  v s := .tup [.agg [I 1, I (3 - (s : Int))], .agg [I 1, I s]]
  det := by intro x y e _ _; simp [Int.natCast_inj] at e; rw [e]
  ok s hs := ⟨by kernel_rfl, fun h => pure_call (a79 s hs) rfl rfl h⟩
theorem ok51 : FokM Try.prog none1 51 Try.f51 := ⟨mixed, by kernel_rfl, by kernel_rfl, by kernel_rfl, by kernel_rfl⟩
theorem r51 (cs : List AV) (h : Cs cs) (c : Nat) (hp : c = 1 ∨ c = 2) : Body (EnC [] cs) none1 Try.f51 [.ptr 2 0, .agg [I 1, I c]] (hC cs) (st0, hC cs) := by
  have h0 := h.s1
  have h1 := h.s2
  obtain rfl | rfl := hp
  · refine body_s ([Ans.o (Orc.val 14 st0 H.nil)]) (aLoad Try.prog (73 : Nat) (List.drop ((0 : Nat) + #[Field.mk "table" (64 : Nat) (0 : Nat) true "" "planchet/talk" (0 : Nat), Field.mk "steps" (101 : Nat) (4 : Nat) false "" "planchet/talk" (32 : Nat)][(1 : Nat)].offset + Int.toNat (1 : Int) * (fun x => x.size) (Env.mk Try.prog (Sof (P := Try.prog) []) (Pof (P := Try.prog) []) (hC cs).base (300 : Nat)).P.types[(100 : Nat)] + (↑(1 : Nat) : Int).toNat * (fun x => x.size) (Env.mk Try.prog (Sof (P := Try.prog) []) (Pof (P := Try.prog) []) (hC cs).base (300 : Nat)).P.types[(73 : Nat)]) cs) = some (AV.agg [I 0, I 0, I 0]) ∧ (AV.agg [I 0, I 0, I 0], H.mk [[I 1, I 3, I 1, I 2], [I 1, I 3, I 1, I 2], cs] [] []) = (AV.agg [I 0, I 0, I 0], H.mk [[I 1, I 3, I 1, I 2], [I 1, I 3, I 1, I 2], cs] [] [])) (by kernel_rfl) ?_
    refine ⟨h0, ?_⟩
    rfl
  · refine body_s ([Ans.o (Orc.val 14 st0 H.nil)]) (aLoad Try.prog (73 : Nat) (List.drop ((0 : Nat) + #[Field.mk "table" (64 : Nat) (0 : Nat) true "" "planchet/talk" (0 : Nat), Field.mk "steps" (101 : Nat) (4 : Nat) false "" "planchet/talk" (32 : Nat)][(1 : Nat)].offset + Int.toNat (1 : Int) * (fun x => x.size) (Env.mk Try.prog (Sof (P := Try.prog) []) (Pof (P := Try.prog) []) (hC cs).base (300 : Nat)).P.types[(100 : Nat)] + (↑(2 : Nat) : Int).toNat * (fun x => x.size) (Env.mk Try.prog (Sof (P := Try.prog) []) (Pof (P := Try.prog) []) (hC cs).base (300 : Nat)).P.types[(73 : Nat)]) cs) = some (AV.agg [I 0, I 0, I 0]) ∧ (AV.agg [I 0, I 0, I 0], H.mk [[I 1, I 3, I 1, I 2], [I 1, I 3, I 1, I 2], cs] [] []) = (AV.agg [I 0, I 0, I 0], H.mk [[I 1, I 3, I 1, I 2], [I 1, I 3, I 1, I 2], cs] [] [])) (by kernel_rfl) ?_
    refine ⟨h1, ?_⟩
    rfl
noncomputable def c51 (cs : List AV) (h : Cs cs) : Ctr Try.prog :=
  fctr ok51 (hC cs) (X := Nat) (fun x => [.ptr 2 0, .agg [I 1, I x]]) (fun x => x = 1 ∨ x = 2) (fun _ => st0)
    (by intro x y e _ _; rfl) (hC_closed h) (fun _ _ => rfl) (fun _ _ => rfl) (fun x hx => ⟨_, _, _, .nil, r51 cs h x hx⟩)
theorem c51_reads (cs : List AV) (h : Cs cs) : (c51 cs h).Reads := fctr_reads ..
theorem ok76 : FokM Try.prog none1 76 Try.f76 := ⟨mixed, by kernel_rfl, by kernel_rfl, by kernel_rfl, by kernel_rfl⟩
abbrev st76 (c : Nat) : AV := if c = 3 then .agg [I 1, I 2, I 1] else st0
theorem r76 (cs : List AV) (h : Cs cs) (c : Nat) (hp : c = 1 ∨ c = 2 ∨ c = 3) : Body (EnC [c80 cs h, c51 cs h, c79.to] cs) none1 Try.f76 [.ptr 2 0, .agg [I 1, I c]] (hC cs) (st76 c, hC cs) := by
  obtain rfl | rfl | rfl := hp
  · refine body_s ([Ans.o (Orc.val 16 (AV.bool true) (H.mk [[I 1, I 3, I 1, I 2], [I 1, I 3, I 1, I 2], cs, [I 1, I 1], [I 0, I 0, I 0]] [] []))]) (aCall (Sof [c80 cs h, c51 cs h, c79.to]) (AV.fn (Fn.func (80 : Nat)) [] []) [AV.ptr 2 0, AV.agg [I 1, I 1], I 0] (H.mk [[I 1, I 3, I 1, I 2], [I 1, I 3, I 1, I 2], cs, [I 1, I 1], [I 0, I 0, I 0]] [] []) = some (AV.bool true, H.mk [[I 1, I 3, I 1, I 2], [I 1, I 3, I 1, I 2], cs, [I 1, I 1], [I 0, I 0, I 0]] [] []) ∧ (AV.agg [I 0, I 0, I 0], H.mk [[I 1, I 3, I 1, I 2], [I 1, I 3, I 1, I 2], cs] [] []) = (AV.agg [I 0, I 0, I 0], H.mk [[I 1, I 3, I 1, I 2], [I 1, I 3, I 1, I 2], cs] [] [])) (by kernel_rfl) ?_
    refine ⟨by first | (refine acall_hit (c := c80 cs h) ((1, 0) : Nat × Nat) _ rfl ?_; exact ⟨by simp, _, rfl⟩) | (refine acall_hit (c := c80 cs h) ((1, 1) : Nat × Nat) _ rfl ?_; exact ⟨by simp, _, rfl⟩) | (refine acall_hit (c := c80 cs h) ((2, 0) : Nat × Nat) _ rfl ?_; exact ⟨by simp, _, rfl⟩) | (refine acall_hit (c := c80 cs h) ((2, 1) : Nat × Nat) _ rfl ?_; exact ⟨by simp, _, rfl⟩) | (refine acall_hit (c := c80 cs h) ((3, 0) : Nat × Nat) _ rfl ?_; exact ⟨by simp, _, rfl⟩) | (refine acall_hit (c := c80 cs h) ((3, 1) : Nat × Nat) _ rfl ?_; exact ⟨by simp, _, rfl⟩), ?_⟩
    rfl
  · refine body_s ([Ans.o (Orc.val 16 (AV.bool false) (H.mk [[I 1, I 3, I 1, I 2], [I 1, I 3, I 1, I 2], cs, [I 1, I 2], [I 0, I 0, I 0]] [] [])), Ans.o (Orc.val 22 (AV.bool true) (H.mk [[I 1, I 3, I 1, I 2], [I 1, I 3, I 1, I 2], cs, [I 1, I 2], [I 0, I 0, I 0]] [] []))]) (aCall (Sof [c80 cs h, c51 cs h, c79.to]) (AV.fn (Fn.func (80 : Nat)) [] []) [AV.ptr 2 0, AV.agg [I 1, I 2], I 0] (H.mk [[I 1, I 3, I 1, I 2], [I 1, I 3, I 1, I 2], cs, [I 1, I 2], [I 0, I 0, I 0]] [] []) = some (AV.bool false, H.mk [[I 1, I 3, I 1, I 2], [I 1, I 3, I 1, I 2], cs, [I 1, I 2], [I 0, I 0, I 0]] [] []) ∧ aCall (Sof [c80 cs h, c51 cs h, c79.to]) (AV.fn (Fn.func (80 : Nat)) [] []) [AV.ptr 2 0, AV.agg [I 1, I 2], I 1] (H.mk [[I 1, I 3, I 1, I 2], [I 1, I 3, I 1, I 2], cs, [I 1, I 2], [I 0, I 0, I 0]] [] []) = some (AV.bool true, H.mk [[I 1, I 3, I 1, I 2], [I 1, I 3, I 1, I 2], cs, [I 1, I 2], [I 0, I 0, I 0]] [] []) ∧ (AV.agg [I 0, I 0, I 0], H.mk [[I 1, I 3, I 1, I 2], [I 1, I 3, I 1, I 2], cs] [] []) = (AV.agg [I 0, I 0, I 0], H.mk [[I 1, I 3, I 1, I 2], [I 1, I 3, I 1, I 2], cs] [] [])) (by kernel_rfl) ?_
    refine ⟨by first | (refine acall_hit (c := c80 cs h) ((1, 0) : Nat × Nat) _ rfl ?_; exact ⟨by simp, _, rfl⟩) | (refine acall_hit (c := c80 cs h) ((1, 1) : Nat × Nat) _ rfl ?_; exact ⟨by simp, _, rfl⟩) | (refine acall_hit (c := c80 cs h) ((2, 0) : Nat × Nat) _ rfl ?_; exact ⟨by simp, _, rfl⟩) | (refine acall_hit (c := c80 cs h) ((2, 1) : Nat × Nat) _ rfl ?_; exact ⟨by simp, _, rfl⟩) | (refine acall_hit (c := c80 cs h) ((3, 0) : Nat × Nat) _ rfl ?_; exact ⟨by simp, _, rfl⟩) | (refine acall_hit (c := c80 cs h) ((3, 1) : Nat × Nat) _ rfl ?_; exact ⟨by simp, _, rfl⟩), ?_⟩
    refine ⟨by first | (refine acall_hit (c := c80 cs h) ((1, 0) : Nat × Nat) _ rfl ?_; exact ⟨by simp, _, rfl⟩) | (refine acall_hit (c := c80 cs h) ((1, 1) : Nat × Nat) _ rfl ?_; exact ⟨by simp, _, rfl⟩) | (refine acall_hit (c := c80 cs h) ((2, 0) : Nat × Nat) _ rfl ?_; exact ⟨by simp, _, rfl⟩) | (refine acall_hit (c := c80 cs h) ((2, 1) : Nat × Nat) _ rfl ?_; exact ⟨by simp, _, rfl⟩) | (refine acall_hit (c := c80 cs h) ((3, 0) : Nat × Nat) _ rfl ?_; exact ⟨by simp, _, rfl⟩) | (refine acall_hit (c := c80 cs h) ((3, 1) : Nat × Nat) _ rfl ?_; exact ⟨by simp, _, rfl⟩), ?_⟩
    rfl
  · refine body_s ([Ans.o (Orc.val 16 (AV.bool false) (H.mk [[I 1, I 3, I 1, I 2], [I 1, I 3, I 1, I 2], cs, [I 1, I 3], [I 0, I 0, I 0]] [] [])), Ans.o (Orc.val 22 (AV.bool false) (H.mk [[I 1, I 3, I 1, I 2], [I 1, I 3, I 1, I 2], cs, [I 1, I 3], [I 0, I 0, I 0]] [] [])), Ans.o Orc.dflt, Ans.o Orc.dflt, Ans.o Orc.dflt, Ans.o Orc.dflt, Ans.o (Orc.val 45 (AV.tup [AV.agg [I 1, I 1], AV.agg [I 1, I 2]]) (H.mk [[I 1, I 3, I 1, I 2], [I 1, I 3, I 1, I 2], cs, [I 1, I 3], [I 0, I 0, I 0], [I 0, I 0, I 100]] [] [])), Ans.o (Orc.val 50 (AV.agg [I 0, I 0, I 0]) (H.mk [[I 1, I 3, I 1, I 2], [I 1, I 3, I 1, I 2], cs, [I 1, I 3], [I 0, I 0, I 0], [I 0, I 0, I 100], [I 1, I 1], [I 1, I 2]] [] [])), Ans.o (Orc.val 54 (AV.agg [I 0, I 0, I 0]) (H.mk [[I 1, I 3, I 1, I 2], [I 1, I 3, I 1, I 2], cs, [I 1, I 3], [I 0, I 0, I 0], [I 0, I 0, I 100], [I 1, I 1], [I 1, I 2]] [] [])), Ans.o Orc.dflt, Ans.o Orc.dflt, Ans.o (Orc.val 45 (AV.tup [AV.agg [I 1, I 2], AV.agg [I 1, I 1]]) (H.mk [[I 1, I 3, I 1, I 2], [I 1, I 3, I 1, I 2], cs, [I 1, I 3], [I 0, I 0, I 0], [I 1, I 2, I 1], [I 1, I 1], [I 1, I 2]] [] [])), Ans.o (Orc.val 50 (AV.agg [I 0, I 0, I 0]) (H.mk [[I 1, I 3, I 1, I 2], [I 1, I 3, I 1, I 2], cs, [I 1, I 3], [I 0, I 0, I 0], [I 1, I 2, I 1], [I 1, I 1], [I 1, I 2], [I 1, I 2], [I 1, I 1]] [] [])), Ans.o (Orc.val 54 (AV.agg [I 0, I 0, I 0]) (H.mk [[I 1, I 3, I 1, I 2], [I 1, I 3, I 1, I 2], cs, [I 1, I 3], [I 0, I 0, I 0], [I 1, I 2, I 1], [I 1, I 1], [I 1, I 2], [I 1, I 2], [I 1, I 1]] [] [])), Ans.o Orc.dflt, Ans.o Orc.dflt, Ans.o Orc.dflt]) (aCall (Sof [c80 cs h, c51 cs h, c79.to]) (AV.fn (Fn.func (80 : Nat)) [] []) [AV.ptr 2 0, AV.agg [I 1, I 3], I 0] (H.mk [[I 1, I 3, I 1, I 2], [I 1, I 3, I 1, I 2], cs, [I 1, I 3], [I 0, I 0, I 0]] [] []) = some (AV.bool false, H.mk [[I 1, I 3, I 1, I 2], [I 1, I 3, I 1, I 2], cs, [I 1, I 3], [I 0, I 0, I 0]] [] []) ∧ aCall (Sof [c80 cs h, c51 cs h, c79.to]) (AV.fn (Fn.func (80 : Nat)) [] []) [AV.ptr 2 0, AV.agg [I 1, I 3], I 1] (H.mk [[I 1, I 3, I 1, I 2], [I 1, I 3, I 1, I 2], cs, [I 1, I 3], [I 0, I 0, I 0]] [] []) = some (AV.bool false, H.mk [[I 1, I 3, I 1, I 2], [I 1, I 3, I 1, I 2], cs, [I 1, I 3], [I 0, I 0, I 0]] [] []) ∧ IntKind.i64.wrap (0 : Int) = (0 : Int) ∧ IntKind.i64.wrap (1 : Int) = (1 : Int) ∧ IntKind.i64.wrap (2 : Int) = (2 : Int) ∧ aCall (Sof [c80 cs h, c51 cs h, c79.to]) (AV.fn (Fn.func (79 : Nat)) [] []) [AV.agg [I 1, I 3], I 1, I 2] (H.mk [[I 1, I 3, I 1, I 2], [I 1, I 3, I 1, I 2], cs, [I 1, I 3], [I 0, I 0, I 0], [I 0, I 0, I 100]] [] []) = some (AV.tup [AV.agg [I 1, I 1], AV.agg [I 1, I 2]], H.mk [[I 1, I 3, I 1, I 2], [I 1, I 3, I 1, I 2], cs, [I 1, I 3], [I 0, I 0, I 0], [I 0, I 0, I 100]] [] []) ∧ aCall (Sof [c80 cs h, c51 cs h, c79.to]) (AV.fn (Fn.func (51 : Nat)) [] []) [AV.ptr 2 0, AV.agg [I 1, I 1]] (H.mk [[I 1, I 3, I 1, I 2], [I 1, I 3, I 1, I 2], cs, [I 1, I 3], [I 0, I 0, I 0], [I 0, I 0, I 100], [I 1, I 1], [I 1, I 2]] [] []) = some (AV.agg [I 0, I 0, I 0], H.mk [[I 1, I 3, I 1, I 2], [I 1, I 3, I 1, I 2], cs, [I 1, I 3], [I 0, I 0, I 0], [I 0, I 0, I 100], [I 1, I 1], [I 1, I 2]] [] []) ∧ aCall (Sof [c80 cs h, c51 cs h, c79.to]) (AV.fn (Fn.func (51 : Nat)) [] []) [AV.ptr 2 0, AV.agg [I 1, I 2]] (H.mk [[I 1, I 3, I 1, I 2], [I 1, I 3, I 1, I 2], cs, [I 1, I 3], [I 0, I 0, I 0], [I 0, I 0, I 100], [I 1, I 1], [I 1, I 2]] [] []) = some (AV.agg [I 0, I 0, I 0], H.mk [[I 1, I 3, I 1, I 2], [I 1, I 3, I 1, I 2], cs, [I 1, I 3], [I 0, I 0, I 0], [I 0, I 0, I 100], [I 1, I 1], [I 1, I 2]] [] []) ∧ IntKind.i64.wrap (1 : Int) = (1 : Int) ∧ IntKind.i64.wrap (1 : Int) = (1 : Int) ∧ aCall (Sof [c80 cs h, c51 cs h, c79.to]) (AV.fn (Fn.func (79 : Nat)) [] []) [AV.agg [I 1, I 3], I 1, I 1] (H.mk [[I 1, I 3, I 1, I 2], [I 1, I 3, I 1, I 2], cs, [I 1, I 3], [I 0, I 0, I 0], [I 1, I 2, I 1], [I 1, I 1], [I 1, I 2]] [] []) = some (AV.tup [AV.agg [I 1, I 2], AV.agg [I 1, I 1]], H.mk [[I 1, I 3, I 1, I 2], [I 1, I 3, I 1, I 2], cs, [I 1, I 3], [I 0, I 0, I 0], [I 1, I 2, I 1], [I 1, I 1], [I 1, I 2]] [] []) ∧ aCall (Sof [c80 cs h, c51 cs h, c79.to]) (AV.fn (Fn.func (51 : Nat)) [] []) [AV.ptr 2 0, AV.agg [I 1, I 2]] (H.mk [[I 1, I 3, I 1, I 2], [I 1, I 3, I 1, I 2], cs, [I 1, I 3], [I 0, I 0, I 0], [I 1, I 2, I 1], [I 1, I 1], [I 1, I 2], [I 1, I 2], [I 1, I 1]] [] []) = some (AV.agg [I 0, I 0, I 0], H.mk [[I 1, I 3, I 1, I 2], [I 1, I 3, I 1, I 2], cs, [I 1, I 3], [I 0, I 0, I 0], [I 1, I 2, I 1], [I 1, I 1], [I 1, I 2], [I 1, I 2], [I 1, I 1]] [] []) ∧ aCall (Sof [c80 cs h, c51 cs h, c79.to]) (AV.fn (Fn.func (51 : Nat)) [] []) [AV.ptr 2 0, AV.agg [I 1, I 1]] (H.mk [[I 1, I 3, I 1, I 2], [I 1, I 3, I 1, I 2], cs, [I 1, I 3], [I 0, I 0, I 0], [I 1, I 2, I 1], [I 1, I 1], [I 1, I 2], [I 1, I 2], [I 1, I 1]] [] []) = some (AV.agg [I 0, I 0, I 0], H.mk [[I 1, I 3, I 1, I 2], [I 1, I 3, I 1, I 2], cs, [I 1, I 3], [I 0, I 0, I 0], [I 1, I 2, I 1], [I 1, I 1], [I 1, I 2], [I 1, I 2], [I 1, I 1]] [] []) ∧ IntKind.i64.wrap (1 : Int) = (1 : Int) ∧ IntKind.i64.wrap (0 : Int) = (0 : Int) ∧ IntKind.i64.wrap (2 : Int) = (2 : Int) ∧ (AV.agg [I 1, I 2, I 1], H.mk [[I 1, I 3, I 1, I 2], [I 1, I 3, I 1, I 2], cs] [] []) = (AV.agg [I 1, I 2, I 1], H.mk [[I 1, I 3, I 1, I 2], [I 1, I 3, I 1, I 2], cs] [] [])) (by kernel_rfl) ?_
    refine ⟨by first | (refine acall_hit (c := c80 cs h) ((1, 0) : Nat × Nat) _ rfl ?_; exact ⟨by simp, _, rfl⟩) | (refine acall_hit (c := c80 cs h) ((1, 1) : Nat × Nat) _ rfl ?_; exact ⟨by simp, _, rfl⟩) | (refine acall_hit (c := c80 cs h) ((2, 0) : Nat × Nat) _ rfl ?_; exact ⟨by simp, _, rfl⟩) | (refine acall_hit (c := c80 cs h) ((2, 1) : Nat × Nat) _ rfl ?_; exact ⟨by simp, _, rfl⟩) | (refine acall_hit (c := c80 cs h) ((3, 0) : Nat × Nat) _ rfl ?_; exact ⟨by simp, _, rfl⟩) | (refine acall_hit (c := c80 cs h) ((3, 1) : Nat × Nat) _ rfl ?_; exact ⟨by simp, _, rfl⟩), ?_⟩
    refine ⟨by first | (refine acall_hit (c := c80 cs h) ((1, 0) : Nat × Nat) _ rfl ?_; exact ⟨by simp, _, rfl⟩) | (refine acall_hit (c := c80 cs h) ((1, 1) : Nat × Nat) _ rfl ?_; exact ⟨by simp, _, rfl⟩) | (refine acall_hit (c := c80 cs h) ((2, 0) : Nat × Nat) _ rfl ?_; exact ⟨by simp, _, rfl⟩) | (refine acall_hit (c := c80 cs h) ((2, 1) : Nat × Nat) _ rfl ?_; exact ⟨by simp, _, rfl⟩) | (refine acall_hit (c := c80 cs h) ((3, 0) : Nat × Nat) _ rfl ?_; exact ⟨by simp, _, rfl⟩) | (refine acall_hit (c := c80 cs h) ((3, 1) : Nat × Nat) _ rfl ?_; exact ⟨by simp, _, rfl⟩), ?_⟩
    refine ⟨wr _ (by omega) (by omega), ?_⟩
    refine ⟨wr _ (by omega) (by omega), ?_⟩
    refine ⟨wr _ (by omega) (by omega), ?_⟩
    refine ⟨by first | (refine acall_hit (c := c79.to) (1 : Nat) _ rfl ?_; exact .inl rfl) | (refine acall_hit (c := c79.to) (2 : Nat) _ rfl ?_; exact .inr rfl), ?_⟩
    refine ⟨by first | (refine acall_hit (c := c51 cs h) (1 : Nat) _ rfl ?_; exact ⟨by simp, _, rfl⟩) | (refine acall_hit (c := c51 cs h) (2 : Nat) _ rfl ?_; exact ⟨by simp, _, rfl⟩), ?_⟩
    refine ⟨by first | (refine acall_hit (c := c51 cs h) (1 : Nat) _ rfl ?_; exact ⟨by simp, _, rfl⟩) | (refine acall_hit (c := c51 cs h) (2 : Nat) _ rfl ?_; exact ⟨by simp, _, rfl⟩), ?_⟩
    refine ⟨wr _ (by omega) (by omega), ?_⟩
    refine ⟨wr _ (by omega) (by omega), ?_⟩
    refine ⟨by first | (refine acall_hit (c := c79.to) (1 : Nat) _ rfl ?_; exact .inl rfl) | (refine acall_hit (c := c79.to) (2 : Nat) _ rfl ?_; exact .inr rfl), ?_⟩
    refine ⟨by first | (refine acall_hit (c := c51 cs h) (1 : Nat) _ rfl ?_; exact ⟨by simp, _, rfl⟩) | (refine acall_hit (c := c51 cs h) (2 : Nat) _ rfl ?_; exact ⟨by simp, _, rfl⟩), ?_⟩
    refine ⟨by first | (refine acall_hit (c := c51 cs h) (1 : Nat) _ rfl ?_; exact ⟨by simp, _, rfl⟩) | (refine acall_hit (c := c51 cs h) (2 : Nat) _ rfl ?_; exact ⟨by simp, _, rfl⟩), ?_⟩
    refine ⟨wr _ (by omega) (by omega), ?_⟩
    refine ⟨wr _ (by omega) (by omega), ?_⟩
    refine ⟨wr _ (by omega) (by omega), ?_⟩
    rfl
end Go.Proofs.Tlk

