/- Layer 7: Count, Add; free elements by the reference. -/
import Derived.Test.YtmgbglnljnlapaaOrH
import Derived.KernelRfl
set_option linter.unusedSimpArgs false
set_option linter.unusedVariables false
set_option linter.unnecessarySimpa false
set_option maxHeartbeats 4000000
set_option maxRecDepth 100000
namespace Go.Proofs.Ord
open Go Go.VM
open Go.Proofs.Sur (andn andn_bit andn_le i_wrap i_and i_or i_andn i_shl i_shr bit_01)

/-- the same contract where more is known -/
noncomputable def narrow (c : PCtr Try.prog) (pre : c.X → Prop) (v : c.X → AV) (h : ∀ x, pre x → c.pre x ∧ c.v x = v x) : PCtr Try.prog where
  f := c.f
  X := c.X
  args := c.args
  pre := pre
  v := v
  det x y e p q := by rw [← (h x p).2, ← (h y q).2]; exact c.det x y e (h x p).1 (h y q).1
  ok x p := by rw [← (h x p).2]; exact c.ok x (h x p).1
noncomputable def c69t : PCtr Try.prog := narrow c69 (fun x : List Int × Room => pI x.1 x.2 ∧ OrdL x.1) (fun x : List Int × Room => .tup [oA x.1.length (rel x.1), .bool true]) (fun x hx => ⟨hx.1, by show AV.tup [rdA x.1, .bool (ordB x.1)] = _; rw [rd_t hx.2.s hx.2.r, ord_t hx.2]⟩)
noncomputable def c69g : PCtr Try.prog := narrow c69 (fun x : List Int × Room => pI x.1 x.2 ∧ (sz x.1 ∧ rgO x.1) ∧ ¬ OrdL x.1) (fun x : List Int × Room => .tup [oA x.1.length (rel x.1), .bool false]) (fun x hx => ⟨hx.1, by show AV.tup [rdA x.1, .bool (ordB x.1)] = _; rw [rd_t hx.2.1.1 hx.2.1.2, ord_f hx.2.2]⟩)
noncomputable def c69h : PCtr Try.prog := narrow c69 (fun x : List Int × Room => pI x.1 x.2 ∧ ¬ (sz x.1 ∧ rgO x.1)) (fun x : List Int × Room => .tup [oA 0 zeroR, .bool false]) (fun x hx => ⟨hx.1, by show AV.tup [rdA x.1, .bool (ordB x.1)] = _; rw [rd_f hx.2, ord_f (fun k => hx.2 ⟨k.s, k.r⟩)]⟩)
theorem pI_wk {o : List Int} {r : Room} (h : pI o r) : pI o r.wk := ⟨h.1, by simpa using h.2.1, h.2.2⟩
/-- how many lines an order's slice has -/
abbrev ctO (o : List Int) : Nat := ct (rel o) o.length (alls o.length)
theorem ok30 : FokM Try.prog none1 30 Try.f30 := ⟨mixed, by kernel_rfl, by kernel_rfl, by kernel_rfl, by kernel_rfl⟩
theorem r30t (o : List Int) (r : Room) (h : pI o r ∧ OrdL o) : Body (En6 [c69t.to, c75.to]) none1 Try.f30 [ls o r] .nil (.tup [I (ctO o : Nat), I 0], .nil) := by
  have hp := h.2.p
  refine body_s ([Ans.o (Orc.val 8 (AV.tup [AV.agg (ints (o7 o.length (rel o))), AV.bool true]) (H.mk [] [] [])), Ans.o (Orc.val 14 (I (↑(ct (rel o) o.length (alls o.length)) : Int)) (H.mk [[I (↑o.length : Int), I (↑(rel o (nat_lit 0)) : Int), I (↑(rel o (nat_lit 1)) : Int), I (↑(rel o (nat_lit 2)) : Int), I (↑(rel o (nat_lit 3)) : Int), I (↑(rel o (nat_lit 4)) : Int), I (↑(rel o (nat_lit 5)) : Int)]] [] []))]) (aCall (Sof [c69t.to, c75.to]) (AV.fn (Fn.func (69 : Nat)) [] []) [AV.sl (ints o) o.length r] (H.mk [] [] []) = some (AV.tup [AV.agg (ints (o7 o.length (rel o))), AV.bool true], H.mk [] [] []) ∧ aCall (Sof [c69t.to, c75.to]) (AV.fn (Fn.func (75 : Nat)) [] []) [AV.agg [I (↑o.length : Int), I (↑(rel o (nat_lit 0)) : Int), I (↑(rel o (nat_lit 1)) : Int), I (↑(rel o (nat_lit 2)) : Int), I (↑(rel o (nat_lit 3)) : Int), I (↑(rel o (nat_lit 4)) : Int), I (↑(rel o (nat_lit 5)) : Int)]] (H.mk [[I (↑o.length : Int), I (↑(rel o (nat_lit 0)) : Int), I (↑(rel o (nat_lit 1)) : Int), I (↑(rel o (nat_lit 2)) : Int), I (↑(rel o (nat_lit 3)) : Int), I (↑(rel o (nat_lit 4)) : Int), I (↑(rel o (nat_lit 5)) : Int)]] [] []) = some (I (↑(ct (rel o) o.length (alls o.length)) : Int), H.mk [[I (↑o.length : Int), I (↑(rel o (nat_lit 0)) : Int), I (↑(rel o (nat_lit 1)) : Int), I (↑(rel o (nat_lit 2)) : Int), I (↑(rel o (nat_lit 3)) : Int), I (↑(rel o (nat_lit 4)) : Int), I (↑(rel o (nat_lit 5)) : Int)]] [] []) ∧ (AV.tup [I (↑(ct (rel o) o.length (alls o.length)) : Int), I 0], H.mk [] [] []) = (AV.tup [I (↑(ctO o) : Int), I 0], H.mk [] [] [])) (by kernel_rfl) ?_
  refine ⟨acall_hit (c := c69t.to) ((o, r) : List Int × Room) _ rfl h, ?_⟩
  refine ⟨acall_hit (c := c75.to) (o.length, rel o) _ rfl hp, ?_⟩
  rfl
theorem ls_wk (o : List Int) (r : Room) : AV.bnds 0 0 0 [AV.wk (ls o r)] = true := by simp [AV.bnds, AV.bnd, AV.wk, rm_wk_bnd]
noncomputable def c30t : PCtr Try.prog := sctr ok30 (X := List Int × Room) (fun x => [ls x.1 x.2]) (fun x => pI x.1 x.2 ∧ OrdL x.1) (fun x => .tup [I (ctO x.1 : Nat), I 0])
  (by rintro ⟨l, r⟩ ⟨m, s⟩ e _ _; simp at e; simp only [e.1]) (fun x => ls_wk _ _) (fun x => rfl) (fun x hx => ⟨_, _, _, .pure _ (.pure _ .nil), r30t x.1 x.2.wk ⟨pI_wk hx.1, hx.2⟩⟩)
/-- elements -/
abbrev el (o : List Int) (i : Nat) : Prop := i < o.length
theorem ls3_wk (o : List Int) (r : Room) (i j : Int) : AV.bnds 0 0 0 [AV.wk (ls o r), AV.wk (I i), AV.wk (I j)] = true := by simp [AV.bnds, AV.bnd, AV.wk, rm_wk_bnd]
theorem ord00 : OrdL [0, 0] := by
  have hz : ∀ i j, ¬ ab (rel [0, 0]) i j := fun i j h => by
    have : rel [0, 0] i = 0 := by
      match i with
      | 0 => rfl
      | 1 => rfl
      | _ + 2 => rfl
    rw [ab, this] at h; simp at h
  refine ⟨by decide, fun i hi => ?_, fun i j k h => absurd h (hz _ _), fun i => hz _ _⟩
  match i, hi with
  | 0, _ => decide
  | 1, _ => decide
theorem in00 : inI [0, 0] := fun i hi => by
  match i, hi with
  | 0, _ => decide
  | 1, _ => decide
noncomputable def c30w : PCtr Try.prog := at1 c30t ([0, 0], .full) ⟨⟨by decide, fun _ => by decide, in00⟩, ord00⟩ [.sl [I 0, I 0] 2 .full] (.tup [I 2, I 0]) rfl (by
  have h : ctO [0, 0] = 2 := by decide +kernel
  show AV.tup [I (ctO [0, 0] : Nat), I 0] = _
  rw [h]; rfl)
theorem ok26 : FokM Try.prog none1 26 Try.f26 := ⟨mixed, by kernel_rfl, by kernel_rfl, by kernel_rfl, by kernel_rfl⟩
theorem r26  (hp : True) : Body ⟨Try.prog, Sof (P := Try.prog) [c30w.to], Pof (P := Try.prog) [], H.nil.base, 300⟩ none1 Try.f26 [] .nil (.bool true, .nil) := by
  refine body_s ([Ans.o (Orc.val 5 (AV.tup [I 2, I 0]) (H.mk [] [] [])), Ans.o Orc.dflt, Ans.o Orc.dflt]) (aCall (Sof [c30w.to]) (AV.fn (Fn.func (30 : Nat)) [] []) [AV.sl [I 0, I 0] (2 : Nat) Room.full] (H.mk [] [] []) = some (AV.tup [I 2, I 0], H.mk [] [] []) ∧ (AV.bool true, H.mk [] [] []) = (AV.bool true, H.mk [] [] [])) (by kernel_rfl) ?_
  refine ⟨acall_hit (c := c30w.to) () _ rfl trivial, ?_⟩
  first | with_reducible rfl | (refine bleaf_t ?_; omega) | (refine bleaf_f ?_; omega) | (refine ileaf ?_; omega) | rfl | (exfalso; omega)
noncomputable def c26 : PCtr Try.prog := sctr ok26 (X := Unit) (fun x => []) (fun x => True) (fun x => .bool true) (by intro x y e _ _; rfl) (fun _ => rfl) (fun x => by first | rfl | (simp [AV.bnd, rm_wk_bnd]; done)  | (simp [AV.bnd, AV.bnds, rm_wk_bnd]; done) | simp [AV.bnd, AV.bnds, Room.bnd, rm_wk_bnd]) (fun x hx => ⟨_, _, _, .pure c30w (.nil), r26  hx⟩)
theorem ok73 : FokM Try.prog none1 73 Try.f73 := ⟨mixed, by kernel_rfl, by kernel_rfl, by kernel_rfl, by kernel_rfl⟩
theorem r73 (o : List Int) (r : Room) (i : Nat) (j : Nat) (hp : ((sz o ∧ rgO o) ∧ rok o r) ∧ i < o.length ∧ j ≤ 64) : Body ⟨Try.prog, Sof (P := Try.prog) [], Pof (P := Try.prog) [], H.nil.base, 300⟩ none1 Try.f73 [ls o r, I i, I j] .nil (.bool (bi (ia o i) j), .nil) := by
  obtain ⟨⟨⟨h1, h2⟩, h3⟩, h4, h5⟩ := hp
  have hr := rok_idx h3 h4
  have p6 : 2 ^ o.length ≤ 2 ^ 6 := Nat.pow_le_pow_right (by decide) h1.2
  have hb := h2 i h4
  cases hv : bi (ia o i) j
  · obtain ⟨ev0, ev1⟩ := i_bitv hb.1 (show ia o i < 64 by omega) h5 false hv
    have ev1 : IntKind.i64.wrap ((BitVec.ofInt IntKind.i64.bits (((ia o i).toNat >>> j : Nat) : Int) &&& BitVec.ofInt IntKind.i64.bits 1).toNat : Int) = 0 := ev1
    refine body_s ([Ans.o (Orc.val 9 (AV.cptr (ints (List.drop i o))) H.nil), Ans.o (Orc.val 10 (I (o.getD i i0)) H.nil), Ans.o (Orc.val 12 (I (↑((ia o i).toNat >>> j) : Int)) H.nil), Ans.o (Orc.val 13 (I (↑false.toNat : Int)) H.nil), Ans.o Orc.dflt]) (aIndexAddr Try.prog (23 : Nat) (AV.sl (ints o) o.length r) (I (↑i : Int)) = some (AV.cptr (ints (List.drop i o))) ∧ aLoad Try.prog (3 : Nat) (ints (List.drop i o)) = some (I (o.getD i i0)) ∧ aBin Try.prog BinOp.shr (3 : Nat) (I (o.getD i i0)) (I (↑j : Int)) = some (I (↑((ia o i).toNat >>> j) : Int)) ∧ aBin Try.prog BinOp.and (3 : Nat) (I (↑((ia o i).toNat >>> j) : Int)) (I 1) = some (I 0) ∧ (AV.bool false, H.mk [] [] []) = (AV.bool false, H.mk [] [] [])) (by kernel_rfl) ?_
    refine ⟨by first | exact ix_ints (by kernel_rfl) (by omega) (by assumption) | exact ix_ints (by kernel_rfl) (by omega) (rok_idx (by assumption) (by omega)), ?_⟩
    refine ⟨by first | exact ld_ints (by kernel_rfl) (by kernel_rfl) (by omega) | exact ldm_ints (by kernel_rfl) (by kernel_rfl) (by first | omega | (simp; omega)), ?_⟩
    refine ⟨by first | exact told_shr (by first | exact Int.natCast_nonneg _ | omega) (by with_reducible assumption) | exact told_shr (by omega) rfl, ?_⟩
    refine ⟨told_and (by with_reducible assumption), ?_⟩
    first | with_reducible rfl | (refine bleaf_t ?_; omega) | (refine bleaf_f ?_; omega) | (refine ileaf ?_; omega) | rfl | (exfalso; omega)
  · obtain ⟨ev0, ev1⟩ := i_bitv hb.1 (show ia o i < 64 by omega) h5 true hv
    have ev1 : IntKind.i64.wrap ((BitVec.ofInt IntKind.i64.bits (((ia o i).toNat >>> j : Nat) : Int) &&& BitVec.ofInt IntKind.i64.bits 1).toNat : Int) = 1 := ev1
    refine body_s ([Ans.o (Orc.val 9 (AV.cptr (ints (List.drop i o))) H.nil), Ans.o (Orc.val 10 (I (o.getD i i0)) H.nil), Ans.o (Orc.val 12 (I (↑((ia o i).toNat >>> j) : Int)) H.nil), Ans.o (Orc.val 13 (I (↑true.toNat : Int)) H.nil), Ans.o Orc.dflt]) (aIndexAddr Try.prog (23 : Nat) (AV.sl (ints o) o.length r) (I (↑i : Int)) = some (AV.cptr (ints (List.drop i o))) ∧ aLoad Try.prog (3 : Nat) (ints (List.drop i o)) = some (I (o.getD i i0)) ∧ aBin Try.prog BinOp.shr (3 : Nat) (I (o.getD i i0)) (I (↑j : Int)) = some (I (↑((ia o i).toNat >>> j) : Int)) ∧ aBin Try.prog BinOp.and (3 : Nat) (I (↑((ia o i).toNat >>> j) : Int)) (I 1) = some (I 1) ∧ (AV.bool true, H.mk [] [] []) = (AV.bool true, H.mk [] [] [])) (by kernel_rfl) ?_
    refine ⟨by first | exact ix_ints (by kernel_rfl) (by omega) (by assumption) | exact ix_ints (by kernel_rfl) (by omega) (rok_idx (by assumption) (by omega)), ?_⟩
    refine ⟨by first | exact ld_ints (by kernel_rfl) (by kernel_rfl) (by omega) | exact ldm_ints (by kernel_rfl) (by kernel_rfl) (by first | omega | (simp; omega)), ?_⟩
    refine ⟨by first | exact told_shr (by first | exact Int.natCast_nonneg _ | omega) (by with_reducible assumption) | exact told_shr (by omega) rfl, ?_⟩
    refine ⟨told_and (by with_reducible assumption), ?_⟩
    first | with_reducible rfl | (refine bleaf_t ?_; omega) | (refine bleaf_f ?_; omega) | (refine ileaf ?_; omega) | rfl | (exfalso; omega)
noncomputable def c73 : PCtr Try.prog := sctr ok73 (X := List Int × Room × Nat × Nat) (fun x => [ls x.1 x.2.1, I x.2.2.1, I x.2.2.2]) (fun x => ((sz x.1 ∧ rgO x.1) ∧ rok x.1 x.2.1) ∧ x.2.2.1 < x.1.length ∧ x.2.2.2 ≤ 64) (fun x => .bool (bi (ia x.1 x.2.2.1) x.2.2.2)) (by intro x y e _ _; simp [Int.natCast_inj] at e; simp [e]) (fun x => by simp [AV.bnds, AV.bnd, AV.wk, rm_wk_bnd]) (fun x => by first | rfl | (simp [AV.bnd, rm_wk_bnd]; done)  | (simp [AV.bnd, AV.bnds, rm_wk_bnd]; done) | simp [AV.bnd, AV.bnds, Room.bnd, rm_wk_bnd]) (fun x hx => ⟨_, _, _, .nil, r73 (x.1) (x.2.1).wk (x.2.2.1) (x.2.2.2) (by first | exact hx | (simp only [rok_wk]; exact hx) | (simp only [rok_wk, lst_wk]; exact hx) | (simp only [rok_wk, lst_wk, lsn_wk]; exact hx))⟩)
end Go.Proofs.Ord

