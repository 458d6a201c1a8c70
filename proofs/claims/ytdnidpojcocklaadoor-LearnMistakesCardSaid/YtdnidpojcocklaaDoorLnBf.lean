/- Layer 4: what follow comes to. -/
import Derived.Test.YtdnidpojcocklaaDoorLnBa
import Derived.KernelRfl
set_option linter.unusedSimpArgs false
set_option linter.unusedVariables false
set_option linter.unnecessarySimpa false
set_option maxHeartbeats 4000000
set_option maxRecDepth 100000
namespace Go.Proofs.Lrn
open Go Go.VM
abbrev tS (l : List Tri) (r : Room) : AV := .sl (trisA l) l.length r
abbrev nd (l : List Tri) (i : Nat) : Tri := l.getD i tri0
abbrev okA1 (n : Nat) (x : Int) : Prop := x = -1 ∨ (0 ≤ x ∧ x < (n : Int))
/-- every link is an end or a place -/
abbrev lnkd (l : List Tri) : Prop := ∀ i, i < l.length → okA1 l.length (nd l i).2.1 ∧ okA1 l.length (nd l i).2.2
/-- is it a tree of this depth? -/
def foL (p : Int) (l : List Tri) : Nat → BitVec 32 → Int → Bool
  | 0, b, a => decide (a = -1) && decide (b ≠ 0#32)
  | d + 1, b, a => !decide (a = -1) && (decide (0 ≤ (nd l a.toNat).1 ∧ (nd l a.toNat).1 < p) && (foL p l d (pt b (nd l a.toNat).1 0) (nd l a.toNat).2.1 && foL p l d (pt b (nd l a.toNat).1 1) (nd l a.toNat).2.2))
structure FoP (p : Int) (l : List Tri) (r : Room) (a : Int) : Prop where
  hp : p5 p
  hr : rok l r
  hl : lnkd l
  ha : okA1 l.length a
def C62ok (d : Nat) : Prop := ∀ (p : Int) (b : BitVec 32) (l : List Tri) (r : Room) (a : Int), FoP p l r a → CallOk Tryd.prog 62 [cA p b, tS l r, I a, I d] .nil (.bool (foL p l d b a)) .nil
theorem ok62 : FokM Tryd.prog none1 62 Tryd.f62 := ⟨mixed, by kernel_rfl, by kernel_rfl, by kernel_rfl, by kernel_rfl⟩
noncomputable def C62 (d : Nat) (ih : C62ok d) : PCtr Tryd.prog where
  f := 62
  X := (Int × BitVec 32) × (List Tri × Room) × Int
  args q := [cA q.1.1 q.1.2, tS q.2.1.1 q.2.1.2, I q.2.2, I d]
  pre q := FoP q.1.1 q.2.1.1 q.2.1.2 q.2.2
  v q := .bool (foL q.1.1 q.2.1.1 d q.1.2 q.2.2)
  det := by
    rintro ⟨⟨p, b⟩, ⟨l, r⟩, a⟩ ⟨⟨p', b'⟩, ⟨l', r'⟩, a'⟩ e _ _
    simp at e
    simp [e]
  ok := by
    rintro ⟨⟨p, b⟩, ⟨l, r⟩, a⟩ h
    refine ⟨ok62.call, fun H => CallOk.wk ?_⟩
    exact pure_call (ih p b l r.wk a ⟨h.hp, by simpa using h.hr, h.hl, h.ha⟩) (by simp [AV.bnds, AV.bnd, rm_wk_bnd]) rfl H
theorem r62z (p : Int) (b : BitVec 32) (l : List Tri) (r : Room) (a : Int) (h : FoP p l r a) : Body (En4 []) none1 Tryd.f62 [cA p b, tS l r, I a, I 0] .nil (.bool (foL p l 0 b a), .nil) := by
  by_cases ha : a = -1
  · subst ha
    by_cases hb : b = 0#32
    · subst hb
      have e : foL p l 0 0#32 (-1) = false := by simp [foL]
      rw [e]
      refine body_s ([Ans.o Orc.dflt, Ans.o Orc.dflt, Ans.o Orc.dflt, Ans.o Orc.dflt]) ((AV.bool false, H.mk [] [] []) = (AV.bool false, H.mk [] [] [])) (by kernel_rfl) ?_
      first | with_reducible rfl | (refine bleaf_t ?_; omega) | (refine bleaf_f ?_; omega) | (refine ileaf ?_; omega) | rfl | (exfalso; omega)
    · have hb' : (b.toNat : Int) ≠ 0 := fun h => hb ((u_eq0 b).1 h)
      have e : foL p l 0 b (-1) = true := by simp [foL, hb]
      rw [e]
      refine body_s ([Ans.o Orc.dflt, Ans.o Orc.dflt, Ans.o Orc.dflt, Ans.o (Orc.b true)]) ((↑b.toNat : Int) ≠ (0 : Int) ∧ (AV.bool true, H.mk [] [] []) = (AV.bool true, H.mk [] [] [])) (by kernel_rfl) ?_
      refine ⟨by first | with_reducible assumption | omega | assumption, ?_⟩
      first | with_reducible rfl | (refine bleaf_t ?_; omega) | (refine bleaf_f ?_; omega) | (refine ileaf ?_; omega) | rfl | (exfalso; omega)
  · have e : foL p l 0 b a = false := by simp [foL, ha]
    rw [e]
    refine body_s ([Ans.fork [Ans.fork [Ans.o Orc.dflt, Ans.fork [] []] []] [Ans.o Orc.dflt, Ans.fork [Ans.o Orc.dflt, Ans.fork [] []] []]]) ((a = (-1 : Int) → (a = (-1 : Int) → ((↑b.toNat : Int) ≠ (0 : Int) → (AV.bool true, H.mk [] [] []) = (AV.bool false, H.mk [] [] [])) ∧ ((↑b.toNat : Int) = (0 : Int) → (AV.bool false, H.mk [] [] []) = (AV.bool false, H.mk [] [] []))) ∧ (a ≠ (-1 : Int) → (AV.bool false, H.mk [] [] []) = (AV.bool false, H.mk [] [] []))) ∧ (a ≠ (-1 : Int) → (a = (-1 : Int) → ((↑b.toNat : Int) ≠ (0 : Int) → (AV.bool true, H.mk [] [] []) = (AV.bool false, H.mk [] [] [])) ∧ ((↑b.toNat : Int) = (0 : Int) → (AV.bool false, H.mk [] [] []) = (AV.bool false, H.mk [] [] []))) ∧ (a ≠ (-1 : Int) → (AV.bool false, H.mk [] [] []) = (AV.bool false, H.mk [] [] [])))) (by kernel_rfl) ?_
    refine And.intro ?_ ?_
    · skip
      intro w0
      refine And.intro ?_ ?_
      · skip
        intro w1
        refine And.intro ?_ ?_
        · skip
          intro w2
          first | with_reducible rfl | (refine bleaf_t ?_; omega) | (refine bleaf_f ?_; omega) | (refine ileaf ?_; omega) | rfl | (exfalso; omega)
        · skip
          intro w2
          first | with_reducible rfl | (refine bleaf_t ?_; omega) | (refine bleaf_f ?_; omega) | (refine ileaf ?_; omega) | rfl | (exfalso; omega)
      · skip
        intro w1
        first | with_reducible rfl | (refine bleaf_t ?_; omega) | (refine bleaf_f ?_; omega) | (refine ileaf ?_; omega) | rfl | (exfalso; omega)
    · skip
      intro w0
      refine And.intro ?_ ?_
      · skip
        intro w1
        refine And.intro ?_ ?_
        · skip
          intro w2
          first | with_reducible rfl | (refine bleaf_t ?_; omega) | (refine bleaf_f ?_; omega) | (refine ileaf ?_; omega) | rfl | (exfalso; omega)
        · skip
          intro w2
          first | with_reducible rfl | (refine bleaf_t ?_; omega) | (refine bleaf_f ?_; omega) | (refine ileaf ?_; omega) | rfl | (exfalso; omega)
      · skip
        intro w1
        first | with_reducible rfl | (refine bleaf_t ?_; omega) | (refine bleaf_f ?_; omega) | (refine ileaf ?_; omega) | rfl | (exfalso; omega)
theorem r62e (d : Nat) (p : Int) (b : BitVec 32) (l : List Tri) (r : Room) : Body (En4 []) none1 Tryd.f62 [cA p b, tS l r, I (-1), I (d + 1 : Nat)] .nil (.bool (foL p l (d + 1) b (-1)), .nil) := by
  have e : foL p l (d + 1) b (-1) = false := by simp [foL]
  have hd : ((d + 1 : Nat) : Int) ≠ 0 := by omega
  rw [e]
  refine body_s ([Ans.o Orc.dflt, Ans.o Orc.dflt, Ans.o Orc.dflt]) ((AV.bool false, H.mk [] [] []) = (AV.bool false, H.mk [] [] [])) (by kernel_rfl) ?_
  first | with_reducible rfl | (refine bleaf_t ?_; omega) | (refine bleaf_f ?_; omega) | (refine ileaf ?_; omega) | rfl | (exfalso; omega)
theorem r62 (d : Nat) (ih : C62ok d) (p : Int) (b : BitVec 32) (l : List Tri) (r : Room) (i : Nat) (h : FoP p l r (i : Int)) (hi : i < l.length) (hd5 : d ≤ 100) :
    Body (En4 [c74.to, c75.to, (C62 d ih).to]) none1 Tryd.f62 [cA p b, tS l r, I i, I (d + 1 : Nat)] .nil (.bool (foL p l (d + 1) b i), .nil) := by
  have hri := rok_idx h.hr hi
  have hi1 : (i : Int) ≠ -1 := by omega
  have hd0 : ((d + 1 : Nat) : Int) ≠ 0 := by omega
  have hd1 : ((d + 1 : Nat) : Int) ≠ -1 := by omega
  have ev0 : IntKind.i64.wrap (((d + 1 : Nat) : Int) - 1) = (d : Int) := by rw [wr _ (by omega) (by omega)]; omega
  obtain ⟨x, hx⟩ : ∃ x, x = nd l i := ⟨_, rfl⟩
  have hl := h.hl i hi
  rw [← hx] at hl
  have hld : aLoad Tryd.prog 62 (trisA (l.drop i)) = some (.agg [I x.1, I x.2.1, I x.2.2]) := by
    rw [hx]; exact ld_tris (by kernel_rfl) (by kernel_rfl) (by kernel_rfl) hi
  have e : foL p l (d + 1) b i = (decide (0 ≤ x.1 ∧ x.1 < p) && (foL p l d (pt b x.1 0) x.2.1 && foL p l d (pt b x.1 1) x.2.2)) := by
    simp only [foL, Int.toNat_natCast, hi1, decide_false, Bool.not_false, Bool.true_and, hx]
  rw [e]
  cases h0 : decide (0 ≤ x.1 ∧ x.1 < p)
  · refine body_s ([Ans.o Orc.dflt, Ans.o Orc.dflt, Ans.o (Orc.val 29 (AV.cptr (trisA (List.drop i l))) H.nil), Ans.o (Orc.val 30 (AV.agg [I x.fst, I x.snd.fst, I x.snd.snd]) H.nil), Ans.o (Orc.val 34 (AV.bool false) (H.mk [[I p, AV.int IntKind.u32 (↑b.toNat : Int)], [I x.fst, I x.snd.fst, I x.snd.snd]] [] []))]) (aIndexAddr Tryd.prog (38 : Nat) (AV.sl (trisA l) l.length r) (I (↑i : Int)) = some (AV.cptr (trisA (List.drop i l))) ∧ aLoad Tryd.prog (62 : Nat) (trisA (List.drop i l)) = some (AV.agg [I x.fst, I x.snd.fst, I x.snd.snd]) ∧ aCall (Sof [c74.to, c75.to, (C62 d ih).to]) (AV.fn (Fn.func (74 : Nat)) [] []) [AV.agg [I p, AV.int IntKind.u32 (↑b.toNat : Int)], I x.fst] (H.mk [[I p, AV.int IntKind.u32 (↑b.toNat : Int)], [I x.fst, I x.snd.fst, I x.snd.snd]] [] []) = some (AV.bool false, H.mk [[I p, AV.int IntKind.u32 (↑b.toNat : Int)], [I x.fst, I x.snd.fst, I x.snd.snd]] [] []) ∧ (AV.bool false, H.mk [] [] []) = (AV.bool false, H.mk [] [] [])) (by kernel_rfl) ?_
    refine ⟨by first | exact ix_tris (by kernel_rfl) (by omega) (by assumption) | exact ix_tris (by kernel_rfl) (by omega) (rok_idx (by assumption) (by omega)), ?_⟩
    refine ⟨hld, ?_⟩
    refine ⟨acall_b (acall_hit (c := c74.to) (p, b, x.1) _ rfl trivial) h0, ?_⟩
    rfl
  · have h1 := of_decide_eq_true h0
    have hp := h.hp
    have z0 : is5 x.1 ∧ ((0 : Int) = 0 ∨ (0 : Int) = 1) := ⟨⟨h1.1, by obtain ⟨_, _⟩ := hp; omega⟩, .inl rfl⟩
    have z1 : is5 x.1 ∧ ((1 : Int) = 0 ∨ (1 : Int) = 1) := ⟨z0.1, .inr rfl⟩
    have p0 : FoP p l r x.2.1 := ⟨hp, h.hr, h.hl, hl.1⟩
    have p1 : FoP p l r x.2.2 := ⟨hp, h.hr, h.hl, hl.2⟩
    cases g0 : foL p l d (pt b x.1 0) x.2.1
    · refine body_s ([Ans.o Orc.dflt, Ans.o Orc.dflt, Ans.o (Orc.val 29 (AV.cptr (trisA (List.drop i l))) H.nil), Ans.o (Orc.val 30 (AV.agg [I x.fst, I x.snd.fst, I x.snd.snd]) H.nil), Ans.o (Orc.val 34 (AV.bool true) (H.mk [[I p, AV.int IntKind.u32 (↑b.toNat : Int)], [I x.fst, I x.snd.fst, I x.snd.snd]] [] [])), Ans.o (Orc.val 39 (AV.agg [I p, AV.int IntKind.u32 (↑(pt b x.fst (0 : Int)).toNat : Int)]) (H.mk [[I p, AV.int IntKind.u32 (↑b.toNat : Int)], [I x.fst, I x.snd.fst, I x.snd.snd]] [] [])), Ans.o (Orc.val 44 (I (↑d : Int)) H.nil), Ans.o (Orc.val 45 (AV.bool false) (H.mk [[I p, AV.int IntKind.u32 (↑b.toNat : Int)], [I x.fst, I x.snd.fst, I x.snd.snd]] [] []))]) (aIndexAddr Tryd.prog (38 : Nat) (AV.sl (trisA l) l.length r) (I (↑i : Int)) = some (AV.cptr (trisA (List.drop i l))) ∧ aLoad Tryd.prog (62 : Nat) (trisA (List.drop i l)) = some (AV.agg [I x.fst, I x.snd.fst, I x.snd.snd]) ∧ aCall (Sof [c74.to, c75.to, (C62 d ih).to]) (AV.fn (Fn.func (74 : Nat)) [] []) [AV.agg [I p, AV.int IntKind.u32 (↑b.toNat : Int)], I x.fst] (H.mk [[I p, AV.int IntKind.u32 (↑b.toNat : Int)], [I x.fst, I x.snd.fst, I x.snd.snd]] [] []) = some (AV.bool true, H.mk [[I p, AV.int IntKind.u32 (↑b.toNat : Int)], [I x.fst, I x.snd.fst, I x.snd.snd]] [] []) ∧ aCall (Sof [c74.to, c75.to, (C62 d ih).to]) (AV.fn (Fn.func (75 : Nat)) [] []) [AV.agg [I p, AV.int IntKind.u32 (↑b.toNat : Int)], I x.fst, I 0] (H.mk [[I p, AV.int IntKind.u32 (↑b.toNat : Int)], [I x.fst, I x.snd.fst, I x.snd.snd]] [] []) = some (AV.agg [I p, AV.int IntKind.u32 (↑(pt b x.fst (0 : Int)).toNat : Int)], H.mk [[I p, AV.int IntKind.u32 (↑b.toNat : Int)], [I x.fst, I x.snd.fst, I x.snd.snd]] [] []) ∧ aBin Tryd.prog BinOp.sub (3 : Nat) (I (↑(d + (1 : Nat)) : Int)) (I 1) = some (I (↑d : Int)) ∧ aCall (Sof [c74.to, c75.to, (C62 d ih).to]) (AV.fn (Fn.func (62 : Nat)) [] []) [AV.agg [I p, AV.int IntKind.u32 (↑(pt b x.fst (0 : Int)).toNat : Int)], AV.sl (trisA l) l.length r, I x.snd.fst, I (↑d : Int)] (H.mk [[I p, AV.int IntKind.u32 (↑b.toNat : Int)], [I x.fst, I x.snd.fst, I x.snd.snd]] [] []) = some (AV.bool false, H.mk [[I p, AV.int IntKind.u32 (↑b.toNat : Int)], [I x.fst, I x.snd.fst, I x.snd.snd]] [] []) ∧ (AV.bool false, H.mk [] [] []) = (AV.bool false, H.mk [] [] [])) (by kernel_rfl) ?_
      refine ⟨by first | exact ix_tris (by kernel_rfl) (by omega) (by assumption) | exact ix_tris (by kernel_rfl) (by omega) (rok_idx (by assumption) (by omega)), ?_⟩
      refine ⟨hld, ?_⟩
      refine ⟨acall_b (acall_hit (c := c74.to) (p, b, x.1) _ rfl trivial) h0, ?_⟩
      refine ⟨acall_hit (c := c75.to) (p, b, x.1, 0) _ rfl z0, ?_⟩
      refine ⟨told_sub (by with_reducible assumption), ?_⟩
      refine ⟨acall_b (acall_hit (c := (C62 d ih).to) ((p, pt b x.1 0), (l, r), x.2.1) _ rfl p0) g0, ?_⟩
      rfl
    · cases g1 : foL p l d (pt b x.1 1) x.2.2
      · refine body_s ([Ans.o Orc.dflt, Ans.o Orc.dflt, Ans.o (Orc.val 29 (AV.cptr (trisA (List.drop i l))) H.nil), Ans.o (Orc.val 30 (AV.agg [I x.fst, I x.snd.fst, I x.snd.snd]) H.nil), Ans.o (Orc.val 34 (AV.bool true) (H.mk [[I p, AV.int IntKind.u32 (↑b.toNat : Int)], [I x.fst, I x.snd.fst, I x.snd.snd]] [] [])), Ans.o (Orc.val 39 (AV.agg [I p, AV.int IntKind.u32 (↑(pt b x.fst (0 : Int)).toNat : Int)]) (H.mk [[I p, AV.int IntKind.u32 (↑b.toNat : Int)], [I x.fst, I x.snd.fst, I x.snd.snd]] [] [])), Ans.o (Orc.val 44 (I (↑d : Int)) H.nil), Ans.o (Orc.val 45 (AV.bool true) (H.mk [[I p, AV.int IntKind.u32 (↑b.toNat : Int)], [I x.fst, I x.snd.fst, I x.snd.snd]] [] [])), Ans.o (Orc.val 51 (AV.agg [I p, AV.int IntKind.u32 (↑(pt b x.fst (1 : Int)).toNat : Int)]) (H.mk [[I p, AV.int IntKind.u32 (↑b.toNat : Int)], [I x.fst, I x.snd.fst, I x.snd.snd]] [] [])), Ans.o (Orc.val 56 (I (↑d : Int)) H.nil), Ans.o (Orc.val 57 (AV.bool false) (H.mk [[I p, AV.int IntKind.u32 (↑b.toNat : Int)], [I x.fst, I x.snd.fst, I x.snd.snd]] [] []))]) (aIndexAddr Tryd.prog (38 : Nat) (AV.sl (trisA l) l.length r) (I (↑i : Int)) = some (AV.cptr (trisA (List.drop i l))) ∧ aLoad Tryd.prog (62 : Nat) (trisA (List.drop i l)) = some (AV.agg [I x.fst, I x.snd.fst, I x.snd.snd]) ∧ aCall (Sof [c74.to, c75.to, (C62 d ih).to]) (AV.fn (Fn.func (74 : Nat)) [] []) [AV.agg [I p, AV.int IntKind.u32 (↑b.toNat : Int)], I x.fst] (H.mk [[I p, AV.int IntKind.u32 (↑b.toNat : Int)], [I x.fst, I x.snd.fst, I x.snd.snd]] [] []) = some (AV.bool true, H.mk [[I p, AV.int IntKind.u32 (↑b.toNat : Int)], [I x.fst, I x.snd.fst, I x.snd.snd]] [] []) ∧ aCall (Sof [c74.to, c75.to, (C62 d ih).to]) (AV.fn (Fn.func (75 : Nat)) [] []) [AV.agg [I p, AV.int IntKind.u32 (↑b.toNat : Int)], I x.fst, I 0] (H.mk [[I p, AV.int IntKind.u32 (↑b.toNat : Int)], [I x.fst, I x.snd.fst, I x.snd.snd]] [] []) = some (AV.agg [I p, AV.int IntKind.u32 (↑(pt b x.fst (0 : Int)).toNat : Int)], H.mk [[I p, AV.int IntKind.u32 (↑b.toNat : Int)], [I x.fst, I x.snd.fst, I x.snd.snd]] [] []) ∧ aBin Tryd.prog BinOp.sub (3 : Nat) (I (↑(d + (1 : Nat)) : Int)) (I 1) = some (I (↑d : Int)) ∧ aCall (Sof [c74.to, c75.to, (C62 d ih).to]) (AV.fn (Fn.func (62 : Nat)) [] []) [AV.agg [I p, AV.int IntKind.u32 (↑(pt b x.fst (0 : Int)).toNat : Int)], AV.sl (trisA l) l.length r, I x.snd.fst, I (↑d : Int)] (H.mk [[I p, AV.int IntKind.u32 (↑b.toNat : Int)], [I x.fst, I x.snd.fst, I x.snd.snd]] [] []) = some (AV.bool true, H.mk [[I p, AV.int IntKind.u32 (↑b.toNat : Int)], [I x.fst, I x.snd.fst, I x.snd.snd]] [] []) ∧ aCall (Sof [c74.to, c75.to, (C62 d ih).to]) (AV.fn (Fn.func (75 : Nat)) [] []) [AV.agg [I p, AV.int IntKind.u32 (↑b.toNat : Int)], I x.fst, I 1] (H.mk [[I p, AV.int IntKind.u32 (↑b.toNat : Int)], [I x.fst, I x.snd.fst, I x.snd.snd]] [] []) = some (AV.agg [I p, AV.int IntKind.u32 (↑(pt b x.fst (1 : Int)).toNat : Int)], H.mk [[I p, AV.int IntKind.u32 (↑b.toNat : Int)], [I x.fst, I x.snd.fst, I x.snd.snd]] [] []) ∧ aBin Tryd.prog BinOp.sub (3 : Nat) (I (↑(d + (1 : Nat)) : Int)) (I 1) = some (I (↑d : Int)) ∧ aCall (Sof [c74.to, c75.to, (C62 d ih).to]) (AV.fn (Fn.func (62 : Nat)) [] []) [AV.agg [I p, AV.int IntKind.u32 (↑(pt b x.fst (1 : Int)).toNat : Int)], AV.sl (trisA l) l.length r, I x.snd.snd, I (↑d : Int)] (H.mk [[I p, AV.int IntKind.u32 (↑b.toNat : Int)], [I x.fst, I x.snd.fst, I x.snd.snd]] [] []) = some (AV.bool false, H.mk [[I p, AV.int IntKind.u32 (↑b.toNat : Int)], [I x.fst, I x.snd.fst, I x.snd.snd]] [] []) ∧ (AV.bool false, H.mk [] [] []) = (AV.bool false, H.mk [] [] [])) (by kernel_rfl) ?_
        refine ⟨by first | exact ix_tris (by kernel_rfl) (by omega) (by assumption) | exact ix_tris (by kernel_rfl) (by omega) (rok_idx (by assumption) (by omega)), ?_⟩
        refine ⟨hld, ?_⟩
        refine ⟨acall_b (acall_hit (c := c74.to) (p, b, x.1) _ rfl trivial) h0, ?_⟩
        refine ⟨by first | exact acall_hit (c := c75.to) (p, b, x.1, 0) _ rfl z0 | exact acall_hit (c := c75.to) (p, b, x.1, 1) _ rfl z1, ?_⟩
        refine ⟨told_sub (by with_reducible assumption), ?_⟩
        refine ⟨by first | exact acall_b (acall_hit (c := (C62 d ih).to) ((p, pt b x.1 0), (l, r), x.2.1) _ rfl p0) g0 | exact acall_b (acall_hit (c := (C62 d ih).to) ((p, pt b x.1 1), (l, r), x.2.2) _ rfl p1) g1, ?_⟩
        refine ⟨by first | exact acall_hit (c := c75.to) (p, b, x.1, 0) _ rfl z0 | exact acall_hit (c := c75.to) (p, b, x.1, 1) _ rfl z1, ?_⟩
        refine ⟨told_sub (by with_reducible assumption), ?_⟩
        refine ⟨by first | exact acall_b (acall_hit (c := (C62 d ih).to) ((p, pt b x.1 0), (l, r), x.2.1) _ rfl p0) g0 | exact acall_b (acall_hit (c := (C62 d ih).to) ((p, pt b x.1 1), (l, r), x.2.2) _ rfl p1) g1, ?_⟩
        rfl
      · refine body_s ([Ans.o Orc.dflt, Ans.o Orc.dflt, Ans.o (Orc.val 29 (AV.cptr (trisA (List.drop i l))) H.nil), Ans.o (Orc.val 30 (AV.agg [I x.fst, I x.snd.fst, I x.snd.snd]) H.nil), Ans.o (Orc.val 34 (AV.bool true) (H.mk [[I p, AV.int IntKind.u32 (↑b.toNat : Int)], [I x.fst, I x.snd.fst, I x.snd.snd]] [] [])), Ans.o (Orc.val 39 (AV.agg [I p, AV.int IntKind.u32 (↑(pt b x.fst (0 : Int)).toNat : Int)]) (H.mk [[I p, AV.int IntKind.u32 (↑b.toNat : Int)], [I x.fst, I x.snd.fst, I x.snd.snd]] [] [])), Ans.o (Orc.val 44 (I (↑d : Int)) H.nil), Ans.o (Orc.val 45 (AV.bool true) (H.mk [[I p, AV.int IntKind.u32 (↑b.toNat : Int)], [I x.fst, I x.snd.fst, I x.snd.snd]] [] [])), Ans.o (Orc.val 51 (AV.agg [I p, AV.int IntKind.u32 (↑(pt b x.fst (1 : Int)).toNat : Int)]) (H.mk [[I p, AV.int IntKind.u32 (↑b.toNat : Int)], [I x.fst, I x.snd.fst, I x.snd.snd]] [] [])), Ans.o (Orc.val 56 (I (↑d : Int)) H.nil), Ans.o (Orc.val 57 (AV.bool true) (H.mk [[I p, AV.int IntKind.u32 (↑b.toNat : Int)], [I x.fst, I x.snd.fst, I x.snd.snd]] [] []))]) (aIndexAddr Tryd.prog (38 : Nat) (AV.sl (trisA l) l.length r) (I (↑i : Int)) = some (AV.cptr (trisA (List.drop i l))) ∧ aLoad Tryd.prog (62 : Nat) (trisA (List.drop i l)) = some (AV.agg [I x.fst, I x.snd.fst, I x.snd.snd]) ∧ aCall (Sof [c74.to, c75.to, (C62 d ih).to]) (AV.fn (Fn.func (74 : Nat)) [] []) [AV.agg [I p, AV.int IntKind.u32 (↑b.toNat : Int)], I x.fst] (H.mk [[I p, AV.int IntKind.u32 (↑b.toNat : Int)], [I x.fst, I x.snd.fst, I x.snd.snd]] [] []) = some (AV.bool true, H.mk [[I p, AV.int IntKind.u32 (↑b.toNat : Int)], [I x.fst, I x.snd.fst, I x.snd.snd]] [] []) ∧ aCall (Sof [c74.to, c75.to, (C62 d ih).to]) (AV.fn (Fn.func (75 : Nat)) [] []) [AV.agg [I p, AV.int IntKind.u32 (↑b.toNat : Int)], I x.fst, I 0] (H.mk [[I p, AV.int IntKind.u32 (↑b.toNat : Int)], [I x.fst, I x.snd.fst, I x.snd.snd]] [] []) = some (AV.agg [I p, AV.int IntKind.u32 (↑(pt b x.fst (0 : Int)).toNat : Int)], H.mk [[I p, AV.int IntKind.u32 (↑b.toNat : Int)], [I x.fst, I x.snd.fst, I x.snd.snd]] [] []) ∧ aBin Tryd.prog BinOp.sub (3 : Nat) (I (↑(d + (1 : Nat)) : Int)) (I 1) = some (I (↑d : Int)) ∧ aCall (Sof [c74.to, c75.to, (C62 d ih).to]) (AV.fn (Fn.func (62 : Nat)) [] []) [AV.agg [I p, AV.int IntKind.u32 (↑(pt b x.fst (0 : Int)).toNat : Int)], AV.sl (trisA l) l.length r, I x.snd.fst, I (↑d : Int)] (H.mk [[I p, AV.int IntKind.u32 (↑b.toNat : Int)], [I x.fst, I x.snd.fst, I x.snd.snd]] [] []) = some (AV.bool true, H.mk [[I p, AV.int IntKind.u32 (↑b.toNat : Int)], [I x.fst, I x.snd.fst, I x.snd.snd]] [] []) ∧ aCall (Sof [c74.to, c75.to, (C62 d ih).to]) (AV.fn (Fn.func (75 : Nat)) [] []) [AV.agg [I p, AV.int IntKind.u32 (↑b.toNat : Int)], I x.fst, I 1] (H.mk [[I p, AV.int IntKind.u32 (↑b.toNat : Int)], [I x.fst, I x.snd.fst, I x.snd.snd]] [] []) = some (AV.agg [I p, AV.int IntKind.u32 (↑(pt b x.fst (1 : Int)).toNat : Int)], H.mk [[I p, AV.int IntKind.u32 (↑b.toNat : Int)], [I x.fst, I x.snd.fst, I x.snd.snd]] [] []) ∧ aBin Tryd.prog BinOp.sub (3 : Nat) (I (↑(d + (1 : Nat)) : Int)) (I 1) = some (I (↑d : Int)) ∧ aCall (Sof [c74.to, c75.to, (C62 d ih).to]) (AV.fn (Fn.func (62 : Nat)) [] []) [AV.agg [I p, AV.int IntKind.u32 (↑(pt b x.fst (1 : Int)).toNat : Int)], AV.sl (trisA l) l.length r, I x.snd.snd, I (↑d : Int)] (H.mk [[I p, AV.int IntKind.u32 (↑b.toNat : Int)], [I x.fst, I x.snd.fst, I x.snd.snd]] [] []) = some (AV.bool true, H.mk [[I p, AV.int IntKind.u32 (↑b.toNat : Int)], [I x.fst, I x.snd.fst, I x.snd.snd]] [] []) ∧ (AV.bool true, H.mk [] [] []) = (AV.bool true, H.mk [] [] [])) (by kernel_rfl) ?_
        refine ⟨by first | exact ix_tris (by kernel_rfl) (by omega) (by assumption) | exact ix_tris (by kernel_rfl) (by omega) (rok_idx (by assumption) (by omega)), ?_⟩
        refine ⟨hld, ?_⟩
        refine ⟨acall_b (acall_hit (c := c74.to) (p, b, x.1) _ rfl trivial) h0, ?_⟩
        refine ⟨by first | exact acall_hit (c := c75.to) (p, b, x.1, 0) _ rfl z0 | exact acall_hit (c := c75.to) (p, b, x.1, 1) _ rfl z1, ?_⟩
        refine ⟨told_sub (by with_reducible assumption), ?_⟩
        refine ⟨by first | exact acall_b (acall_hit (c := (C62 d ih).to) ((p, pt b x.1 0), (l, r), x.2.1) _ rfl p0) g0 | exact acall_b (acall_hit (c := (C62 d ih).to) ((p, pt b x.1 1), (l, r), x.2.2) _ rfl p1) g1, ?_⟩
        refine ⟨by first | exact acall_hit (c := c75.to) (p, b, x.1, 0) _ rfl z0 | exact acall_hit (c := c75.to) (p, b, x.1, 1) _ rfl z1, ?_⟩
        refine ⟨told_sub (by with_reducible assumption), ?_⟩
        refine ⟨by first | exact acall_b (acall_hit (c := (C62 d ih).to) ((p, pt b x.1 0), (l, r), x.2.1) _ rfl p0) g0 | exact acall_b (acall_hit (c := (C62 d ih).to) ((p, pt b x.1 1), (l, r), x.2.2) _ rfl p1) g1, ?_⟩
        rfl
theorem all62 : ∀ d, d ≤ 100 → C62ok d
  | 0, _ => fun p b l r a h => (r62z p b l r a h).run ok62 .nil rfl
  | d + 1, hd => fun p b l r a h => by
    rcases h.ha with q | ⟨q1, q2⟩
    · subst q
      exact (r62e d p b l r).run ok62 .nil rfl
    · obtain ⟨i, rfl⟩ : ∃ i : Nat, a = i := ⟨a.toNat, by omega⟩
      exact (r62 d (all62 d (by omega)) p b l r i h (by omega) (by omega)).run ok62 (.pure _ (.pure _ (.pure _ .nil))) rfl
/-- 'follow' -/
noncomputable def c62 : PCtr Tryd.prog where
  f := 62
  X := (Int × BitVec 32) × (List Tri × Room) × Int × Nat
  args q := [cA q.1.1 q.1.2, tS q.2.1.1 q.2.1.2, I q.2.2.1, I q.2.2.2]
  pre q := FoP q.1.1 q.2.1.1 q.2.1.2 q.2.2.1 ∧ q.2.2.2 ≤ 100
  v q := .bool (foL q.1.1 q.2.1.1 q.2.2.2 q.1.2 q.2.2.1)
  det := by
    rintro ⟨⟨p, b⟩, ⟨l, r⟩, a, d⟩ ⟨⟨p', b'⟩, ⟨l', r'⟩, a', d'⟩ e _ _
    simp [Int.natCast_inj] at e
    obtain ⟨⟨rfl, e1⟩, ⟨rfl, _, rfl⟩, rfl, rfl⟩ := e
    rw [show b = b' from BitVec.eq_of_toNat_eq e1]
  ok := by
    rintro ⟨⟨p, b⟩, ⟨l, r⟩, a, d⟩ h
    exact (C62 d (all62 d h.2)).ok ((p, b), (l, r), a) h.1
end Go.Proofs.Lrn

