/- Layer 9: the average score, and fractions in lowest terms, by the program. -/
import Derived.Test.YthodoagjojmliaaBtE
import Derived.KernelRfl
set_option linter.unusedSimpArgs false
set_option linter.unusedVariables false
set_option linter.unnecessarySimpa false
set_option maxHeartbeats 4000000
set_option maxRecDepth 100000
namespace Go.Proofs.Bts
open Go Go.VM

def avN (a : List Int) (D : Int) (b : List Int) (E : Int) : Int := 2 * pI a b a.length * D - pI a a a.length * E
def avD (D E : Int) : Int := D * D * E
abbrev pA (a : List Int) (r : Room) (D : Int) (b : List Int) (q : Room) (E : Int) : Prop := (pP a r b q ∧ a.length ≤ 5) ∧ (1 ≤ D ∧ D ≤ 30000) ∧ 1 ≤ E ∧ E ≤ 30000
theorem mul_b {x y X Y : Int} (h1 : 0 ≤ x ∧ x ≤ X) (h2 : 0 ≤ y ∧ y ≤ Y) : 0 ≤ x * y ∧ x * y ≤ X * Y := ⟨Int.mul_nonneg h1.1 h2.1, Int.mul_le_mul h1.2 h2.2 h2.1 (Int.le_trans h1.1 h1.2)⟩
theorem pI_5 {a b : List Int} (ha : bnI a 30000) (hb : bnI b 30000) (h5 : a.length ≤ 5) (hl : b.length = a.length) : 0 ≤ pI a b a.length ∧ pI a b a.length ≤ 4500000000 := by
  have := pI_b ha hb (by decide) (j := a.length) (Nat.le_refl _) (by omega)
  omega
theorem av_b {a : List Int} {r : Room} {D : Int} {b : List Int} {q : Room} {E : Int} (hp : pA a r D b q E) :
    ((0 ≤ 2 * pI a b a.length ∧ 2 * pI a b a.length ≤ 9000000000) ∧ (0 ≤ 2 * pI a b a.length * D ∧ 2 * pI a b a.length * D ≤ 270000000000000) ∧ (0 ≤ pI a a a.length ∧ pI a a a.length ≤ 4500000000) ∧ 0 ≤ pI a a a.length * E ∧ pI a a a.length * E ≤ 135000000000000) ∧
    (1 ≤ D * D ∧ D * D ≤ 900000000) ∧ 1 ≤ avD D E ∧ avD D E ≤ 27000000000000 := by
  obtain ⟨⟨⟨⟨⟨_, _⟩, hl, _⟩, ha, hb⟩, h5⟩, ⟨d1, d2⟩, e1, e2⟩ := hp
  have h1 := pI_5 ha hb h5 hl
  have h2 := pI_5 ha ha h5 rfl
  have h3 := mul_b (x := 2 * pI a b a.length) (y := D) (X := 9000000000) (Y := 30000) (by omega) (by omega)
  have h4 := mul_b (x := pI a a a.length) (y := E) (X := 4500000000) (Y := 30000) (by omega) (by omega)
  have h5 := mul_b (x := D) (y := D) (X := 30000) (Y := 30000) (by omega) (by omega)
  have h6 := mul_b (x := D * D) (y := E) (X := 900000000) (Y := 30000) (by omega) (by omega)
  have h7 : 1 ≤ D * D := by have := Int.mul_pos (show 0 < D by omega) (show 0 < D by omega); omega
  have h8 : 1 ≤ D * D * E := by have := Int.mul_pos (show 0 < D * D by omega) (show 0 < E by omega); omega
  simp only [avD]
  omega
theorem ok101 : FokM Try.prog none1 101 Try.f101 := ⟨mixed, by kernel_rfl, by kernel_rfl, by kernel_rfl, by kernel_rfl⟩
theorem r101 (a : List Int) (r : Rm) (D : Int) (b : List Int) (q : Rm) (E : Int) (hp : pA a r D b q E) : Body ⟨Try.prog, Sof (P := Try.prog) [c128.to, c87.to], Pof (P := Try.prog) [], H.nil.base, 300⟩ none1 Try.f101 [fz a r.wk D, fz b q.wk E] .nil (.agg [I (lwN (avN a D b E) (avD D E)), I (lwD (avN a D b E) (avD D E))], .nil) := by
  obtain ⟨⟨b1, b2, b3, b4⟩, b5, b6, b7⟩ := av_b hp
  have p128 : pP a r b q := hp.1.1
  have p128' : pP a r a r := ⟨⟨hp.1.1.1.1, rfl, hp.1.1.1.1.2⟩, hp.1.1.2.1, hp.1.1.2.1⟩
  have hN : avN a D b E = 2 * pI a b a.length * D - pI a a a.length * E := rfl
  have hQ : avD D E = D * D * E := rfl
  have ev0 : IntKind.i64.wrap (2 * pI a b a.length * D - pI a a a.length * E) = avN a D b E := wr _ (by omega) (by omega)
  have ev1 : IntKind.i64.wrap (D * D * E) = avD D E := wr _ (by omega) (by omega)
  have ev2 : IntKind.i64.wrap (2 * pI a b a.length) = 2 * pI a b a.length := wr _ (by omega) (by omega)
  have ev3 : IntKind.i64.wrap (2 * pI a b a.length * D) = 2 * pI a b a.length * D := wr _ (by omega) (by omega)
  have ev4 : IntKind.i64.wrap (pI a a a.length * E) = pI a a a.length * E := wr _ (by omega) (by omega)
  have ev5 : IntKind.i64.wrap (D * D) = D * D := wr _ (by omega) (by omega)
  have p87 : (-9223372036854775807 ≤ avN a D b E ∧ avN a D b E ≤ 9223372036854775807) ∧ 1 ≤ avD D E ∧ avD D E ≤ 9223372036854775807 := ⟨⟨by omega, by omega⟩, by omega, by omega⟩
  refine body_s ([Ans.o (Orc.val 8 (I (pI a b a.length)) (H.mk [[AV.sl (ints a) a.length (Room.wk r), I D], [AV.sl (ints b) b.length (Room.wk q), I E], [I 0, I 0]] [] [])), Ans.o (Orc.val 9 (I ((2 : Int) * pI a b a.length)) H.nil), Ans.o (Orc.val 12 (I ((2 : Int) * pI a b a.length * D)) H.nil), Ans.o (Orc.val 15 (I (pI a a a.length)) (H.mk [[AV.sl (ints a) a.length (Room.wk r), I D], [AV.sl (ints b) b.length (Room.wk q), I E], [I 0, I 0]] [] [])), Ans.o (Orc.val 18 (I (pI a a a.length * E)) H.nil), Ans.o (Orc.val 19 (I (avN a D b E)) H.nil), Ans.o (Orc.val 25 (I (D * D)) H.nil), Ans.o (Orc.val 28 (I (avD D E)) H.nil), Ans.o (Orc.val 29 (AV.agg [I (lwN (avN a D b E) (avD D E)), I (lwD (avN a D b E) (avD D E))]) (H.mk [[AV.sl (ints a) a.length (Room.wk r), I D], [AV.sl (ints b) b.length (Room.wk q), I E], [I 0, I 0]] [] []))]) (aCall (Sof [c128.to, c87.to]) (AV.fn (Fn.func (128 : Nat)) [] []) [AV.agg [AV.sl (ints a) a.length (Room.wk r), I D], AV.agg [AV.sl (ints b) b.length (Room.wk q), I E]] (H.mk [[AV.sl (ints a) a.length (Room.wk r), I D], [AV.sl (ints b) b.length (Room.wk q), I E], [I 0, I 0]] [] []) = some (I (pI a b a.length), H.mk [[AV.sl (ints a) a.length (Room.wk r), I D], [AV.sl (ints b) b.length (Room.wk q), I E], [I 0, I 0]] [] []) ∧ aBin Try.prog BinOp.mul (3 : Nat) (I 2) (I (pI a b a.length)) = some (I ((2 : Int) * pI a b a.length)) ∧ aBin Try.prog BinOp.mul (3 : Nat) (I ((2 : Int) * pI a b a.length)) (I D) = some (I ((2 : Int) * pI a b a.length * D)) ∧ aCall (Sof [c128.to, c87.to]) (AV.fn (Fn.func (128 : Nat)) [] []) [AV.agg [AV.sl (ints a) a.length (Room.wk r), I D], AV.agg [AV.sl (ints a) a.length (Room.wk r), I D]] (H.mk [[AV.sl (ints a) a.length (Room.wk r), I D], [AV.sl (ints b) b.length (Room.wk q), I E], [I 0, I 0]] [] []) = some (I (pI a a a.length), H.mk [[AV.sl (ints a) a.length (Room.wk r), I D], [AV.sl (ints b) b.length (Room.wk q), I E], [I 0, I 0]] [] []) ∧ aBin Try.prog BinOp.mul (3 : Nat) (I (pI a a a.length)) (I E) = some (I (pI a a a.length * E)) ∧ aBin Try.prog BinOp.sub (3 : Nat) (I ((2 : Int) * pI a b a.length * D)) (I (pI a a a.length * E)) = some (I (avN a D b E)) ∧ aBin Try.prog BinOp.mul (3 : Nat) (I D) (I D) = some (I (D * D)) ∧ aBin Try.prog BinOp.mul (3 : Nat) (I (D * D)) (I E) = some (I (avD D E)) ∧ aCall (Sof [c128.to, c87.to]) (AV.fn (Fn.func (87 : Nat)) [] []) [I (avN a D b E), I (avD D E)] (H.mk [[AV.sl (ints a) a.length (Room.wk r), I D], [AV.sl (ints b) b.length (Room.wk q), I E], [I 0, I 0]] [] []) = some (AV.agg [I (lwN (avN a D b E) (avD D E)), I (lwD (avN a D b E) (avD D E))], H.mk [[AV.sl (ints a) a.length (Room.wk r), I D], [AV.sl (ints b) b.length (Room.wk q), I E], [I 0, I 0]] [] []) ∧ (AV.agg [I (lwN (avN a D b E) (avD D E)), I (lwD (avN a D b E) (avD D E))], H.mk [] [] []) = (AV.agg [I (lwN (avN a D b E) (avD D E)), I (lwD (avN a D b E) (avD D E))], H.mk [] [] [])) (by kernel_rfl) ?_
  refine ⟨by first | exact acall_hit (c := c128.to) (a, r, D, b, q, E) _ rfl p128 | exact acall_hit (c := c128.to) (a, r, D, a, r, D) _ rfl p128', ?_⟩
  refine ⟨told_mul (by with_reducible assumption), ?_⟩
  refine ⟨told_mul (by with_reducible assumption), ?_⟩
  refine ⟨by first | exact acall_hit (c := c128.to) (a, r, D, b, q, E) _ rfl p128 | exact acall_hit (c := c128.to) (a, r, D, a, r, D) _ rfl p128', ?_⟩
  refine ⟨told_mul (by with_reducible assumption), ?_⟩
  refine ⟨told_sub (by with_reducible assumption), ?_⟩
  refine ⟨told_mul (by with_reducible assumption), ?_⟩
  refine ⟨told_mul (by with_reducible assumption), ?_⟩
  refine ⟨acall_hit (c := c87.to) (avN a D b E, avD D E) _ rfl p87, ?_⟩
  rfl
noncomputable def c101 : PCtr Try.prog := sctr ok101 (X := List Int × Rm × Int × List Int × Rm × Int) (fun x => [fz x.1 x.2.1.wk x.2.2.1, fz x.2.2.2.1 x.2.2.2.2.1.wk x.2.2.2.2.2]) (fun x => pA x.1 x.2.1 x.2.2.1 x.2.2.2.1 x.2.2.2.2.1 x.2.2.2.2.2) (fun x => .agg [I (lwN (avN x.1 x.2.2.1 x.2.2.2.1 x.2.2.2.2.2) (avD x.2.2.1 x.2.2.2.2.2)), I (lwD (avN x.1 x.2.2.1 x.2.2.2.1 x.2.2.2.2.2) (avD x.2.2.1 x.2.2.2.2.2))]) (by intro x y e _ _; simp [Int.natCast_inj] at e; simp [e]) (fun x => by simp [AV.bnds, AV.bnd, AV.wk, rm_wk_bnd]) (fun x => by first | rfl | (simp [AV.bnd, rm_wk_bnd]; done)  | (simp [AV.bnd, AV.bnds, rm_wk_bnd]; done) | simp [AV.bnd, AV.bnds, Room.bnd, rm_wk_bnd]) (fun x hx => ⟨_, _, _, .pure c128 (.pure c87 (.nil)), r101 (x.1) (x.2.1) (x.2.2.1) (x.2.2.2.1) (x.2.2.2.2.1) (x.2.2.2.2.2) hx⟩)
end Go.Proofs.Bts

