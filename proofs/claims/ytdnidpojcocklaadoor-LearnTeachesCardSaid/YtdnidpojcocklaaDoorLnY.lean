/- Layer 4: plans of questions. -/
import Derived.Test.YtdnidpojcocklaaDoorLnI
import Derived.KernelRfl
set_option linter.unusedSimpArgs false
set_option linter.unusedVariables false
set_option linter.unnecessarySimpa false
set_option maxHeartbeats 4000000
set_option maxRecDepth 100000
namespace Go.Proofs.Lrn
open Go Go.VM

def quL (f : BitVec 32 → Int) (b : BitVec 32) (p : Int) : Nat → Int
  | 0 => p
  | j + 1 => if dfb b (j : Int) then pick2 false (quL f b p j) (1 + pick2 true (f (pt b (j : Int) 0)) (f (pt b (j : Int) 1))) else quL f b p j
def quF (p : Int) : Nat → BitVec 32 → Int
  | 0, _ => 0
  | n + 1, b => if pc b = 1 then 0 else quL (quF p n) b p p.toNat
theorem quL_congr {f g : BitVec 32 → Int} {b : BitVec 32} {p : Int} (h : ∀ c, pc c < pc b → f c = g c) : ∀ j, quL f b p j = quL g b p j
  | 0 => rfl
  | j + 1 => by
    simp only [quL]
    rw [quL_congr h j]
    split
    · rename_i hd; rw [h _ (pt_lt hd), h _ (pt_lt hd)]
    · rfl
theorem quF_stable (p : Int) : ∀ n m b, pc b < n → pc b < m → quF p n b = quF p m b
  | 0, _, _, h, _ => absurd h (Nat.not_lt_zero _)
  | n + 1, 0, _, _, h => absurd h (Nat.not_lt_zero _)
  | n + 1, m + 1, b, h, h' => by
    simp only [quF]
    split
    · rfl
    · exact quL_congr (fun c hc => quF_stable p n m c (by omega) (by omega)) _
/-- the least length of a plan of questions -/
def quV (p : Int) (b : BitVec 32) : Int := quF p 33 b
theorem quV_eq {p : Int} {b : BitVec 32} (h : pc b ≠ 1) : quV p b = quL (quV p) b p p.toNat := by
  show quF p (32 + 1) b = _
  simp only [quF, if_neg h]
  have := pc_le b
  exact quL_congr (fun c hc => quF_stable p 32 33 c (by omega) (by omega)) _
theorem quV_one {p : Int} {b : BitVec 32} (h : pc b = 1) : quV p b = 0 := by
  show quF p (32 + 1) b = _
  simp only [quF, if_pos h]
theorem quL_bd {f : BitVec 32 → Int} {b : BitVec 32} {p : Int} (hp : 0 ≤ p) (h : ∀ c, 0 ≤ f c) : ∀ j, 0 ≤ quL f b p j ∧ quL f b p j ≤ p
  | 0 => ⟨hp, Int.le_refl p⟩
  | j + 1 => by
    have ih := quL_bd (b := b) hp h j
    simp only [quL]
    split
    · have h0 := h (pt b (j : Int) 0)
      have h1 := h (pt b (j : Int) 1)
      simp only [pick2, if_true, Bool.false_eq_true, if_false]
      split <;> split <;> omega
    · exact ih
theorem quF_bd {p : Int} (hp : 0 ≤ p) : ∀ n b, 0 ≤ quF p n b ∧ quF p n b ≤ p
  | 0, b => by simp only [quF]; omega
  | n + 1, b => by
    simp only [quF]
    split
    · omega
    · exact quL_bd hp (fun c => (quF_bd hp n c).1) _
theorem quV_bd {p : Int} (hp : 0 ≤ p) (b : BitVec 32) : 0 ≤ quV p b ∧ quV p b ≤ p := quF_bd hp 33 b

abbrev C70ok (n : Nat) : Prop := ∀ p b, p5 p ∧ pc b < n → CallOk Tryd.prog 70 [cA p b] .nil (I (quV p b)) .nil
theorem ok70 : FokM Tryd.prog none1 70 Tryd.f70 := ⟨mixed, by kernel_rfl, by kernel_rfl, by kernel_rfl, by kernel_rfl⟩
noncomputable def C70 (n : Nat) (ih : C70ok n) : PCtr Tryd.prog where
  f := 70
  X := Int × BitVec 32
  args q := [cA q.1 q.2]
  pre q := p5 q.1 ∧ pc q.2 < n
  v q := I (quV q.1 q.2)
  det := by
    rintro ⟨p, b⟩ ⟨p', b'⟩ e _ _
    simp at e
    simp [e]
  ok := by
    rintro ⟨p, b⟩ h
    exact ⟨ok70.call, fun H => pure_call (ih p b h) rfl rfl H⟩
abbrev o70 (p : Int) (b : BitVec 32) : List Out :=
  [.mk Unit (.exit 0) [3] (fun _ => True) (fun _ => [I (quL (quV p) b p p.toNat)]) (fun _ => b58 p b) (fun _ => [])]
theorem simp70 : allSimpleM none1 (loopAt Tryd.f70 0) = true := by kernel_rfl
theorem lp70 (n : Nat) (ih : C70ok n) (p : Int) (b : BitVec 32) (h0 : p5 p) (hb : pc b < n + 1) :
    LoopS (En4 [c85.to, c77.to, c75.to, (C70 n ih).to]) (loopAt Tryd.f70 0) 32 [1, 3, 11, 12] [.ptr 0 0, I p, I p, I 0] (b58 p b) (o70 p b) := by
  have hR : Rests (En4 [c85.to, c77.to, c75.to, (C70 n ih).to]) none1 := rests mixed (.pure _ (.pure _ (.pure _ (.pure _ .nil))))
  refine loop_s hR simp70 none (by intro _ h; cases h) (fun j vs h => h = b58 p b ∧ vs = [.ptr 0 0, I (quL (quV p) b p j), I p, I j] ∧ (j : Int) ≤ p) p.toNat ⟨rfl, rfl, by obtain ⟨_, _⟩ := h0; omega⟩ (by intro _ h; cases h) ?_
  have g0 := h0
  obtain ⟨g1, g2⟩ := g0
  have bd : ∀ j, 0 ≤ quL (quV p) b p j ∧ quL (quV p) b p j ≤ p := quL_bd (by omega) (fun c => (quV_bd (by omega) c).1)
  rintro j vs h hj ⟨rfl, rfl, hle⟩
  by_cases hz : (j : Int) < p
  · have hx : is5 (j : Int) := ⟨by omega, by omega⟩
    have hle2 : ((j + 1 : Nat) : Int) ≤ p := by omega
    cases hd : dfb b (j : Int)
    · have e : quL (quV p) b p (j + 1) = quL (quV p) b p j := by simp only [quL, hd]; rfl
      refine ⟨[Ans.o (Orc.b true), Ans.o (Orc.val 17 (AV.bool false) (H.mk [[I p, AV.int IntKind.u32 (↑b.toNat : Int)]] [] []))], fun u => of_eq ((↑j : Int) < p ∧ aCall (Sof [c85.to, c77.to, c75.to, (C70 n ih).to]) (AV.fn (Fn.func (77 : Nat)) [] []) [AV.agg [I p, AV.int IntKind.u32 (↑b.toNat : Int)], I (↑j : Int)] (H.mk [[I p, AV.int IntKind.u32 (↑b.toNat : Int)]] [] []) = some (AV.bool false, H.mk [[I p, AV.int IntKind.u32 (↑b.toNat : Int)]] [] []) ∧ IntKind.i64.wrap ((↑j : Int) + (1 : Int)) = (↑j : Int) + (1 : Int) ∧ (32 : Nat) = (32 : Nat) ∧ j < p.toNat ∧ Keep (H.mk [[I p, AV.int IntKind.u32 (↑b.toNat : Int)]] [] [] = H.mk [[I p, AV.int IntKind.u32 (↑b.toNat : Int)]] [] [] ∧ [AV.ptr 0 0, I (quL (quV p) b p j), I p, I ((↑j : Int) + (1 : Int))] = [AV.ptr 0 0, I (quL (quV p) b p (j + (1 : Nat))), I p, I (↑(j + (1 : Nat)) : Int)] ∧ (↑(j + (1 : Nat)) : Int) ≤ p)) (by kernel_rfl) ?_⟩
      refine ⟨by first | assumption | omega | (simp only [small, tiny, rng, decide_eq_true_eq, decide_eq_false_iff_not, true_or, or_true, true_and, and_true, Int.reduceEq, Int.reduceNeg, eq_self, reduceIte, if_true, if_false] at *; omega) | (simp [small, tiny, rng, decide_eq_true_eq, decide_eq_false_iff_not, true_or, or_true, true_and, and_true, Int.reduceEq, Int.reduceNeg, eq_self, reduceIte, if_true, if_false] at *; done), ?_⟩
      refine ⟨acall_b (acall_hit (c := c77.to) (p, b, (j : Int)) _ rfl hx) hd, ?_⟩
      refine ⟨by first | exact wr _ (by omega) (by omega) | (refine wr _ ?_ ?_ <;> (simp only [small, tiny, rng, decide_eq_true_eq, decide_eq_false_iff_not, true_or, or_true, true_and, and_true, Int.reduceEq, Int.reduceNeg, eq_self, reduceIte, if_true, if_false] at *; omega)), ?_⟩
      refine ⟨by first | assumption | omega | (simp only [small, tiny, rng, decide_eq_true_eq, decide_eq_false_iff_not, true_or, or_true, true_and, and_true, Int.reduceEq, Int.reduceNeg, eq_self, reduceIte, if_true, if_false] at *; omega) | (simp [small, tiny, rng, decide_eq_true_eq, decide_eq_false_iff_not, true_or, or_true, true_and, and_true, Int.reduceEq, Int.reduceNeg, eq_self, reduceIte, if_true, if_false] at *; done), ?_⟩
      refine ⟨by first | assumption | omega | (simp only [small, tiny, rng, decide_eq_true_eq, decide_eq_false_iff_not, true_or, or_true, true_and, and_true, Int.reduceEq, Int.reduceNeg, eq_self, reduceIte, if_true, if_false] at *; omega) | (simp [small, tiny, rng, decide_eq_true_eq, decide_eq_false_iff_not, true_or, or_true, true_and, and_true, Int.reduceEq, Int.reduceNeg, eq_self, reduceIte, if_true, if_false] at *; done), ?_⟩
      exact ⟨rfl, by rw [e]; rfl, hle2⟩
    · have e : quL (quV p) b p (j + 1) = pick2 false (quL (quV p) b p j) (1 + pick2 true (quV p (pt b (j : Int) 0)) (quV p (pt b (j : Int) 1))) := by simp only [quL, hd, if_true]
      have z0 : is5 (j : Int) ∧ ((0 : Int) = 0 ∨ (0 : Int) = 1) := ⟨hx, .inl rfl⟩
      have z1 : is5 (j : Int) ∧ ((1 : Int) = 0 ∨ (1 : Int) = 1) := ⟨hx, .inr rfl⟩
      have l0 := pt_lt (y := 0) hd
      have l1 := pt_lt (y := 1) hd
      have d0 : p5 p ∧ pc (pt b (j : Int) 0) < n := ⟨h0, by omega⟩
      have d1 : p5 p ∧ pc (pt b (j : Int) 1) < n := ⟨h0, by omega⟩
      have w0 : 0 ≤ pick2 true (quV p (pt b (j : Int) 0)) (quV p (pt b (j : Int) 1)) ∧ pick2 true (quV p (pt b (j : Int) 0)) (quV p (pt b (j : Int) 1)) ≤ 5 := by
        have := quV_bd (p := p) (by omega) (pt b (j : Int) 0)
        have := quV_bd (p := p) (by omega) (pt b (j : Int) 1)
        simp only [pick2, if_true]
        split <;> omega
      refine ⟨[Ans.o (Orc.b true), Ans.o (Orc.val 17 (AV.bool true) (H.mk [[I p, AV.int IntKind.u32 (↑b.toNat : Int)]] [] [])), Ans.o (Orc.val 21 (AV.agg [I p, AV.int IntKind.u32 (↑(pt b (↑j : Int) (0 : Int)).toNat : Int)]) (H.mk [[I p, AV.int IntKind.u32 (↑b.toNat : Int)]] [] [])), Ans.o (Orc.val 22 (I (quV p (pt b (↑j : Int) (0 : Int)))) (H.mk [[I p, AV.int IntKind.u32 (↑b.toNat : Int)]] [] [])), Ans.o (Orc.val 25 (AV.agg [I p, AV.int IntKind.u32 (↑(pt b (↑j : Int) (1 : Int)).toNat : Int)]) (H.mk [[I p, AV.int IntKind.u32 (↑b.toNat : Int)]] [] [])), Ans.o (Orc.val 26 (I (quV p (pt b (↑j : Int) (1 : Int)))) (H.mk [[I p, AV.int IntKind.u32 (↑b.toNat : Int)]] [] []))], fun u => of_eq ((↑j : Int) < p ∧ aCall (Sof [c85.to, c77.to, c75.to, (C70 n ih).to]) (AV.fn (Fn.func (77 : Nat)) [] []) [AV.agg [I p, AV.int IntKind.u32 (↑b.toNat : Int)], I (↑j : Int)] (H.mk [[I p, AV.int IntKind.u32 (↑b.toNat : Int)]] [] []) = some (AV.bool true, H.mk [[I p, AV.int IntKind.u32 (↑b.toNat : Int)]] [] []) ∧ aCall (Sof [c85.to, c77.to, c75.to, (C70 n ih).to]) (AV.fn (Fn.func (75 : Nat)) [] []) [AV.agg [I p, AV.int IntKind.u32 (↑b.toNat : Int)], I (↑j : Int), I 0] (H.mk [[I p, AV.int IntKind.u32 (↑b.toNat : Int)]] [] []) = some (AV.agg [I p, AV.int IntKind.u32 (↑(pt b (↑j : Int) (0 : Int)).toNat : Int)], H.mk [[I p, AV.int IntKind.u32 (↑b.toNat : Int)]] [] []) ∧ aCall (Sof [c85.to, c77.to, c75.to, (C70 n ih).to]) (AV.fn (Fn.func (70 : Nat)) [] []) [AV.agg [I p, AV.int IntKind.u32 (↑(pt b (↑j : Int) (0 : Int)).toNat : Int)]] (H.mk [[I p, AV.int IntKind.u32 (↑b.toNat : Int)]] [] []) = some (I (quV p (pt b (↑j : Int) (0 : Int))), H.mk [[I p, AV.int IntKind.u32 (↑b.toNat : Int)]] [] []) ∧ aCall (Sof [c85.to, c77.to, c75.to, (C70 n ih).to]) (AV.fn (Fn.func (75 : Nat)) [] []) [AV.agg [I p, AV.int IntKind.u32 (↑b.toNat : Int)], I (↑j : Int), I 1] (H.mk [[I p, AV.int IntKind.u32 (↑b.toNat : Int)]] [] []) = some (AV.agg [I p, AV.int IntKind.u32 (↑(pt b (↑j : Int) (1 : Int)).toNat : Int)], H.mk [[I p, AV.int IntKind.u32 (↑b.toNat : Int)]] [] []) ∧ aCall (Sof [c85.to, c77.to, c75.to, (C70 n ih).to]) (AV.fn (Fn.func (70 : Nat)) [] []) [AV.agg [I p, AV.int IntKind.u32 (↑(pt b (↑j : Int) (1 : Int)).toNat : Int)]] (H.mk [[I p, AV.int IntKind.u32 (↑b.toNat : Int)]] [] []) = some (I (quV p (pt b (↑j : Int) (1 : Int))), H.mk [[I p, AV.int IntKind.u32 (↑b.toNat : Int)]] [] []) ∧ IntKind.i64.wrap ((1 : Int) + pick2 true (quV p (pt b (↑j : Int) (0 : Int))) (quV p (pt b (↑j : Int) (1 : Int)))) = (1 : Int) + pick2 true (quV p (pt b (↑j : Int) (0 : Int))) (quV p (pt b (↑j : Int) (1 : Int))) ∧ IntKind.i64.wrap ((↑j : Int) + (1 : Int)) = (↑j : Int) + (1 : Int) ∧ (32 : Nat) = (32 : Nat) ∧ j < p.toNat ∧ Keep (H.mk [[I p, AV.int IntKind.u32 (↑b.toNat : Int)]] [] [] = H.mk [[I p, AV.int IntKind.u32 (↑b.toNat : Int)]] [] [] ∧ [AV.ptr 0 0, I (pick2 false (quL (quV p) b p j) ((1 : Int) + pick2 true (quV p (pt b (↑j : Int) (0 : Int))) (quV p (pt b (↑j : Int) (1 : Int))))), I p, I ((↑j : Int) + (1 : Int))] = [AV.ptr 0 0, I (quL (quV p) b p (j + (1 : Nat))), I p, I (↑(j + (1 : Nat)) : Int)] ∧ (↑(j + (1 : Nat)) : Int) ≤ p)) (by kernel_rfl) ?_⟩
      refine ⟨by first | assumption | omega | (simp only [small, tiny, rng, decide_eq_true_eq, decide_eq_false_iff_not, true_or, or_true, true_and, and_true, Int.reduceEq, Int.reduceNeg, eq_self, reduceIte, if_true, if_false] at *; omega) | (simp [small, tiny, rng, decide_eq_true_eq, decide_eq_false_iff_not, true_or, or_true, true_and, and_true, Int.reduceEq, Int.reduceNeg, eq_self, reduceIte, if_true, if_false] at *; done), ?_⟩
      refine ⟨acall_b (acall_hit (c := c77.to) (p, b, (j : Int)) _ rfl hx) hd, ?_⟩
      refine ⟨by first | exact acall_hit (c := c75.to) (p, b, (j : Int), 0) _ rfl z0 | exact acall_hit (c := c75.to) (p, b, (j : Int), 1) _ rfl z1, ?_⟩
      refine ⟨by first | exact acall_hit (c := (C70 n ih).to) (p, pt b (j : Int) 0) _ rfl d0 | exact acall_hit (c := (C70 n ih).to) (p, pt b (j : Int) 1) _ rfl d1, ?_⟩
      refine ⟨by first | exact acall_hit (c := c75.to) (p, b, (j : Int), 0) _ rfl z0 | exact acall_hit (c := c75.to) (p, b, (j : Int), 1) _ rfl z1, ?_⟩
      refine ⟨by first | exact acall_hit (c := (C70 n ih).to) (p, pt b (j : Int) 0) _ rfl d0 | exact acall_hit (c := (C70 n ih).to) (p, pt b (j : Int) 1) _ rfl d1, ?_⟩
      refine ⟨by first | exact wr _ (by omega) (by omega) | (refine wr _ ?_ ?_ <;> (simp only [small, tiny, rng, decide_eq_true_eq, decide_eq_false_iff_not, true_or, or_true, true_and, and_true, Int.reduceEq, Int.reduceNeg, eq_self, reduceIte, if_true, if_false] at *; omega)), ?_⟩
      refine ⟨by first | exact wr _ (by omega) (by omega) | (refine wr _ ?_ ?_ <;> (simp only [small, tiny, rng, decide_eq_true_eq, decide_eq_false_iff_not, true_or, or_true, true_and, and_true, Int.reduceEq, Int.reduceNeg, eq_self, reduceIte, if_true, if_false] at *; omega)), ?_⟩
      refine ⟨by first | assumption | omega | (simp only [small, tiny, rng, decide_eq_true_eq, decide_eq_false_iff_not, true_or, or_true, true_and, and_true, Int.reduceEq, Int.reduceNeg, eq_self, reduceIte, if_true, if_false] at *; omega) | (simp [small, tiny, rng, decide_eq_true_eq, decide_eq_false_iff_not, true_or, or_true, true_and, and_true, Int.reduceEq, Int.reduceNeg, eq_self, reduceIte, if_true, if_false] at *; done), ?_⟩
      refine ⟨by first | assumption | omega | (simp only [small, tiny, rng, decide_eq_true_eq, decide_eq_false_iff_not, true_or, or_true, true_and, and_true, Int.reduceEq, Int.reduceNeg, eq_self, reduceIte, if_true, if_false] at *; omega) | (simp [small, tiny, rng, decide_eq_true_eq, decide_eq_false_iff_not, true_or, or_true, true_and, and_true, Int.reduceEq, Int.reduceNeg, eq_self, reduceIte, if_true, if_false] at *; done), ?_⟩
      exact ⟨rfl, by rw [e]; rfl, hle2⟩
  · have hz : p ≤ (j : Int) := by omega
    have e : j = p.toNat := by omega
    subst e
    refine ⟨[Ans.o (Orc.b false)], fun u => of_eq (p ≤ (↑p.toNat : Int) ∧ (32 : Nat) = (32 : Nat) ∧ hits [Out.mk Unit (AX.exit (0 : Nat)) [(3 : Nat)] (fun x => True) (fun x => [I (quL (quV p) b p p.toNat)]) (fun x => b58 p b) fun x => []] (AX.exit (0 : Nat)) [u (0 : Nat), AV.ptr 0 0, u (2 : Nat), I (quL (quV p) b p p.toNat), u (4 : Nat), u (5 : Nat), u (6 : Nat), u (7 : Nat), u (8 : Nat), u (9 : Nat), u (10 : Nat), I p, I (↑p.toNat : Int), AV.bool false, u (14 : Nat), u (15 : Nat), u (16 : Nat), u (17 : Nat), u (18 : Nat), u (19 : Nat), u (20 : Nat), u (21 : Nat), u (22 : Nat), u (23 : Nat), u (24 : Nat), u (25 : Nat), u (26 : Nat), u (27 : Nat), u (28 : Nat), u (29 : Nat), u (30 : Nat), u (31 : Nat)] (H.mk [[I p, AV.int IntKind.u32 (↑b.toNat : Int)]] [] [])) (by kernel_rfl) ?_⟩
    refine ⟨by first | assumption | omega | (simp only [small, tiny, rng, decide_eq_true_eq, decide_eq_false_iff_not, true_or, or_true, true_and, and_true, Int.reduceEq, Int.reduceNeg, eq_self, reduceIte, if_true, if_false] at *; omega) | (simp [small, tiny, rng, decide_eq_true_eq, decide_eq_false_iff_not, true_or, or_true, true_and, and_true, Int.reduceEq, Int.reduceNeg, eq_self, reduceIte, if_true, if_false] at *; done), ?_⟩
    refine ⟨by first | assumption | omega | (simp only [small, tiny, rng, decide_eq_true_eq, decide_eq_false_iff_not, true_or, or_true, true_and, and_true, Int.reduceEq, Int.reduceNeg, eq_self, reduceIte, if_true, if_false] at *; omega) | (simp [small, tiny, rng, decide_eq_true_eq, decide_eq_false_iff_not, true_or, or_true, true_and, and_true, Int.reduceEq, Int.reduceNeg, eq_self, reduceIte, if_true, if_false] at *; done), ?_⟩
    exact .inl ⟨(), trivial, rfl, rfl, rfl⟩
theorem r70 (n : Nat) (ih : C70ok n) (p : Int) (b : BitVec 32) (hp : p5 p ∧ pc b < n + 1) : Body (En4 [c85.to, c77.to, c75.to, (C70 n ih).to]) none1 Tryd.f70 [cA p b] .nil (I (quV p b), .nil) := by
  by_cases h1 : (pc b : Int) = 1
  · rw [quV_one (by omega)]
    refine body_s ([Ans.o (Orc.val 6 (I (↑(pc b) : Int)) (H.mk [[I p, AV.int IntKind.u32 (↑b.toNat : Int)]] [] [])), Ans.o (Orc.b true)]) (aCall (Sof [c85.to, c77.to, c75.to, (C70 n ih).to]) (AV.fn (Fn.func (85 : Nat)) [] []) [AV.agg [I p, AV.int IntKind.u32 (↑b.toNat : Int)]] (H.mk [[I p, AV.int IntKind.u32 (↑b.toNat : Int)]] [] []) = some (I (↑(pc b) : Int), H.mk [[I p, AV.int IntKind.u32 (↑b.toNat : Int)]] [] []) ∧ (↑(pc b) : Int) = (1 : Int) ∧ (I 0, H.mk [] [] []) = (I 0, H.mk [] [] [])) (by kernel_rfl) ?_
    refine ⟨acall_hit (c := c85.to) (p, b) _ rfl trivial, ?_⟩
    refine ⟨by first | assumption | omega | (simp only [small, tiny, rng, decide_eq_true_eq, decide_eq_false_iff_not, true_or, or_true, true_and, and_true, Int.reduceEq, Int.reduceNeg, eq_self, reduceIte, if_true, if_false] at *; omega) | (simp [small, tiny, rng, decide_eq_true_eq, decide_eq_false_iff_not, true_or, or_true, true_and, and_true, Int.reduceEq, Int.reduceNeg, eq_self, reduceIte, if_true, if_false] at *; done), ?_⟩
    first | with_reducible rfl | (refine bleaf_t ?_; first | omega | (simp only [small, tiny, rng, decide_eq_true_eq, decide_eq_false_iff_not, true_or, or_true, true_and, and_true, Int.reduceEq, Int.reduceNeg, eq_self, reduceIte, if_true, if_false] at *; omega)) | (refine bleaf_f ?_; first | omega | (simp only [small, tiny, rng, decide_eq_true_eq, decide_eq_false_iff_not, true_or, or_true, true_and, and_true, Int.reduceEq, Int.reduceNeg, eq_self, reduceIte, if_true, if_false] at *; omega)) | (refine ileaf ?_; first | omega | (simp only [small, tiny, rng, decide_eq_true_eq, decide_eq_false_iff_not, true_or, or_true, true_and, and_true, Int.reduceEq, Int.reduceNeg, eq_self, reduceIte, if_true, if_false] at *; omega)) | (exfalso; omega) | (simp only [Prod.mk.injEq, AV.agg.injEq, AV.tup.injEq, List.cons.injEq, AV.int.injEq, AV.bool.injEq, and_true, true_and]; (repeat' apply And.intro) <;> first | with_reducible rfl | (simp []; done) | (simp []; omega) | omega | (simp only [small, tiny, rng, decide_eq_true_eq, decide_eq_false_iff_not, true_or, or_true, true_and, and_true, Int.reduceEq, Int.reduceNeg, eq_self, reduceIte, if_true, if_false] at *; omega) | (simp [small, tiny, rng, decide_eq_true_eq, decide_eq_false_iff_not, true_or, or_true, true_and, and_true, Int.reduceEq, Int.reduceNeg, eq_self, reduceIte, if_true, if_false, *]; done) | (simp [small, tiny, rng, decide_eq_true_eq, decide_eq_false_iff_not, true_or, or_true, true_and, and_true, Int.reduceEq, Int.reduceNeg, eq_self, reduceIte, if_true, if_false, *]; omega)) | (exfalso; simp only [small, tiny, rng, decide_eq_true_eq, decide_eq_false_iff_not, true_or, or_true, true_and, and_true, Int.reduceEq, Int.reduceNeg, eq_self, reduceIte, if_true, if_false] at *; omega) | (simp [small, tiny, rng, decide_eq_true_eq, decide_eq_false_iff_not, true_or, or_true, true_and, and_true, Int.reduceEq, Int.reduceNeg, eq_self, reduceIte, if_true, if_false] at *; done) | (simp [small, tiny, rng, decide_eq_true_eq, decide_eq_false_iff_not, true_or, or_true, true_and, and_true, Int.reduceEq, Int.reduceNeg, eq_self, reduceIte, if_true, if_false] at *; omega)
  · rw [quV_eq (by omega)]
    have h1 : (pc b : Int) ≠ 1 := h1
    refine body_s ([Ans.o (Orc.val 6 (I (↑(pc b) : Int)) (H.mk [[I p, AV.int IntKind.u32 (↑b.toNat : Int)]] [] [])), Ans.o (Orc.b false), Ans.loop [(1 : Nat), (3 : Nat), (11 : Nat), (12 : Nat)] [Out.mk Unit (AX.exit (0 : Nat)) [(3 : Nat)] (fun x => True) (fun x => [I (quL (quV p) b p p.toNat)]) (fun x => b58 p b) fun y => []]]) (aCall (Sof [c85.to, c77.to, c75.to, (C70 n ih).to]) (AV.fn (Fn.func (85 : Nat)) [] []) [AV.agg [I p, AV.int IntKind.u32 (↑b.toNat : Int)]] (H.mk [[I p, AV.int IntKind.u32 (↑b.toNat : Int)]] [] []) = some (I (↑(pc b) : Int), H.mk [[I p, AV.int IntKind.u32 (↑b.toNat : Int)]] [] []) ∧ (↑(pc b) : Int) ≠ (1 : Int) ∧ LoopS (Env.mk Tryd.prog (Sof [c85.to, c77.to, c75.to, (C70 n ih).to]) (Pof (P := Tryd.prog) []) H.nil.base (300 : Nat)) (loopAt Tryd.f70 (0 : Nat)) (32 : Nat) [(1 : Nat), (3 : Nat), (11 : Nat), (12 : Nat)] [AV.ptr 0 0, I p, I p, I 0] (H.mk [[I p, AV.int IntKind.u32 (↑b.toNat : Int)]] [] []) [Out.mk Unit (AX.exit (0 : Nat)) [(3 : Nat)] (fun x => True) (fun x => [I (quL (quV p) b p p.toNat)]) (fun x => b58 p b) fun y => []] ∧ (∀ (y : Unit), True → ∀ (u : Nat → AV), (I (quL (quV p) b p p.toNat), H.mk [] [] []) = (I (quL (quV p) b p p.toNat), H.mk [] [] [])) ∧ True) (by kernel_rfl) ?_
    refine ⟨acall_hit (c := c85.to) (p, b) _ rfl trivial, ?_⟩
    refine ⟨by first | assumption | omega | (simp only [small, tiny, rng, decide_eq_true_eq, decide_eq_false_iff_not, true_or, or_true, true_and, and_true, Int.reduceEq, Int.reduceNeg, eq_self, reduceIte, if_true, if_false] at *; omega) | (simp [small, tiny, rng, decide_eq_true_eq, decide_eq_false_iff_not, true_or, or_true, true_and, and_true, Int.reduceEq, Int.reduceNeg, eq_self, reduceIte, if_true, if_false] at *; done), ?_⟩
    refine ⟨lp70 n ih p b hp.1 hp.2, ?_⟩
    refine And.intro ?_ ?_
    · skip
      intro y
      intro w1
      intro u
      first | with_reducible rfl | (refine bleaf_t ?_; first | omega | (simp only [small, tiny, rng, decide_eq_true_eq, decide_eq_false_iff_not, true_or, or_true, true_and, and_true, Int.reduceEq, Int.reduceNeg, eq_self, reduceIte, if_true, if_false] at *; omega)) | (refine bleaf_f ?_; first | omega | (simp only [small, tiny, rng, decide_eq_true_eq, decide_eq_false_iff_not, true_or, or_true, true_and, and_true, Int.reduceEq, Int.reduceNeg, eq_self, reduceIte, if_true, if_false] at *; omega)) | (refine ileaf ?_; first | omega | (simp only [small, tiny, rng, decide_eq_true_eq, decide_eq_false_iff_not, true_or, or_true, true_and, and_true, Int.reduceEq, Int.reduceNeg, eq_self, reduceIte, if_true, if_false] at *; omega)) | (exfalso; omega) | (simp only [Prod.mk.injEq, AV.agg.injEq, AV.tup.injEq, List.cons.injEq, AV.int.injEq, AV.bool.injEq, and_true, true_and]; (repeat' apply And.intro) <;> first | with_reducible rfl | (simp []; done) | (simp []; omega) | omega | (simp only [small, tiny, rng, decide_eq_true_eq, decide_eq_false_iff_not, true_or, or_true, true_and, and_true, Int.reduceEq, Int.reduceNeg, eq_self, reduceIte, if_true, if_false] at *; omega) | (simp [small, tiny, rng, decide_eq_true_eq, decide_eq_false_iff_not, true_or, or_true, true_and, and_true, Int.reduceEq, Int.reduceNeg, eq_self, reduceIte, if_true, if_false, *]; done) | (simp [small, tiny, rng, decide_eq_true_eq, decide_eq_false_iff_not, true_or, or_true, true_and, and_true, Int.reduceEq, Int.reduceNeg, eq_self, reduceIte, if_true, if_false, *]; omega)) | (exfalso; simp only [small, tiny, rng, decide_eq_true_eq, decide_eq_false_iff_not, true_or, or_true, true_and, and_true, Int.reduceEq, Int.reduceNeg, eq_self, reduceIte, if_true, if_false] at *; omega) | (simp [small, tiny, rng, decide_eq_true_eq, decide_eq_false_iff_not, true_or, or_true, true_and, and_true, Int.reduceEq, Int.reduceNeg, eq_self, reduceIte, if_true, if_false] at *; done) | (simp [small, tiny, rng, decide_eq_true_eq, decide_eq_false_iff_not, true_or, or_true, true_and, and_true, Int.reduceEq, Int.reduceNeg, eq_self, reduceIte, if_true, if_false] at *; omega)
    · skip
      trivial
theorem C70_all : ∀ n, C70ok n
  | 0 => fun _ _ hp => absurd hp.2 (Nat.not_lt_zero _)
  | n + 1 => fun p b hp => (r70 n (C70_all n) p b hp).run ok70 (.pure _ (.pure _ (.pure _ (.pure _ .nil)))) rfl
noncomputable def c70 : PCtr Tryd.prog where
  f := 70
  X := Int × BitVec 32
  args q := [cA q.1 q.2]
  pre q := p5 q.1
  v q := I (quV q.1 q.2)
  det := by
    rintro ⟨p, b⟩ ⟨p', b'⟩ e _ _
    simp at e
    simp [e]
  ok := by
    rintro ⟨p, b⟩ h
    exact (C70 33 (C70_all 33)).ok (p, b) ⟨h, by have := pc_le b; show pc b < 33; omega⟩
theorem ok43g : FokM Tryd.prog none1 43 Tryd.f43 := ⟨mixed, by kernel_rfl, by kernel_rfl, by kernel_rfl, by kernel_rfl⟩
theorem r43g (p : Int) (l : List Int) (r : Room) (hp : cls p l ∧ rok l r) : Body ⟨Tryd.prog, Sof (P := Tryd.prog) [c52g.to, c70.to], Pof (P := Tryd.prog) [], H.nil.base, 300⟩ none1 Tryd.f43 [I p, ls l r] .nil (.tup [I (quV p (sOf l)), I 0], .nil) := by
  have q := hp.1.1
  refine body_s ([Ans.o (Orc.val 11 (AV.tup [AV.agg [I p, AV.int IntKind.u32 (↑(sOf l).toNat : Int)], AV.bool true]) (H.mk [] [] [])), Ans.o (Orc.val 17 (I (quV p (sOf l))) (H.mk [[I p, AV.int IntKind.u32 (↑(sOf l).toNat : Int)]] [] []))]) (aCall (Sof [c52g.to, c70.to]) (AV.fn (Fn.func (52 : Nat)) [] []) [I p, AV.sl (ints l) l.length r] (H.mk [] [] []) = some (AV.tup [AV.agg [I p, AV.int IntKind.u32 (↑(sOf l).toNat : Int)], AV.bool true], H.mk [] [] []) ∧ aCall (Sof [c52g.to, c70.to]) (AV.fn (Fn.func (70 : Nat)) [] []) [AV.agg [I p, AV.int IntKind.u32 (↑(sOf l).toNat : Int)]] (H.mk [[I p, AV.int IntKind.u32 (↑(sOf l).toNat : Int)]] [] []) = some (I (quV p (sOf l)), H.mk [[I p, AV.int IntKind.u32 (↑(sOf l).toNat : Int)]] [] []) ∧ (AV.tup [I (quV p (sOf l)), I 0], H.mk [] [] []) = (AV.tup [I (quV p (sOf l)), I 0], H.mk [] [] [])) (by kernel_rfl) ?_
  refine ⟨acall_hit (c := c52g.to) (p, l, r) _ rfl hp, ?_⟩
  refine ⟨acall_hit (c := c70.to) (p, sOf l) _ rfl q, ?_⟩
  first | with_reducible rfl | (refine bleaf_t ?_; first | omega | (simp only [small, tiny, rng, decide_eq_true_eq, decide_eq_false_iff_not, true_or, or_true, true_and, and_true, Int.reduceEq, Int.reduceNeg, eq_self, reduceIte, if_true, if_false] at *; omega)) | (refine bleaf_f ?_; first | omega | (simp only [small, tiny, rng, decide_eq_true_eq, decide_eq_false_iff_not, true_or, or_true, true_and, and_true, Int.reduceEq, Int.reduceNeg, eq_self, reduceIte, if_true, if_false] at *; omega)) | (refine ileaf ?_; first | omega | (simp only [small, tiny, rng, decide_eq_true_eq, decide_eq_false_iff_not, true_or, or_true, true_and, and_true, Int.reduceEq, Int.reduceNeg, eq_self, reduceIte, if_true, if_false] at *; omega)) | (exfalso; omega) | (simp only [Prod.mk.injEq, AV.agg.injEq, AV.tup.injEq, List.cons.injEq, AV.int.injEq, AV.bool.injEq, and_true, true_and]; (repeat' apply And.intro) <;> first | with_reducible rfl | (simp []; done) | (simp []; omega) | omega | (simp only [small, tiny, rng, decide_eq_true_eq, decide_eq_false_iff_not, true_or, or_true, true_and, and_true, Int.reduceEq, Int.reduceNeg, eq_self, reduceIte, if_true, if_false] at *; omega) | (simp [small, tiny, rng, decide_eq_true_eq, decide_eq_false_iff_not, true_or, or_true, true_and, and_true, Int.reduceEq, Int.reduceNeg, eq_self, reduceIte, if_true, if_false, *]; done) | (simp [small, tiny, rng, decide_eq_true_eq, decide_eq_false_iff_not, true_or, or_true, true_and, and_true, Int.reduceEq, Int.reduceNeg, eq_self, reduceIte, if_true, if_false, *]; omega)) | (exfalso; simp only [small, tiny, rng, decide_eq_true_eq, decide_eq_false_iff_not, true_or, or_true, true_and, and_true, Int.reduceEq, Int.reduceNeg, eq_self, reduceIte, if_true, if_false] at *; omega) | (simp [small, tiny, rng, decide_eq_true_eq, decide_eq_false_iff_not, true_or, or_true, true_and, and_true, Int.reduceEq, Int.reduceNeg, eq_self, reduceIte, if_true, if_false] at *; done) | (simp [small, tiny, rng, decide_eq_true_eq, decide_eq_false_iff_not, true_or, or_true, true_and, and_true, Int.reduceEq, Int.reduceNeg, eq_self, reduceIte, if_true, if_false] at *; omega)
noncomputable def c43g : PCtr Tryd.prog := sctr ok43g (X := Int × List Int × Room) (fun x => [I x.1, ls x.2.1 x.2.2]) (fun x => cls x.1 x.2.1 ∧ rok x.2.1 x.2.2) (fun x => .tup [I (quV x.1 (sOf x.2.1)), I 0]) (by intro x y e _ _; simp at e; simp [e]) (fun x => by simp [AV.bnds, AV.bnd, AV.wk, rm_wk_bnd]) (fun x => by first | rfl | (simp [AV.bnd, rm_wk_bnd]; done)  | (simp [AV.bnd, AV.bnds, rm_wk_bnd]; done) | simp [AV.bnd, AV.bnds, Room.bnd, rm_wk_bnd]) (fun x hx => ⟨_, _, _, .pure c52g (.pure c70 (.nil)), r43g (x.1) (x.2.1) (x.2.2).wk (by first | exact hx | (simp only [rok_wk]; exact hx) | (simp only [rok_wk, lst_wk]; exact hx) | (simp only [rok_wk, lst_wk, lsn_wk]; exact hx))⟩)
theorem ok43b : FokM Tryd.prog none1 43 Tryd.f43 := ⟨mixed, by kernel_rfl, by kernel_rfl, by kernel_rfl, by kernel_rfl⟩
theorem r43b (p : Int) (l : List Int) (r : Room) (hp : (lim l.length ∧ rok l r) ∧ ¬ cls p l) : Body ⟨Tryd.prog, Sof (P := Tryd.prog) [c52b.to], Pof (P := Tryd.prog) [], H.nil.base, 300⟩ none1 Tryd.f43 [I p, ls l r] .nil (.tup [I 0, I 2], .nil) := by
  refine body_s ([Ans.o (Orc.val 11 (AV.tup [AV.agg [I 0, AV.int IntKind.u32 (0 : Int)], AV.bool false]) (H.mk [] [] []))]) (aCall (Sof [c52b.to]) (AV.fn (Fn.func (52 : Nat)) [] []) [I p, AV.sl (ints l) l.length r] (H.mk [] [] []) = some (AV.tup [AV.agg [I 0, AV.int IntKind.u32 (0 : Int)], AV.bool false], H.mk [] [] []) ∧ (AV.tup [I 0, I 2], H.mk [] [] []) = (AV.tup [I 0, I 2], H.mk [] [] [])) (by kernel_rfl) ?_
  refine ⟨acall_hit (c := c52b.to) (p, l, r) _ rfl hp, ?_⟩
  first | with_reducible rfl | (refine bleaf_t ?_; first | omega | (simp only [small, tiny, rng, decide_eq_true_eq, decide_eq_false_iff_not, true_or, or_true, true_and, and_true, Int.reduceEq, Int.reduceNeg, eq_self, reduceIte, if_true, if_false] at *; omega)) | (refine bleaf_f ?_; first | omega | (simp only [small, tiny, rng, decide_eq_true_eq, decide_eq_false_iff_not, true_or, or_true, true_and, and_true, Int.reduceEq, Int.reduceNeg, eq_self, reduceIte, if_true, if_false] at *; omega)) | (refine ileaf ?_; first | omega | (simp only [small, tiny, rng, decide_eq_true_eq, decide_eq_false_iff_not, true_or, or_true, true_and, and_true, Int.reduceEq, Int.reduceNeg, eq_self, reduceIte, if_true, if_false] at *; omega)) | (exfalso; omega) | (simp only [Prod.mk.injEq, AV.agg.injEq, AV.tup.injEq, List.cons.injEq, AV.int.injEq, AV.bool.injEq, and_true, true_and]; (repeat' apply And.intro) <;> first | with_reducible rfl | (simp []; done) | (simp []; omega) | omega | (simp only [small, tiny, rng, decide_eq_true_eq, decide_eq_false_iff_not, true_or, or_true, true_and, and_true, Int.reduceEq, Int.reduceNeg, eq_self, reduceIte, if_true, if_false] at *; omega) | (simp [small, tiny, rng, decide_eq_true_eq, decide_eq_false_iff_not, true_or, or_true, true_and, and_true, Int.reduceEq, Int.reduceNeg, eq_self, reduceIte, if_true, if_false, *]; done) | (simp [small, tiny, rng, decide_eq_true_eq, decide_eq_false_iff_not, true_or, or_true, true_and, and_true, Int.reduceEq, Int.reduceNeg, eq_self, reduceIte, if_true, if_false, *]; omega)) | (exfalso; simp only [small, tiny, rng, decide_eq_true_eq, decide_eq_false_iff_not, true_or, or_true, true_and, and_true, Int.reduceEq, Int.reduceNeg, eq_self, reduceIte, if_true, if_false] at *; omega) | (simp [small, tiny, rng, decide_eq_true_eq, decide_eq_false_iff_not, true_or, or_true, true_and, and_true, Int.reduceEq, Int.reduceNeg, eq_self, reduceIte, if_true, if_false] at *; done) | (simp [small, tiny, rng, decide_eq_true_eq, decide_eq_false_iff_not, true_or, or_true, true_and, and_true, Int.reduceEq, Int.reduceNeg, eq_self, reduceIte, if_true, if_false] at *; omega)
noncomputable def c43b : PCtr Tryd.prog := sctr ok43b (X := Int × List Int × Room) (fun x => [I x.1, ls x.2.1 x.2.2]) (fun x => (lim x.2.1.length ∧ rok x.2.1 x.2.2) ∧ ¬ cls x.1 x.2.1) (fun x => .tup [I 0, I 2]) (by intro x y e _ _; simp at e; simp [e]) (fun x => by simp [AV.bnds, AV.bnd, AV.wk, rm_wk_bnd]) (fun x => by first | rfl | (simp [AV.bnd, rm_wk_bnd]; done)  | (simp [AV.bnd, AV.bnds, rm_wk_bnd]; done) | simp [AV.bnd, AV.bnds, Room.bnd, rm_wk_bnd]) (fun x hx => ⟨_, _, _, .pure c52b (.nil), r43b (x.1) (x.2.1) (x.2.2).wk (by first | exact hx | (simp only [rok_wk]; exact hx) | (simp only [rok_wk, lst_wk]; exact hx) | (simp only [rok_wk, lst_wk, lsn_wk]; exact hx))⟩)
end Go.Proofs.Lrn

