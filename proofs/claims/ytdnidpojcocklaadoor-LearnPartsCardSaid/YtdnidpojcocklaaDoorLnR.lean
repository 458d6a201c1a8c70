/- Layer 4: the reference's dimension. -/
import Derived.Test.YtdnidpojcocklaaDoorLnQ
import Derived.Test.YtdnidpojcocklaaDoorLnI
import Derived.KernelRfl
set_option linter.unusedSimpArgs false
set_option linter.unusedVariables false
set_option linter.unnecessarySimpa false
set_option maxHeartbeats 4000000
set_option maxRecDepth 100000
namespace Go.Proofs.Lrn
open Go Go.VM

theorem spl_mem {l : List Int} {x y c : Int} : c ∈ spl l x y ↔ c ∈ l ∧ cbit c x = y := by simp [spl]
theorem spl_in {l : List Int} {x y : Int} (h : inL l) : inL (spl l x y) := fun c hc => h c (spl_mem.1 hc).1
/-- a part of a class, as a set -/
theorem sOf_spl {l : List Int} (h : inL l) {x y : Int} (hx : is5 x) (hy : y = 0 ∨ y = 1) : sOf (spl l x y) = pt (sOf l) x y := by
  apply BitVec.eq_of_getLsbD_eq
  intro i hi
  obtain ⟨xn, rfl⟩ : ∃ n : Nat, x = n := ⟨x.toNat, by obtain ⟨_, _⟩ := hx; omega⟩
  rw [sOf_bit (spl_in h) hi, pt_bit (by obtain ⟨_, _⟩ := hx; omega) hi hy, sOf_bit h hi]
  have : cbit (i : Int) (xn : Int) = ((i / 2 ^ xn % 2 : Nat) : Int) := rfl
  rw [Bool.eq_iff_iff, Bool.and_eq_true, decide_eq_true_eq, decide_eq_true_eq, decide_eq_true_eq, spl_mem, this]
theorem sOf_nil {l : List Int} (h : inL l) : sOf l = 0#32 ↔ l = [] := by
  constructor
  · intro e
    cases l with
    | nil => rfl
    | cons c t =>
      obtain ⟨h0, h1⟩ := h c (by simp)
      have := sOf_bit h (i := c.toNat) (by omega)
      rw [e] at this
      have hc : ((c.toNat : Nat) : Int) = c := by omega
      rw [hc] at this
      simp at this
  · rintro rfl; rfl
theorem dfb_iff {b : BitVec 32} {x : Int} : dfb b x = true ↔ pt b x 0 ≠ 0#32 ∧ pt b x 1 ≠ 0#32 := by
  have e0 : pt b x 0 = b &&& ~~~ hv x := rfl
  have e1 : pt b x 1 = b &&& hv x := rfl
  rw [e0, e1]
  simp only [dfb, Bool.and_eq_true, bne_iff_ne, ne_eq]
  constructor
  · rintro ⟨h1, h2⟩
    refine ⟨fun h => h2 ?_, h1⟩
    apply BitVec.eq_of_getLsbD_eq
    intro i hi
    have := congrArg (fun z => z.getLsbD i) h
    simp only [BitVec.getLsbD_and, BitVec.getLsbD_not] at this ⊢
    simp [hi] at this ⊢
    exact this
  · rintro ⟨h1, h2⟩
    refine ⟨h2, fun h => h1 ?_⟩
    apply BitVec.eq_of_getLsbD_eq
    intro i hi
    have := congrArg (fun z => z.getLsbD i) h
    simp only [BitVec.getLsbD_and, BitVec.getLsbD_not] at this ⊢
    simp [hi] at this ⊢
    exact this
/-- both parts are there just where the set differs -/
theorem dfb_len {l : List Int} (h : inL l) {x : Int} (hx : is5 x) : dfb (sOf l) x = true ↔ (0 : Int) < (spl l x 0).length ∧ (0 : Int) < (spl l x 1).length := by
  rw [dfb_iff, ← sOf_spl h hx (.inl rfl), ← sOf_spl h hx (.inr rfl)]
  have a0 := sOf_nil (spl_in (x := x) (y := 0) h)
  have a1 := sOf_nil (spl_in (x := x) (y := 1) h)
  have l0 := List.length_eq_zero_iff (l := spl l x 0)
  have l1 := List.length_eq_zero_iff (l := spl l x 1)
  constructor
  · rintro ⟨h1, h2⟩
    have : ¬ (spl l x 0).length = 0 := fun e => h1 (a0.2 (l0.1 e))
    have : ¬ (spl l x 1).length = 0 := fun e => h2 (a1.2 (l1.1 e))
    omega
  · rintro ⟨h1, h2⟩
    exact ⟨fun e => by have := l0.2 (a0.1 e); omega, fun e => by have := l1.2 (a1.1 e); omega⟩
abbrev lst (l : List Int) (r : Room) : Prop := (l.length ≤ 1000 ∧ rok l r) ∧ inL l
@[simp] theorem lst_wk {l : List Int} {r : Room} : lst l r.wk ↔ lst l r := by simp only [lst, rok_wk]
theorem spl_lst {l : List Int} {r : Room} (h : lst l r) (x y : Int) : lst (spl l x y) (rn (spl l x y)) := ⟨⟨by have := spl_le l x y; have := h.1.1; omega, rn_rok _⟩, spl_in h.2⟩
abbrev C28ok (n : Nat) : Prop := ∀ p l r, p5 p ∧ lst l r ∧ pc (sOf l) ≤ n → CallOk Tryd.prog 28 [I p, ls l r] .nil (I (dimV p (sOf l))) .nil
theorem ok28 : FokM Tryd.prog none1 28 Tryd.f28 := ⟨mixed, by kernel_rfl, by kernel_rfl, by kernel_rfl, by kernel_rfl⟩
noncomputable def C28 (n : Nat) (ih : C28ok n) : PCtr Tryd.prog where
  f := 28
  X := Int × List Int × Room
  args q := [I q.1, ls q.2.1 q.2.2]
  pre q := p5 q.1 ∧ lst q.2.1 q.2.2 ∧ pc (sOf q.2.1) ≤ n
  v q := I (dimV q.1 (sOf q.2.1))
  det := by
    rintro ⟨p, l, r⟩ ⟨p', l', r'⟩ e _ _
    simp at e
    simp [e]
  ok := by
    rintro ⟨p, l, r⟩ h
    have h' : p5 p ∧ lst l r.wk ∧ pc (sOf l) ≤ n := ⟨h.1, ⟨⟨h.2.1.1.1, by simpa using h.2.1.1.2⟩, h.2.1.2⟩, h.2.2⟩
    exact ⟨ok28.call, fun H => (pure_call (ih p l r.wk h') (by simp [AV.bnds, AV.bnd, rm_wk_bnd]) rfl H).wk⟩
abbrev o28 (p : Int) (b : BitVec 32) : List Out :=
  [.mk Unit (.exit 0) [5] (fun _ => True) (fun _ => [I (dmL (dimV p) b p.toNat)]) (fun _ => .nil) (fun _ => [])]
theorem simp28 : allSimpleM none1 (loopAt Tryd.f28 0) = true := by kernel_rfl
theorem lp28 (n : Nat) (ih : C28ok n) (p : Int) (l : List Int) (r : Room) (h0 : p5 p) (hl : lst l r) (hb : pc (sOf l) ≤ n + 1) :
    LoopS (En4 [c57.to, (C28 n ih).to]) (loopAt Tryd.f28 0) 42 [0, 1, 5, 12, 13] [I p, ls l r, I 0, I p, I 0] .nil (o28 p (sOf l)) := by
  have hR : Rests (En4 [c57.to, (C28 n ih).to]) none1 := rests mixed (.pure _ (.pure _ .nil))
  refine loop_s hR simp28 none (by intro _ h; cases h) (fun j vs h => h = .nil ∧ vs = [I p, ls l r, I (dmL (dimV p) (sOf l) j), I p, I j] ∧ (j : Int) ≤ p) p.toNat ⟨rfl, rfl, by obtain ⟨_, _⟩ := h0; omega⟩ (by intro _ h; cases h) ?_
  have bd : ∀ j, 0 ≤ dmL (dimV p) (sOf l) j ∧ dmL (dimV p) (sOf l) j ≤ 33 := dmL_bd (by omega) (fun c _ => by have := dimV_bd p c; omega)
  have g0 := h0
  obtain ⟨g1, g2⟩ := g0
  rintro j vs h hj ⟨rfl, rfl, hle⟩
  by_cases hz : (j : Int) < p
  · have hx : is5 (j : Int) := ⟨by omega, by omega⟩
    have hle2 : ((j + 1 : Nat) : Int) ≤ p := by omega
    have hq : (l.length ≤ 1000 ∧ rok l r) ∧ inL l ∧ is5 (j : Int) := ⟨hl.1, hl.2, hx⟩
    have hd := dfb_len hl.2 hx
    by_cases h1 : (0 : Int) < (spl l (j : Int) 0).length
    · by_cases h2 : (0 : Int) < (spl l (j : Int) 1).length
      · have hdt := hd.2 ⟨h1, h2⟩
        have e0 := sOf_spl hl.2 hx (y := 0) (.inl rfl)
        have e1 := sOf_spl hl.2 hx (y := 1) (.inr rfl)
        have e : dmL (dimV p) (sOf l) (j + 1) = pick2 true (dmL (dimV p) (sOf l) j) (1 + pick2 false (dimV p (sOf (spl l (j : Int) 0))) (dimV p (sOf (spl l (j : Int) 1)))) := by simp only [dmL, hdt, if_true, e0, e1]
        have q0 : p5 p ∧ lst (spl l (j : Int) 0) (rn (spl l (j : Int) 0)) ∧ pc (sOf (spl l (j : Int) 0)) ≤ n := ⟨h0, spl_lst hl _ _, by rw [e0]; have := pt_lt (y := 0) hdt; omega⟩
        have q1 : p5 p ∧ lst (spl l (j : Int) 1) (rn (spl l (j : Int) 1)) ∧ pc (sOf (spl l (j : Int) 1)) ≤ n := ⟨h0, spl_lst hl _ _, by rw [e1]; have := pt_lt (y := 1) hdt; omega⟩
        have w0 : -1 ≤ pick2 false (dimV p (sOf (spl l (j : Int) 0))) (dimV p (sOf (spl l (j : Int) 1))) ∧ pick2 false (dimV p (sOf (spl l (j : Int) 0))) (dimV p (sOf (spl l (j : Int) 1))) ≤ 32 := by
          have := dimV_bd p (sOf (spl l (j : Int) 0))
          have := dimV_bd p (sOf (spl l (j : Int) 1))
          simp only [pick2, Bool.false_eq_true, if_false]
          split <;> omega
        refine ⟨[Ans.o (Orc.b true), Ans.o (Orc.val (18 : Nat) (AV.sl (ints (spl l (↑j : Int) (0 : Int))) (spl l (↑j : Int) (0 : Int)).length (rn (spl l (↑j : Int) (0 : Int)))) (H.mk [] [] [])), Ans.o (Orc.val (21 : Nat) (AV.sl (ints (spl l (↑j : Int) (1 : Int))) (spl l (↑j : Int) (1 : Int)).length (rn (spl l (↑j : Int) (1 : Int)))) (H.mk [] [] [])), Ans.o (Orc.b true), Ans.o (Orc.b true), Ans.o (Orc.val (33 : Nat) (I (dimV p (sOf (spl l (↑j : Int) (0 : Int))))) (H.mk [] [] [])), Ans.o (Orc.val (36 : Nat) (I (dimV p (sOf (spl l (↑j : Int) (1 : Int))))) (H.mk [] [] []))], fun u => of_eq ((↑j : Int) < p ∧ aCall (Sof [c57.to, (C28 n ih).to]) (AV.fn (Fn.func (57 : Nat)) [] []) [AV.sl (ints l) l.length r, I (↑j : Int), I (0 : Int)] (H.mk [] [] []) = some (AV.sl (ints (spl l (↑j : Int) (0 : Int))) (spl l (↑j : Int) (0 : Int)).length (rn (spl l (↑j : Int) (0 : Int))), H.mk [] [] []) ∧ aCall (Sof [c57.to, (C28 n ih).to]) (AV.fn (Fn.func (57 : Nat)) [] []) [AV.sl (ints l) l.length r, I (↑j : Int), I (1 : Int)] (H.mk [] [] []) = some (AV.sl (ints (spl l (↑j : Int) (1 : Int))) (spl l (↑j : Int) (1 : Int)).length (rn (spl l (↑j : Int) (1 : Int))), H.mk [] [] []) ∧ (0 : Int) < (↑(spl l (↑j : Int) (0 : Int)).length : Int) ∧ (0 : Int) < (↑(spl l (↑j : Int) (1 : Int)).length : Int) ∧ aCall (Sof [c57.to, (C28 n ih).to]) (AV.fn (Fn.func (28 : Nat)) [] []) [I p, AV.sl (ints (spl l (↑j : Int) (0 : Int))) (spl l (↑j : Int) (0 : Int)).length (rn (spl l (↑j : Int) (0 : Int)))] (H.mk [] [] []) = some (I (dimV p (sOf (spl l (↑j : Int) (0 : Int)))), H.mk [] [] []) ∧ aCall (Sof [c57.to, (C28 n ih).to]) (AV.fn (Fn.func (28 : Nat)) [] []) [I p, AV.sl (ints (spl l (↑j : Int) (1 : Int))) (spl l (↑j : Int) (1 : Int)).length (rn (spl l (↑j : Int) (1 : Int)))] (H.mk [] [] []) = some (I (dimV p (sOf (spl l (↑j : Int) (1 : Int)))), H.mk [] [] []) ∧ IntKind.i64.wrap ((1 : Int) + pick2 false (dimV p (sOf (spl l (↑j : Int) (0 : Int)))) (dimV p (sOf (spl l (↑j : Int) (1 : Int))))) = (1 : Int) + pick2 false (dimV p (sOf (spl l (↑j : Int) (0 : Int)))) (dimV p (sOf (spl l (↑j : Int) (1 : Int)))) ∧ IntKind.i64.wrap ((↑j : Int) + (1 : Int)) = (↑j : Int) + (1 : Int) ∧ (42 : Nat) = (42 : Nat) ∧ j < p.toNat ∧ Keep (H.mk [] [] [] = H.mk [] [] [] ∧ [I p, AV.sl (ints l) l.length r, I (pick2 true (dmL (dimV p) (sOf l) j) ((1 : Int) + pick2 false (dimV p (sOf (spl l (↑j : Int) (0 : Int)))) (dimV p (sOf (spl l (↑j : Int) (1 : Int)))))), I p, I ((↑j : Int) + (1 : Int))] = [I p, AV.sl (ints l) l.length r, I (dmL (dimV p) (sOf l) (j + (1 : Nat))), I p, I (↑(j + (1 : Nat)) : Int)] ∧ (↑(j + (1 : Nat)) : Int) ≤ p)) (by kernel_rfl) ?_⟩
        refine And.intro (by first | assumption | omega | (simp only [small, tiny, rng, decide_eq_true_eq, decide_eq_false_iff_not, true_or, or_true, true_and, and_true, Int.reduceEq, Int.reduceNeg, eq_self, reduceIte, if_true, if_false] at *; omega) | (simp [small, tiny, rng, decide_eq_true_eq, decide_eq_false_iff_not, true_or, or_true, true_and, and_true, Int.reduceEq, Int.reduceNeg, eq_self, reduceIte, if_true, if_false] at *; done)) ?_
        refine And.intro (by first | exact acall_hit (c := c57.to) (l, r, (j : Int), 0) _ rfl hq | exact acall_hit (c := c57.to) (l, r, (j : Int), 1) _ rfl hq) ?_
        refine And.intro (by first | exact acall_hit (c := c57.to) (l, r, (j : Int), 0) _ rfl hq | exact acall_hit (c := c57.to) (l, r, (j : Int), 1) _ rfl hq) ?_
        refine And.intro (by first | assumption | omega | (simp only [small, tiny, rng, decide_eq_true_eq, decide_eq_false_iff_not, true_or, or_true, true_and, and_true, Int.reduceEq, Int.reduceNeg, eq_self, reduceIte, if_true, if_false] at *; omega) | (simp [small, tiny, rng, decide_eq_true_eq, decide_eq_false_iff_not, true_or, or_true, true_and, and_true, Int.reduceEq, Int.reduceNeg, eq_self, reduceIte, if_true, if_false] at *; done)) ?_
        refine And.intro (by first | assumption | omega | (simp only [small, tiny, rng, decide_eq_true_eq, decide_eq_false_iff_not, true_or, or_true, true_and, and_true, Int.reduceEq, Int.reduceNeg, eq_self, reduceIte, if_true, if_false] at *; omega) | (simp [small, tiny, rng, decide_eq_true_eq, decide_eq_false_iff_not, true_or, or_true, true_and, and_true, Int.reduceEq, Int.reduceNeg, eq_self, reduceIte, if_true, if_false] at *; done)) ?_
        refine And.intro (by first | exact acall_hit (c := (C28 n ih).to) (p, spl l (j : Int) 0, rn (spl l (j : Int) 0)) _ rfl q0 | exact acall_hit (c := (C28 n ih).to) (p, spl l (j : Int) 1, rn (spl l (j : Int) 1)) _ rfl q1) ?_
        refine And.intro (by first | exact acall_hit (c := (C28 n ih).to) (p, spl l (j : Int) 0, rn (spl l (j : Int) 0)) _ rfl q0 | exact acall_hit (c := (C28 n ih).to) (p, spl l (j : Int) 1, rn (spl l (j : Int) 1)) _ rfl q1) ?_
        refine And.intro (by first | exact wr _ (by omega) (by omega) | (refine wr _ ?_ ?_ <;> (simp only [small, tiny, rng, decide_eq_true_eq, decide_eq_false_iff_not, true_or, or_true, true_and, and_true, Int.reduceEq, Int.reduceNeg, eq_self, reduceIte, if_true, if_false] at *; omega))) ?_
        refine And.intro (by first | exact wr _ (by omega) (by omega) | (refine wr _ ?_ ?_ <;> (simp only [small, tiny, rng, decide_eq_true_eq, decide_eq_false_iff_not, true_or, or_true, true_and, and_true, Int.reduceEq, Int.reduceNeg, eq_self, reduceIte, if_true, if_false] at *; omega))) ?_
        refine And.intro (by first | assumption | omega | (simp only [small, tiny, rng, decide_eq_true_eq, decide_eq_false_iff_not, true_or, or_true, true_and, and_true, Int.reduceEq, Int.reduceNeg, eq_self, reduceIte, if_true, if_false] at *; omega) | (simp [small, tiny, rng, decide_eq_true_eq, decide_eq_false_iff_not, true_or, or_true, true_and, and_true, Int.reduceEq, Int.reduceNeg, eq_self, reduceIte, if_true, if_false] at *; done)) ?_
        refine And.intro (by first | assumption | omega | (simp only [small, tiny, rng, decide_eq_true_eq, decide_eq_false_iff_not, true_or, or_true, true_and, and_true, Int.reduceEq, Int.reduceNeg, eq_self, reduceIte, if_true, if_false] at *; omega) | (simp [small, tiny, rng, decide_eq_true_eq, decide_eq_false_iff_not, true_or, or_true, true_and, and_true, Int.reduceEq, Int.reduceNeg, eq_self, reduceIte, if_true, if_false] at *; done)) ?_
        exact ⟨rfl, by rw [e]; rfl, hle2⟩
      · have hdf : dfb (sOf l) (j : Int) = false := by
          cases hq : dfb (sOf l) (j : Int)
          · rfl
          · exact absurd (hd.1 hq).2 h2
        have e : dmL (dimV p) (sOf l) (j + 1) = dmL (dimV p) (sOf l) j := by simp only [dmL, hdf]; rfl
        have h2 : ((spl l (j : Int) 1).length : Int) ≤ 0 := by omega
        refine ⟨[Ans.o (Orc.b true), Ans.o (Orc.val (18 : Nat) (AV.sl (ints (spl l (↑j : Int) (0 : Int))) (spl l (↑j : Int) (0 : Int)).length (rn (spl l (↑j : Int) (0 : Int)))) (H.mk [] [] [])), Ans.o (Orc.val (21 : Nat) (AV.sl (ints (spl l (↑j : Int) (1 : Int))) (spl l (↑j : Int) (1 : Int)).length (rn (spl l (↑j : Int) (1 : Int)))) (H.mk [] [] [])), Ans.o (Orc.b true), Ans.o (Orc.b false)], fun u => of_eq ((↑j : Int) < p ∧ aCall (Sof [c57.to, (C28 n ih).to]) (AV.fn (Fn.func (57 : Nat)) [] []) [AV.sl (ints l) l.length r, I (↑j : Int), I (0 : Int)] (H.mk [] [] []) = some (AV.sl (ints (spl l (↑j : Int) (0 : Int))) (spl l (↑j : Int) (0 : Int)).length (rn (spl l (↑j : Int) (0 : Int))), H.mk [] [] []) ∧ aCall (Sof [c57.to, (C28 n ih).to]) (AV.fn (Fn.func (57 : Nat)) [] []) [AV.sl (ints l) l.length r, I (↑j : Int), I (1 : Int)] (H.mk [] [] []) = some (AV.sl (ints (spl l (↑j : Int) (1 : Int))) (spl l (↑j : Int) (1 : Int)).length (rn (spl l (↑j : Int) (1 : Int))), H.mk [] [] []) ∧ (0 : Int) < (↑(spl l (↑j : Int) (0 : Int)).length : Int) ∧ (↑(spl l (↑j : Int) (1 : Int)).length : Int) ≤ (0 : Int) ∧ IntKind.i64.wrap ((↑j : Int) + (1 : Int)) = (↑j : Int) + (1 : Int) ∧ (42 : Nat) = (42 : Nat) ∧ j < p.toNat ∧ Keep (H.mk [] [] [] = H.mk [] [] [] ∧ [I p, AV.sl (ints l) l.length r, I (dmL (dimV p) (sOf l) j), I p, I ((↑j : Int) + (1 : Int))] = [I p, AV.sl (ints l) l.length r, I (dmL (dimV p) (sOf l) (j + (1 : Nat))), I p, I (↑(j + (1 : Nat)) : Int)] ∧ (↑(j + (1 : Nat)) : Int) ≤ p)) (by kernel_rfl) ?_⟩
        refine And.intro (by first | assumption | omega | (simp only [small, tiny, rng, decide_eq_true_eq, decide_eq_false_iff_not, true_or, or_true, true_and, and_true, Int.reduceEq, Int.reduceNeg, eq_self, reduceIte, if_true, if_false] at *; omega) | (simp [small, tiny, rng, decide_eq_true_eq, decide_eq_false_iff_not, true_or, or_true, true_and, and_true, Int.reduceEq, Int.reduceNeg, eq_self, reduceIte, if_true, if_false] at *; done)) ?_
        refine And.intro (by first | exact acall_hit (c := c57.to) (l, r, (j : Int), 0) _ rfl hq | exact acall_hit (c := c57.to) (l, r, (j : Int), 1) _ rfl hq) ?_
        refine And.intro (by first | exact acall_hit (c := c57.to) (l, r, (j : Int), 0) _ rfl hq | exact acall_hit (c := c57.to) (l, r, (j : Int), 1) _ rfl hq) ?_
        refine And.intro (by first | assumption | omega | (simp only [small, tiny, rng, decide_eq_true_eq, decide_eq_false_iff_not, true_or, or_true, true_and, and_true, Int.reduceEq, Int.reduceNeg, eq_self, reduceIte, if_true, if_false] at *; omega) | (simp [small, tiny, rng, decide_eq_true_eq, decide_eq_false_iff_not, true_or, or_true, true_and, and_true, Int.reduceEq, Int.reduceNeg, eq_self, reduceIte, if_true, if_false] at *; done)) ?_
        refine And.intro (by first | assumption | omega | (simp only [small, tiny, rng, decide_eq_true_eq, decide_eq_false_iff_not, true_or, or_true, true_and, and_true, Int.reduceEq, Int.reduceNeg, eq_self, reduceIte, if_true, if_false] at *; omega) | (simp [small, tiny, rng, decide_eq_true_eq, decide_eq_false_iff_not, true_or, or_true, true_and, and_true, Int.reduceEq, Int.reduceNeg, eq_self, reduceIte, if_true, if_false] at *; done)) ?_
        refine And.intro (by first | exact wr _ (by omega) (by omega) | (refine wr _ ?_ ?_ <;> (simp only [small, tiny, rng, decide_eq_true_eq, decide_eq_false_iff_not, true_or, or_true, true_and, and_true, Int.reduceEq, Int.reduceNeg, eq_self, reduceIte, if_true, if_false] at *; omega))) ?_
        refine And.intro (by first | assumption | omega | (simp only [small, tiny, rng, decide_eq_true_eq, decide_eq_false_iff_not, true_or, or_true, true_and, and_true, Int.reduceEq, Int.reduceNeg, eq_self, reduceIte, if_true, if_false] at *; omega) | (simp [small, tiny, rng, decide_eq_true_eq, decide_eq_false_iff_not, true_or, or_true, true_and, and_true, Int.reduceEq, Int.reduceNeg, eq_self, reduceIte, if_true, if_false] at *; done)) ?_
        refine And.intro (by first | assumption | omega | (simp only [small, tiny, rng, decide_eq_true_eq, decide_eq_false_iff_not, true_or, or_true, true_and, and_true, Int.reduceEq, Int.reduceNeg, eq_self, reduceIte, if_true, if_false] at *; omega) | (simp [small, tiny, rng, decide_eq_true_eq, decide_eq_false_iff_not, true_or, or_true, true_and, and_true, Int.reduceEq, Int.reduceNeg, eq_self, reduceIte, if_true, if_false] at *; done)) ?_
        exact ⟨rfl, by rw [e]; rfl, hle2⟩
    · have hdf : dfb (sOf l) (j : Int) = false := by
        cases hq : dfb (sOf l) (j : Int)
        · rfl
        · exact absurd (hd.1 hq).1 h1
      have e : dmL (dimV p) (sOf l) (j + 1) = dmL (dimV p) (sOf l) j := by simp only [dmL, hdf]; rfl
      have h1 : ((spl l (j : Int) 0).length : Int) ≤ 0 := by omega
      refine ⟨[Ans.o (Orc.b true), Ans.o (Orc.val (18 : Nat) (AV.sl (ints (spl l (↑j : Int) (0 : Int))) (spl l (↑j : Int) (0 : Int)).length (rn (spl l (↑j : Int) (0 : Int)))) (H.mk [] [] [])), Ans.o (Orc.val (21 : Nat) (AV.sl (ints (spl l (↑j : Int) (1 : Int))) (spl l (↑j : Int) (1 : Int)).length (rn (spl l (↑j : Int) (1 : Int)))) (H.mk [] [] [])), Ans.o (Orc.b false)], fun u => of_eq ((↑j : Int) < p ∧ aCall (Sof [c57.to, (C28 n ih).to]) (AV.fn (Fn.func (57 : Nat)) [] []) [AV.sl (ints l) l.length r, I (↑j : Int), I (0 : Int)] (H.mk [] [] []) = some (AV.sl (ints (spl l (↑j : Int) (0 : Int))) (spl l (↑j : Int) (0 : Int)).length (rn (spl l (↑j : Int) (0 : Int))), H.mk [] [] []) ∧ aCall (Sof [c57.to, (C28 n ih).to]) (AV.fn (Fn.func (57 : Nat)) [] []) [AV.sl (ints l) l.length r, I (↑j : Int), I (1 : Int)] (H.mk [] [] []) = some (AV.sl (ints (spl l (↑j : Int) (1 : Int))) (spl l (↑j : Int) (1 : Int)).length (rn (spl l (↑j : Int) (1 : Int))), H.mk [] [] []) ∧ (↑(spl l (↑j : Int) (0 : Int)).length : Int) ≤ (0 : Int) ∧ IntKind.i64.wrap ((↑j : Int) + (1 : Int)) = (↑j : Int) + (1 : Int) ∧ (42 : Nat) = (42 : Nat) ∧ j < p.toNat ∧ Keep (H.mk [] [] [] = H.mk [] [] [] ∧ [I p, AV.sl (ints l) l.length r, I (dmL (dimV p) (sOf l) j), I p, I ((↑j : Int) + (1 : Int))] = [I p, AV.sl (ints l) l.length r, I (dmL (dimV p) (sOf l) (j + (1 : Nat))), I p, I (↑(j + (1 : Nat)) : Int)] ∧ (↑(j + (1 : Nat)) : Int) ≤ p)) (by kernel_rfl) ?_⟩
      refine And.intro (by first | assumption | omega | (simp only [small, tiny, rng, decide_eq_true_eq, decide_eq_false_iff_not, true_or, or_true, true_and, and_true, Int.reduceEq, Int.reduceNeg, eq_self, reduceIte, if_true, if_false] at *; omega) | (simp [small, tiny, rng, decide_eq_true_eq, decide_eq_false_iff_not, true_or, or_true, true_and, and_true, Int.reduceEq, Int.reduceNeg, eq_self, reduceIte, if_true, if_false] at *; done)) ?_
      refine And.intro (by first | exact acall_hit (c := c57.to) (l, r, (j : Int), 0) _ rfl hq | exact acall_hit (c := c57.to) (l, r, (j : Int), 1) _ rfl hq) ?_
      refine And.intro (by first | exact acall_hit (c := c57.to) (l, r, (j : Int), 0) _ rfl hq | exact acall_hit (c := c57.to) (l, r, (j : Int), 1) _ rfl hq) ?_
      refine And.intro (by first | assumption | omega | (simp only [small, tiny, rng, decide_eq_true_eq, decide_eq_false_iff_not, true_or, or_true, true_and, and_true, Int.reduceEq, Int.reduceNeg, eq_self, reduceIte, if_true, if_false] at *; omega) | (simp [small, tiny, rng, decide_eq_true_eq, decide_eq_false_iff_not, true_or, or_true, true_and, and_true, Int.reduceEq, Int.reduceNeg, eq_self, reduceIte, if_true, if_false] at *; done)) ?_
      refine And.intro (by first | exact wr _ (by omega) (by omega) | (refine wr _ ?_ ?_ <;> (simp only [small, tiny, rng, decide_eq_true_eq, decide_eq_false_iff_not, true_or, or_true, true_and, and_true, Int.reduceEq, Int.reduceNeg, eq_self, reduceIte, if_true, if_false] at *; omega))) ?_
      refine And.intro (by first | assumption | omega | (simp only [small, tiny, rng, decide_eq_true_eq, decide_eq_false_iff_not, true_or, or_true, true_and, and_true, Int.reduceEq, Int.reduceNeg, eq_self, reduceIte, if_true, if_false] at *; omega) | (simp [small, tiny, rng, decide_eq_true_eq, decide_eq_false_iff_not, true_or, or_true, true_and, and_true, Int.reduceEq, Int.reduceNeg, eq_self, reduceIte, if_true, if_false] at *; done)) ?_
      refine And.intro (by first | assumption | omega | (simp only [small, tiny, rng, decide_eq_true_eq, decide_eq_false_iff_not, true_or, or_true, true_and, and_true, Int.reduceEq, Int.reduceNeg, eq_self, reduceIte, if_true, if_false] at *; omega) | (simp [small, tiny, rng, decide_eq_true_eq, decide_eq_false_iff_not, true_or, or_true, true_and, and_true, Int.reduceEq, Int.reduceNeg, eq_self, reduceIte, if_true, if_false] at *; done)) ?_
      exact ⟨rfl, by rw [e]; rfl, hle2⟩
  · have hz : p ≤ (j : Int) := by omega
    have e : j = p.toNat := by omega
    subst e
    refine ⟨[Ans.o (Orc.b false)], fun u => of_eq (p ≤ (↑p.toNat : Int) ∧ (42 : Nat) = (42 : Nat) ∧ hits [Out.mk Unit (AX.exit (0 : Nat)) [(5 : Nat)] (fun x => True) (fun x => [I (dmL (dimV p) (sOf l) p.toNat)]) (fun x => H.nil) fun x => []] (AX.exit (0 : Nat)) [I p, AV.sl (ints l) l.length r, u (2 : Nat), u (3 : Nat), u (4 : Nat), I (dmL (dimV p) (sOf l) p.toNat), u (6 : Nat), u (7 : Nat), u (8 : Nat), u (9 : Nat), u (10 : Nat), u (11 : Nat), I p, I (↑p.toNat : Int), AV.bool false, u (15 : Nat), u (16 : Nat), u (17 : Nat), u (18 : Nat), u (19 : Nat), u (20 : Nat), u (21 : Nat), u (22 : Nat), u (23 : Nat), u (24 : Nat), u (25 : Nat), u (26 : Nat), u (27 : Nat), u (28 : Nat), u (29 : Nat), u (30 : Nat), u (31 : Nat), u (32 : Nat), u (33 : Nat), u (34 : Nat), u (35 : Nat), u (36 : Nat), u (37 : Nat), u (38 : Nat), u (39 : Nat), u (40 : Nat), u (41 : Nat)] (H.mk [] [] [])) (by kernel_rfl) ?_⟩
    refine And.intro (by first | assumption | omega | (simp only [small, tiny, rng, decide_eq_true_eq, decide_eq_false_iff_not, true_or, or_true, true_and, and_true, Int.reduceEq, Int.reduceNeg, eq_self, reduceIte, if_true, if_false] at *; omega) | (simp [small, tiny, rng, decide_eq_true_eq, decide_eq_false_iff_not, true_or, or_true, true_and, and_true, Int.reduceEq, Int.reduceNeg, eq_self, reduceIte, if_true, if_false] at *; done)) ?_
    refine And.intro (by first | assumption | omega | (simp only [small, tiny, rng, decide_eq_true_eq, decide_eq_false_iff_not, true_or, or_true, true_and, and_true, Int.reduceEq, Int.reduceNeg, eq_self, reduceIte, if_true, if_false] at *; omega) | (simp [small, tiny, rng, decide_eq_true_eq, decide_eq_false_iff_not, true_or, or_true, true_and, and_true, Int.reduceEq, Int.reduceNeg, eq_self, reduceIte, if_true, if_false] at *; done)) ?_
    exact .inl ⟨(), trivial, rfl, rfl, rfl⟩
theorem r28z (p : Int) (r : Room) : Body (En4 []) none1 Tryd.f28 [I p, ls [] r] .nil (I (dimV p (sOf [])), .nil) := by
  refine body_s ([Ans.o Orc.dflt]) ((I (-1 : Int), H.mk [] [] []) = (I (dimV p (sOf [])), H.mk [] [] [])) (by kernel_rfl) ?_
  rfl
theorem r28 (n : Nat) (ih : C28ok n) (p : Int) (l : List Int) (r : Room) (hp : p5 p) (hl : lst l r) (hb : pc (sOf l) ≤ n + 1) (hz : sOf l ≠ 0#32) : Body (En4 [c57.to, (C28 n ih).to]) none1 Tryd.f28 [I p, ls l r] .nil (I (dimV p (sOf l)), .nil) := by
  have hz' : (l.length : Int) ≠ 0 := fun h => hz ((sOf_nil hl.2).2 (List.length_eq_zero_iff.1 (by omega)))
  rw [dimV_eq hz]
  refine body_s ([Ans.o (Orc.b false), Ans.loop [(0 : Nat), (1 : Nat), (5 : Nat), (12 : Nat), (13 : Nat)] [Out.mk Unit (AX.exit (0 : Nat)) [(5 : Nat)] (fun x => True) (fun x => [I (dmL (dimV p) (sOf l) p.toNat)]) (fun x => H.nil) fun y => []]]) ((↑l.length : Int) ≠ (0 : Int) ∧ LoopS (Env.mk Tryd.prog (Sof [c57.to, (C28 n ih).to]) (Pof (P := Tryd.prog) []) H.nil.base (300 : Nat)) (loopAt Tryd.f28 (0 : Nat)) (42 : Nat) [(0 : Nat), (1 : Nat), (5 : Nat), (12 : Nat), (13 : Nat)] [I p, AV.sl (ints l) l.length r, I (0 : Int), I p, I (0 : Int)] (H.mk [] [] []) [Out.mk Unit (AX.exit (0 : Nat)) [(5 : Nat)] (fun x => True) (fun x => [I (dmL (dimV p) (sOf l) p.toNat)]) (fun x => H.nil) fun y => []] ∧ (∀ (y : Unit), True → ∀ (u : Nat → AV), (I (dmL (dimV p) (sOf l) p.toNat), H.mk [] [] []) = (I (dmL (dimV p) (sOf l) p.toNat), H.mk [] [] [])) ∧ True) (by kernel_rfl) ?_
  refine And.intro (by first | assumption | omega | (simp only [small, tiny, rng, decide_eq_true_eq, decide_eq_false_iff_not, true_or, or_true, true_and, and_true, Int.reduceEq, Int.reduceNeg, eq_self, reduceIte, if_true, if_false] at *; omega) | (simp [small, tiny, rng, decide_eq_true_eq, decide_eq_false_iff_not, true_or, or_true, true_and, and_true, Int.reduceEq, Int.reduceNeg, eq_self, reduceIte, if_true, if_false] at *; done)) ?_
  refine And.intro (by exact lp28 n ih p l r hp hl hb) ?_
  refine And.intro ?_ ?_
  · skip
    intro y
    intro w1
    intro u
    first | with_reducible rfl | (refine bleaf_t ?_; first | omega | (simp only [small, tiny, rng, decide_eq_true_eq, decide_eq_false_iff_not, true_or, or_true, true_and, and_true, Int.reduceEq, Int.reduceNeg, eq_self, reduceIte, if_true, if_false] at *; omega)) | (refine bleaf_f ?_; first | omega | (simp only [small, tiny, rng, decide_eq_true_eq, decide_eq_false_iff_not, true_or, or_true, true_and, and_true, Int.reduceEq, Int.reduceNeg, eq_self, reduceIte, if_true, if_false] at *; omega)) | (refine ileaf ?_; first | omega | (simp only [small, tiny, rng, decide_eq_true_eq, decide_eq_false_iff_not, true_or, or_true, true_and, and_true, Int.reduceEq, Int.reduceNeg, eq_self, reduceIte, if_true, if_false] at *; omega)) | (exfalso; omega) | (simp only [Prod.mk.injEq, AV.agg.injEq, AV.tup.injEq, List.cons.injEq, AV.int.injEq, AV.bool.injEq, and_true, true_and]; (repeat' apply And.intro) <;> first | with_reducible rfl | (simp []; done) | (simp []; omega) | omega | (simp only [small, tiny, rng, decide_eq_true_eq, decide_eq_false_iff_not, true_or, or_true, true_and, and_true, Int.reduceEq, Int.reduceNeg, eq_self, reduceIte, if_true, if_false] at *; omega) | (simp [small, tiny, rng, decide_eq_true_eq, decide_eq_false_iff_not, true_or, or_true, true_and, and_true, Int.reduceEq, Int.reduceNeg, eq_self, reduceIte, if_true, if_false, *]; done) | (simp [small, tiny, rng, decide_eq_true_eq, decide_eq_false_iff_not, true_or, or_true, true_and, and_true, Int.reduceEq, Int.reduceNeg, eq_self, reduceIte, if_true, if_false, *]; omega)) | (exfalso; simp only [small, tiny, rng, decide_eq_true_eq, decide_eq_false_iff_not, true_or, or_true, true_and, and_true, Int.reduceEq, Int.reduceNeg, eq_self, reduceIte, if_true, if_false] at *; omega) | (simp [small, tiny, rng, decide_eq_true_eq, decide_eq_false_iff_not, true_or, or_true, true_and, and_true, Int.reduceEq, Int.reduceNeg, eq_self, reduceIte, if_true, if_false] at *; done) | (simp [small, tiny, rng, decide_eq_true_eq, decide_eq_false_iff_not, true_or, or_true, true_and, and_true, Int.reduceEq, Int.reduceNeg, eq_self, reduceIte, if_true, if_false] at *; omega)
  · skip
    trivial
theorem C28_all : ∀ n, C28ok n
  | 0 => fun p l r hp => by
    have hz := (sOf_nil hp.2.1.2).1 (pc_zero (Nat.le_zero.1 hp.2.2))
    subst hz
    exact (r28z p r).run ok28 .nil rfl
  | n + 1 => fun p l r hp => by
    by_cases hz : sOf l = 0#32
    · have hz := (sOf_nil hp.2.1.2).1 hz
      subst hz
      exact (r28z p r).run ok28 .nil rfl
    · exact (r28 n (C28_all n) p l r hp.1 hp.2.1 hp.2.2 hz).run ok28 (.pure _ (.pure _ .nil)) rfl
noncomputable def c28 : PCtr Tryd.prog where
  f := 28
  X := Int × List Int × Room
  args q := [I q.1, ls q.2.1 q.2.2]
  pre q := p5 q.1 ∧ lst q.2.1 q.2.2
  v q := I (dimV q.1 (sOf q.2.1))
  det := by
    rintro ⟨p, l, r⟩ ⟨p', l', r'⟩ e _ _
    simp at e
    simp [e]
  ok := by
    rintro ⟨p, l, r⟩ h
    exact (C28 32 (C28_all 32)).ok (p, l, r) ⟨h.1, h.2, pc_le _⟩
end Go.Proofs.Lrn
