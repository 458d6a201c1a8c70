/- Layer 4: the law of parts of classes. -/
import Derived.Test.YtdnidpojcocklaaDoorLoI
import Derived.Test.YtdnidpojcocklaaDoorLnZ
import Derived.Test.YtdnidpojcocklaaDoorLnO0
import Derived.Test.YtdnidpojcocklaaDoorLnJ
import Derived.Test.YtdnidpojcocklaaDoorLnD
import Derived.KernelRfl
set_option linter.unusedSimpArgs false
set_option linter.unusedVariables false
set_option linter.unnecessarySimpa false
set_option maxHeartbeats 4000000
set_option maxRecDepth 100000
namespace Go.Proofs.Lrn
open Go Go.VM

def kbit (k : Int) (j : Nat) : Int := IntKind.i64.wrap ((BitVec.ofInt IntKind.i64.bits (k.fdiv (2 ^ min ((j : Int)).toNat IntKind.i64.bits)) &&& BitVec.ofInt IntKind.i64.bits (1 : Int)).toNat : Int)
/-- the part that is kept -/
def prt (k : Int) (l : List Int) : Nat → List Int
  | 0 => []
  | j + 1 => if kbit k j = 1 then prt k l j ++ [l.getD j i0] else prt k l j
theorem cls_rise' {p : Int} {l : List Int} (h : cls p l) : l.Pairwise (· < ·) := by
  rw [List.pairwise_iff_getElem]
  intro i j hi hj hij
  have := cls_lt h (j - i - 1) i (by omega)
  rw [show i + (j - i - 1) + 1 = j by omega] at this
  have e1 : l.getD i i0 = l[i] := by simp [List.getD_eq_getElem?_getD, List.getElem?_eq_getElem hi]
  have e2 : l.getD j i0 = l[j] := by simp [List.getD_eq_getElem?_getD, List.getElem?_eq_getElem hj]
  rw [e1, e2] at this
  exact this
theorem prt_sub (k : Int) (l : List Int) : ∀ j, j ≤ l.length → List.Sublist (prt k l j) (l.take j)
  | 0, _ => by simp [prt]
  | j + 1, h => by
    have ih := prt_sub k l j (by omega)
    have e : l.getD j i0 = l[j] := by simp [List.getD_eq_getElem?_getD, List.getElem?_eq_getElem (by omega : j < l.length)]
    have et : l.take (j + 1) = l.take j ++ [l[j]] := by rw [List.take_add_one, List.getElem?_eq_getElem (by omega : j < l.length)]; rfl
    simp only [prt, e, et]
    split
    · exact ih.append (List.Sublist.refl _)
    · exact ih.trans (List.sublist_append_left _ _)
theorem cls_of_sub {p : Int} {l m : List Int} (h : cls p l) (hs : List.Sublist m l) (hm : m ≠ []) : cls p m := by
  have hr : m.Pairwise (· < ·) := (cls_rise' h).sublist hs
  have hle := hs.length_le
  have hpos : 0 < m.length := List.length_pos_iff.2 hm
  refine ⟨h.1, hpos, by have := h.2.2.1; omega, fun i hi => ⟨?_, fun h0 => ?_⟩⟩
  · have : m.getD i i0 ∈ l := hs.subset (mem_iff.2 ⟨i, hi, rfl⟩)
    obtain ⟨j, hj, e⟩ := mem_iff.1 this
    rw [← e]; exact (h.2.2.2 j hj).1
  · rw [List.pairwise_iff_getElem] at hr
    have := hr (i - 1) i (by omega) hi (by omega)
    have e1 : m.getD i i0 = m[i] := by simp [List.getD_eq_getElem?_getD, List.getElem?_eq_getElem hi]
    have e2 : m.getD (i - 1) i0 = m[i - 1] := by simp [List.getD_eq_getElem?_getD, List.getElem?_eq_getElem (by omega : i - 1 < m.length)]
    rw [e1, e2]; exact this
theorem sub_sOf {l m : List Int} (hl : inL l) (h : ∀ c ∈ m, c ∈ l) : sub (sOf m) (sOf l) := by
  intro i hi hb
  rw [sOf_bit (fun c hc => hl c (h c hc)) hi, decide_eq_true_eq] at hb
  rw [sOf_bit hl hi, decide_eq_true_eq]
  exact h _ hb
theorem cls_inP {p : Int} {l : List Int} (h : cls p l) : inP p (sOf l) := by
  intro i hi hb
  rw [sOf_bit (cls_in h) hi, decide_eq_true_eq] at hb
  obtain ⟨j, hj, e⟩ := mem_iff.1 hb
  have := (h.2.2.2 j hj).1.2
  rw [e] at this; exact this
theorem shl_pow {a : Int} (h : 0 ≤ a ∧ a ≤ 5) : IntKind.i64.wrap (1 * 2 ^ min a.toNat IntKind.i64.bits) = ((2 ^ a.toNat : Nat) : Int) := by
  have : a = 0 ∨ a = 1 ∨ a = 2 ∨ a = 3 ∨ a = 4 ∨ a = 5 := by omega
  rcases this with rfl | rfl | rfl | rfl | rfl | rfl <;> rfl
/-- what the law asks of each class by itself -/
theorem cls_facts {p : Int} {l : List Int} (h : cls p l) : 0 ≤ dimV p (sOf l) ∧ dimV p (sOf l) ≤ 5 ∧ ((2 ^ (dimV p (sOf l)).toNat : Nat) : Int) ≤ l.length := by
  have hne : l ≠ [] := fun e => by have := h.2.1; rw [e] at this; simp at this
  have hz : sOf l ≠ 0#32 := fun e => hne ((sOf_nil (cls_in h)).1 e)
  have hp := dim_pow h.1 33 (sOf l) (by have := pc_le (sOf l); omega) hz
  rw [pc_len (cls_in h) (cls_nodup h)] at hp
  have h0 := dimV_pos (p := p) hz
  refine ⟨h0, ?_, by omega⟩
  refine Classical.byContradiction fun hc => ?_
  have : 2 ^ 5 ≤ 2 ^ (dimV p (sOf l)).toNat := Nat.pow_le_pow_right (by decide) (by omega)
  have := h.2.2.1
  omega
noncomputable def g17 : PCtr Tryd.prog := up c17
noncomputable def g17a : PCtr Tryd.prog := up c17a
noncomputable def g19 : PCtr Tryd.prog := up c19
noncomputable def g21 : PCtr Tryd.prog := up c21
noncomputable def g24g : PCtr Tryd.prog := up c24g
noncomputable def g43g : PCtr Tryd.prog := up c43g
/-- two contracts of one pure function -/
def por {P : Program} (c d : PCtr P) (hf : d.f = c.f) (hd : ∀ x y, c.args x = d.args y → c.pre x → d.pre y → c.v x = d.v y) : PCtr P where
  f := c.f
  X := c.X ⊕ d.X
  args := Sum.elim c.args d.args
  pre x := Sum.elim (fun x => c.pre x) (fun x => d.pre x) x
  v x := Sum.elim (fun x => c.v x) (fun x => d.v x) x
  det x y e p q := by
    cases x <;> cases y
    · exact c.det _ _ e p q
    · exact hd _ _ e p q
    · exact (hd _ _ e.symm q p).symm
    · exact d.det _ _ e p q
  ok x p := by
    cases x
    · exact c.ok _ p
    · rw [← hf]; exact d.ok _ p
noncomputable def g17o : PCtr Tryd.prog := por g17 g17a rfl (by
  rintro ⟨l, q⟩ m e _ hm
  exfalso
  have h1 := (List.cons.inj (show [ls l (rr q)] = [acc m] from e)).1
  simp only [AV.sl.injEq] at h1
  have hm2 : m ≠ [] := hm.1
  cases m with
  | nil => exact hm2 rfl
  | cons y t => cases q <;> cases h1.2.2)
abbrev o12 (p k : Int) (l : List Int) (r : Room) : List Out := [.mk Unit (.exit 0) [0, 1, 2, 7] (fun _ => True) (fun _ => [I p, ls l r, I k, acc (prt k l l.length)]) (fun _ => hacc (prt k l l.length)) (fun _ => [])]
theorem simp12 : allSimpleM none1 (loopAt Tryd.f12 0) = true := by kernel_rfl
theorem lp12 (p k : Int) (l : List Int) (r : Room) (hR : Rests (En5 [g19.to, g21.to]) none1) (h1 : l.length ≤ 16) (hr : rok l r) :
    LoopS (En5 [g19.to, g21.to]) (loopAt Tryd.f12 0) 128 [0, 1, 2, 7, 25, 26, 27] [I p, ls l r, I k, .sl [] 0 .nil, ls l r, I l.length, I 0] .nil (o12 p k l r) := by
  refine loop_s hR simp12 none (by intro _ h; cases h) (fun j vs h => h = hacc (prt k l j) ∧ vs = [I p, ls l r, I k, acc (prt k l j), ls l r, I l.length, I j]) l.length ⟨rfl, rfl⟩ (by intro _ h; cases h) ?_
  rintro j vs h hj ⟨rfl, rfl⟩
  by_cases hz : (j : Int) < l.length
  · have hz' : j < l.length := by omega
    have hrr := rok_idx hr hz'
    have hjn : (0 : Int) ≤ (j : Int) := by omega
    have hle := (prt_sub k l j (by omega)).length_le
    have hle2 : (l.take j).length ≤ l.length := by simp; omega
    have hle3 : (prt k l j).length ≤ 1000000000 := by omega
    have ev0 : IntKind.i64.wrap ((BitVec.ofInt IntKind.i64.bits (k.fdiv (2 ^ min ((j : Int)).toNat IntKind.i64.bits)) &&& BitVec.ofInt IntKind.i64.bits (1 : Int)).toNat : Int) = kbit k j := rfl
    by_cases hb : kbit k j = 1
    · have hs : prt k l (j + 1) = prt k l j ++ [l.getD j i0] := by simp only [prt, if_pos hb]
      refine ⟨[Ans.o (Orc.b true), Ans.o (Orc.val (30 : Nat) (AV.cptr (ints (List.drop j l))) (H.mk [] (tk (prt k l j)) [])), Ans.o (Orc.val (31 : Nat) (I (l.getD j i0)) (H.mk [] (tk (prt k l j)) [])), Ans.o (Orc.val (35 : Nat) (I (kbit k j)) (H.mk [] (tk (prt k l j)) [])), Ans.o (Orc.b true), Ans.o (Orc.val (40 : Nat) (AV.sl (ints (prt k l j ++ [l.getD j i0])) (prt k l j ++ [l.getD j i0]).length (rm (0 : Nat) (prt k l j ++ [l.getD j i0]))) (H.mk [] (tk (prt k l j ++ [l.getD j i0])) []))], fun u => of_eq ((↑j : Int) < (↑l.length : Int) ∧ aIndexAddr Tryd.prog (22 : Nat) (AV.sl (ints l) l.length r) (I (↑j : Int)) = some (AV.cptr (ints (List.drop j l))) ∧ aLoad Tryd.prog (3 : Nat) (ints (List.drop j l)) = some (I (l.getD j i0)) ∧ aBin Tryd.prog BinOp.and (3 : Nat) (I (k.fdiv ((2 : Int) ^ min (↑j : Int).toNat IntKind.i64.bits))) (I (1 : Int)) = some (I (kbit k j)) ∧ kbit k j = (1 : Int) ∧ aAppend Tryd.prog (22 : Nat) (22 : Nat) (AV.sl (ints (prt k l j)) (prt k l j).length (rm (0 : Nat) (prt k l j))) (AV.sl [I (l.getD j i0)] (1 : Nat) Room.full) (H.mk [] (tk (prt k l j)) []) = some (AV.sl (ints (prt k l j ++ [l.getD j i0])) (prt k l j ++ [l.getD j i0]).length (rm (0 : Nat) (prt k l j ++ [l.getD j i0])), H.mk [] (tk (prt k l j ++ [l.getD j i0])) []) ∧ IntKind.i64.wrap ((↑j : Int) + (1 : Int)) = (↑j : Int) + (1 : Int) ∧ (128 : Nat) = (128 : Nat) ∧ j < l.length ∧ Keep (H.mk [] (tk (prt k l j ++ [l.getD j i0])) [] = H.mk [] (tk (prt k l (j + (1 : Nat)))) [] ∧ [I p, AV.sl (ints l) l.length r, I k, AV.sl (ints (prt k l j ++ [l.getD j i0])) (prt k l j ++ [l.getD j i0]).length (rm (0 : Nat) (prt k l j ++ [l.getD j i0])), AV.sl (ints l) l.length r, I (↑l.length : Int), I ((↑j : Int) + (1 : Int))] = [I p, AV.sl (ints l) l.length r, I k, AV.sl (ints (prt k l (j + (1 : Nat)))) (prt k l (j + (1 : Nat))).length (rm (0 : Nat) (prt k l (j + (1 : Nat)))), AV.sl (ints l) l.length r, I (↑l.length : Int), I (↑(j + (1 : Nat)) : Int)])) (by kernel_rfl) ?_⟩
      refine And.intro (by first | assumption | omega | (simp only [small, tiny, rng, decide_eq_true_eq, decide_eq_false_iff_not, true_or, or_true, true_and, and_true, Int.reduceEq, Int.reduceNeg, eq_self, reduceIte, if_true, if_false] at *; omega) | (simp [small, tiny, rng, decide_eq_true_eq, decide_eq_false_iff_not, true_or, or_true, true_and, and_true, Int.reduceEq, Int.reduceNeg, eq_self, reduceIte, if_true, if_false] at *; done)) ?_
      refine And.intro (by first | exact ix_ints (by kernel_rfl) (by omega) (by assumption) | exact ix_ints (by kernel_rfl) (by omega) (rok_idx (by assumption) (by omega))) ?_
      refine And.intro (by exact ld_ints (by kernel_rfl) (by kernel_rfl) (by omega)) ?_
      refine And.intro (by first | exact told_shr hjn rfl | exact told_and (by assumption)) ?_
      refine And.intro (by first | assumption | omega | (simp only [small, tiny, rng, decide_eq_true_eq, decide_eq_false_iff_not, true_or, or_true, true_and, and_true, Int.reduceEq, Int.reduceNeg, eq_self, reduceIte, if_true, if_false] at *; omega) | (simp [small, tiny, rng, decide_eq_true_eq, decide_eq_false_iff_not, true_or, or_true, true_and, and_true, Int.reduceEq, Int.reduceNeg, eq_self, reduceIte, if_true, if_false] at *; done)) ?_
      refine And.intro (by exact app_ints (by kernel_rfl) hle3) ?_
      refine And.intro (by first | exact wr _ (by omega) (by omega) | (refine wr _ ?_ ?_ <;> (simp only [small, tiny, rng, decide_eq_true_eq, decide_eq_false_iff_not, true_or, or_true, true_and, and_true, Int.reduceEq, Int.reduceNeg, eq_self, reduceIte, if_true, if_false] at *; omega))) ?_
      refine And.intro (by first | assumption | omega | (simp only [small, tiny, rng, decide_eq_true_eq, decide_eq_false_iff_not, true_or, or_true, true_and, and_true, Int.reduceEq, Int.reduceNeg, eq_self, reduceIte, if_true, if_false] at *; omega) | (simp [small, tiny, rng, decide_eq_true_eq, decide_eq_false_iff_not, true_or, or_true, true_and, and_true, Int.reduceEq, Int.reduceNeg, eq_self, reduceIte, if_true, if_false] at *; done)) ?_
      refine And.intro (by first | assumption | omega | (simp only [small, tiny, rng, decide_eq_true_eq, decide_eq_false_iff_not, true_or, or_true, true_and, and_true, Int.reduceEq, Int.reduceNeg, eq_self, reduceIte, if_true, if_false] at *; omega) | (simp [small, tiny, rng, decide_eq_true_eq, decide_eq_false_iff_not, true_or, or_true, true_and, and_true, Int.reduceEq, Int.reduceNeg, eq_self, reduceIte, if_true, if_false] at *; done)) ?_
      (show _ = _ ∧ _ = _; rw [hs]; exact ⟨rfl, rfl⟩)
    · have hs : prt k l (j + 1) = prt k l j := by simp only [prt, if_neg hb]
      have hb : kbit k j ≠ 1 := hb
      refine ⟨[Ans.o (Orc.b true), Ans.o (Orc.val (30 : Nat) (AV.cptr (ints (List.drop j l))) (H.mk [] (tk (prt k l j)) [])), Ans.o (Orc.val (31 : Nat) (I (l.getD j i0)) (H.mk [] (tk (prt k l j)) [])), Ans.o (Orc.val (35 : Nat) (I (kbit k j)) (H.mk [] (tk (prt k l j)) [])), Ans.o (Orc.b false)], fun u => of_eq ((↑j : Int) < (↑l.length : Int) ∧ aIndexAddr Tryd.prog (22 : Nat) (AV.sl (ints l) l.length r) (I (↑j : Int)) = some (AV.cptr (ints (List.drop j l))) ∧ aLoad Tryd.prog (3 : Nat) (ints (List.drop j l)) = some (I (l.getD j i0)) ∧ aBin Tryd.prog BinOp.and (3 : Nat) (I (k.fdiv ((2 : Int) ^ min (↑j : Int).toNat IntKind.i64.bits))) (I (1 : Int)) = some (I (kbit k j)) ∧ kbit k j ≠ (1 : Int) ∧ IntKind.i64.wrap ((↑j : Int) + (1 : Int)) = (↑j : Int) + (1 : Int) ∧ (128 : Nat) = (128 : Nat) ∧ j < l.length ∧ Keep (H.mk [] (tk (prt k l j)) [] = H.mk [] (tk (prt k l (j + (1 : Nat)))) [] ∧ [I p, AV.sl (ints l) l.length r, I k, AV.sl (ints (prt k l j)) (prt k l j).length (rm (0 : Nat) (prt k l j)), AV.sl (ints l) l.length r, I (↑l.length : Int), I ((↑j : Int) + (1 : Int))] = [I p, AV.sl (ints l) l.length r, I k, AV.sl (ints (prt k l (j + (1 : Nat)))) (prt k l (j + (1 : Nat))).length (rm (0 : Nat) (prt k l (j + (1 : Nat)))), AV.sl (ints l) l.length r, I (↑l.length : Int), I (↑(j + (1 : Nat)) : Int)])) (by kernel_rfl) ?_⟩
      refine And.intro (by first | assumption | omega | (simp only [small, tiny, rng, decide_eq_true_eq, decide_eq_false_iff_not, true_or, or_true, true_and, and_true, Int.reduceEq, Int.reduceNeg, eq_self, reduceIte, if_true, if_false] at *; omega) | (simp [small, tiny, rng, decide_eq_true_eq, decide_eq_false_iff_not, true_or, or_true, true_and, and_true, Int.reduceEq, Int.reduceNeg, eq_self, reduceIte, if_true, if_false] at *; done)) ?_
      refine And.intro (by first | exact ix_ints (by kernel_rfl) (by omega) (by assumption) | exact ix_ints (by kernel_rfl) (by omega) (rok_idx (by assumption) (by omega))) ?_
      refine And.intro (by exact ld_ints (by kernel_rfl) (by kernel_rfl) (by omega)) ?_
      refine And.intro (by first | exact told_shr hjn rfl | exact told_and (by assumption)) ?_
      refine And.intro (by first | assumption | omega | (simp only [small, tiny, rng, decide_eq_true_eq, decide_eq_false_iff_not, true_or, or_true, true_and, and_true, Int.reduceEq, Int.reduceNeg, eq_self, reduceIte, if_true, if_false] at *; omega) | (simp [small, tiny, rng, decide_eq_true_eq, decide_eq_false_iff_not, true_or, or_true, true_and, and_true, Int.reduceEq, Int.reduceNeg, eq_self, reduceIte, if_true, if_false] at *; done)) ?_
      refine And.intro (by first | exact wr _ (by omega) (by omega) | (refine wr _ ?_ ?_ <;> (simp only [small, tiny, rng, decide_eq_true_eq, decide_eq_false_iff_not, true_or, or_true, true_and, and_true, Int.reduceEq, Int.reduceNeg, eq_self, reduceIte, if_true, if_false] at *; omega))) ?_
      refine And.intro (by first | assumption | omega | (simp only [small, tiny, rng, decide_eq_true_eq, decide_eq_false_iff_not, true_or, or_true, true_and, and_true, Int.reduceEq, Int.reduceNeg, eq_self, reduceIte, if_true, if_false] at *; omega) | (simp [small, tiny, rng, decide_eq_true_eq, decide_eq_false_iff_not, true_or, or_true, true_and, and_true, Int.reduceEq, Int.reduceNeg, eq_self, reduceIte, if_true, if_false] at *; done)) ?_
      refine And.intro (by first | assumption | omega | (simp only [small, tiny, rng, decide_eq_true_eq, decide_eq_false_iff_not, true_or, or_true, true_and, and_true, Int.reduceEq, Int.reduceNeg, eq_self, reduceIte, if_true, if_false] at *; omega) | (simp [small, tiny, rng, decide_eq_true_eq, decide_eq_false_iff_not, true_or, or_true, true_and, and_true, Int.reduceEq, Int.reduceNeg, eq_self, reduceIte, if_true, if_false] at *; done)) ?_
      (show _ = _ ∧ _ = _; rw [hs]; exact ⟨rfl, rfl⟩)
  · have hz : (l.length : Int) ≤ j := by omega
    have e : j = l.length := by omega
    subst e
    refine ⟨[Ans.o (Orc.b false)], fun u => of_eq ((↑l.length : Int) ≤ (↑l.length : Int) ∧ (128 : Nat) = (128 : Nat) ∧ hits [Out.mk Unit (AX.exit (0 : Nat)) [(0 : Nat), (1 : Nat), (2 : Nat), (7 : Nat)] (fun x => True) (fun x => [I p, ls l r, I k, acc (prt k l l.length)]) (fun x => hacc (prt k l l.length)) fun x => []] (AX.exit (0 : Nat)) [I p, AV.sl (ints l) l.length r, I k, u (3 : Nat), u (4 : Nat), u (5 : Nat), u (6 : Nat), AV.sl (ints (prt k l l.length)) (prt k l l.length).length (rm (0 : Nat) (prt k l l.length)), u (8 : Nat), u (9 : Nat), u (10 : Nat), u (11 : Nat), u (12 : Nat), u (13 : Nat), u (14 : Nat), u (15 : Nat), u (16 : Nat), u (17 : Nat), u (18 : Nat), u (19 : Nat), u (20 : Nat), u (21 : Nat), u (22 : Nat), u (23 : Nat), u (24 : Nat), AV.sl (ints l) l.length r, I (↑l.length : Int), I (↑l.length : Int), AV.bool false, u (29 : Nat), u (30 : Nat), u (31 : Nat), u (32 : Nat), u (33 : Nat), u (34 : Nat), u (35 : Nat), u (36 : Nat), u (37 : Nat), u (38 : Nat), u (39 : Nat), u (40 : Nat), u (41 : Nat), u (42 : Nat), u (43 : Nat), u (44 : Nat), u (45 : Nat), u (46 : Nat), u (47 : Nat), u (48 : Nat), u (49 : Nat), u (50 : Nat), u (51 : Nat), u (52 : Nat), u (53 : Nat), u (54 : Nat), u (55 : Nat), u (56 : Nat), u (57 : Nat), u (58 : Nat), u (59 : Nat), u (60 : Nat), u (61 : Nat), u (62 : Nat), u (63 : Nat), u (64 : Nat), u (65 : Nat), u (66 : Nat), u (67 : Nat), u (68 : Nat), u (69 : Nat), u (70 : Nat), u (71 : Nat), u (72 : Nat), u (73 : Nat), u (74 : Nat), u (75 : Nat), u (76 : Nat), u (77 : Nat), u (78 : Nat), u (79 : Nat), u (80 : Nat), u (81 : Nat), u (82 : Nat), u (83 : Nat), u (84 : Nat), u (85 : Nat), u (86 : Nat), u (87 : Nat), u (88 : Nat), u (89 : Nat), u (90 : Nat), u (91 : Nat), u (92 : Nat), u (93 : Nat), u (94 : Nat), u (95 : Nat), u (96 : Nat), u (97 : Nat), u (98 : Nat), u (99 : Nat), u (100 : Nat), u (101 : Nat), u (102 : Nat), u (103 : Nat), u (104 : Nat), u (105 : Nat), u (106 : Nat), u (107 : Nat), u (108 : Nat), u (109 : Nat), u (110 : Nat), u (111 : Nat), u (112 : Nat), u (113 : Nat), u (114 : Nat), u (115 : Nat), u (116 : Nat), u (117 : Nat), u (118 : Nat), u (119 : Nat), u (120 : Nat), u (121 : Nat), u (122 : Nat), u (123 : Nat), u (124 : Nat), u (125 : Nat), u (126 : Nat), u (127 : Nat)] (H.mk [] (tk (prt k l l.length)) [])) (by kernel_rfl) ?_⟩
    refine And.intro (by first | assumption | omega | (simp only [small, tiny, rng, decide_eq_true_eq, decide_eq_false_iff_not, true_or, or_true, true_and, and_true, Int.reduceEq, Int.reduceNeg, eq_self, reduceIte, if_true, if_false] at *; omega) | (simp [small, tiny, rng, decide_eq_true_eq, decide_eq_false_iff_not, true_or, or_true, true_and, and_true, Int.reduceEq, Int.reduceNeg, eq_self, reduceIte, if_true, if_false] at *; done)) ?_
    refine And.intro (by first | assumption | omega | (simp only [small, tiny, rng, decide_eq_true_eq, decide_eq_false_iff_not, true_or, or_true, true_and, and_true, Int.reduceEq, Int.reduceNeg, eq_self, reduceIte, if_true, if_false] at *; omega) | (simp [small, tiny, rng, decide_eq_true_eq, decide_eq_false_iff_not, true_or, or_true, true_and, and_true, Int.reduceEq, Int.reduceNeg, eq_self, reduceIte, if_true, if_false] at *; done)) ?_
    exact .inl ⟨(), trivial, rfl, rfl, rfl⟩
theorem lp12x (p k : Int) (l : List Int) (r : Room) (hR : Rests (En5 [g19.to, g21.to, g17o.to, g24g.to, g43g.to, c44g.to]) none1) (h1 : l.length ≤ 16) (hr : rok l r) :
    LoopS (En5 [g19.to, g21.to, g17o.to, g24g.to, g43g.to, c44g.to]) (loopAt Tryd.f12 0) 128 [0, 1, 2, 7, 25, 26, 27] [I p, ls l r, I k, .sl [] 0 .nil, ls l r, I l.length, I 0] .nil (o12 p k l r) := by
  refine loop_s hR simp12 none (by intro _ h; cases h) (fun j vs h => h = hacc (prt k l j) ∧ vs = [I p, ls l r, I k, acc (prt k l j), ls l r, I l.length, I j]) l.length ⟨rfl, rfl⟩ (by intro _ h; cases h) ?_
  rintro j vs h hj ⟨rfl, rfl⟩
  by_cases hz : (j : Int) < l.length
  · have hz' : j < l.length := by omega
    have hrr := rok_idx hr hz'
    have hjn : (0 : Int) ≤ (j : Int) := by omega
    have hle := (prt_sub k l j (by omega)).length_le
    have hle2 : (l.take j).length ≤ l.length := by simp; omega
    have hle3 : (prt k l j).length ≤ 1000000000 := by omega
    have ev0 : IntKind.i64.wrap ((BitVec.ofInt IntKind.i64.bits (k.fdiv (2 ^ min ((j : Int)).toNat IntKind.i64.bits)) &&& BitVec.ofInt IntKind.i64.bits (1 : Int)).toNat : Int) = kbit k j := rfl
    by_cases hb : kbit k j = 1
    · have hs : prt k l (j + 1) = prt k l j ++ [l.getD j i0] := by simp only [prt, if_pos hb]
      refine ⟨[Ans.o (Orc.b true), Ans.o (Orc.val (30 : Nat) (AV.cptr (ints (List.drop j l))) (H.mk [] (tk (prt k l j)) [])), Ans.o (Orc.val (31 : Nat) (I (l.getD j i0)) (H.mk [] (tk (prt k l j)) [])), Ans.o (Orc.val (35 : Nat) (I (kbit k j)) (H.mk [] (tk (prt k l j)) [])), Ans.o (Orc.b true), Ans.o (Orc.val (40 : Nat) (AV.sl (ints (prt k l j ++ [l.getD j i0])) (prt k l j ++ [l.getD j i0]).length (rm (0 : Nat) (prt k l j ++ [l.getD j i0]))) (H.mk [] (tk (prt k l j ++ [l.getD j i0])) []))], fun u => of_eq ((↑j : Int) < (↑l.length : Int) ∧ aIndexAddr Tryd.prog (22 : Nat) (AV.sl (ints l) l.length r) (I (↑j : Int)) = some (AV.cptr (ints (List.drop j l))) ∧ aLoad Tryd.prog (3 : Nat) (ints (List.drop j l)) = some (I (l.getD j i0)) ∧ aBin Tryd.prog BinOp.and (3 : Nat) (I (k.fdiv ((2 : Int) ^ min (↑j : Int).toNat IntKind.i64.bits))) (I (1 : Int)) = some (I (kbit k j)) ∧ kbit k j = (1 : Int) ∧ aAppend Tryd.prog (22 : Nat) (22 : Nat) (AV.sl (ints (prt k l j)) (prt k l j).length (rm (0 : Nat) (prt k l j))) (AV.sl [I (l.getD j i0)] (1 : Nat) Room.full) (H.mk [] (tk (prt k l j)) []) = some (AV.sl (ints (prt k l j ++ [l.getD j i0])) (prt k l j ++ [l.getD j i0]).length (rm (0 : Nat) (prt k l j ++ [l.getD j i0])), H.mk [] (tk (prt k l j ++ [l.getD j i0])) []) ∧ IntKind.i64.wrap ((↑j : Int) + (1 : Int)) = (↑j : Int) + (1 : Int) ∧ (128 : Nat) = (128 : Nat) ∧ j < l.length ∧ Keep (H.mk [] (tk (prt k l j ++ [l.getD j i0])) [] = H.mk [] (tk (prt k l (j + (1 : Nat)))) [] ∧ [I p, AV.sl (ints l) l.length r, I k, AV.sl (ints (prt k l j ++ [l.getD j i0])) (prt k l j ++ [l.getD j i0]).length (rm (0 : Nat) (prt k l j ++ [l.getD j i0])), AV.sl (ints l) l.length r, I (↑l.length : Int), I ((↑j : Int) + (1 : Int))] = [I p, AV.sl (ints l) l.length r, I k, AV.sl (ints (prt k l (j + (1 : Nat)))) (prt k l (j + (1 : Nat))).length (rm (0 : Nat) (prt k l (j + (1 : Nat)))), AV.sl (ints l) l.length r, I (↑l.length : Int), I (↑(j + (1 : Nat)) : Int)])) (by kernel_rfl) ?_⟩
      refine And.intro (by first | assumption | omega | (simp only [small, tiny, rng, decide_eq_true_eq, decide_eq_false_iff_not, true_or, or_true, true_and, and_true, Int.reduceEq, Int.reduceNeg, eq_self, reduceIte, if_true, if_false] at *; omega) | (simp [small, tiny, rng, decide_eq_true_eq, decide_eq_false_iff_not, true_or, or_true, true_and, and_true, Int.reduceEq, Int.reduceNeg, eq_self, reduceIte, if_true, if_false] at *; done)) ?_
      refine And.intro (by first | exact ix_ints (by kernel_rfl) (by omega) (by assumption) | exact ix_ints (by kernel_rfl) (by omega) (rok_idx (by assumption) (by omega))) ?_
      refine And.intro (by exact ld_ints (by kernel_rfl) (by kernel_rfl) (by omega)) ?_
      refine And.intro (by first | exact told_shr hjn rfl | exact told_and (by assumption)) ?_
      refine And.intro (by first | assumption | omega | (simp only [small, tiny, rng, decide_eq_true_eq, decide_eq_false_iff_not, true_or, or_true, true_and, and_true, Int.reduceEq, Int.reduceNeg, eq_self, reduceIte, if_true, if_false] at *; omega) | (simp [small, tiny, rng, decide_eq_true_eq, decide_eq_false_iff_not, true_or, or_true, true_and, and_true, Int.reduceEq, Int.reduceNeg, eq_self, reduceIte, if_true, if_false] at *; done)) ?_
      refine And.intro (by exact app_ints (by kernel_rfl) hle3) ?_
      refine And.intro (by first | exact wr _ (by omega) (by omega) | (refine wr _ ?_ ?_ <;> (simp only [small, tiny, rng, decide_eq_true_eq, decide_eq_false_iff_not, true_or, or_true, true_and, and_true, Int.reduceEq, Int.reduceNeg, eq_self, reduceIte, if_true, if_false] at *; omega))) ?_
      refine And.intro (by first | assumption | omega | (simp only [small, tiny, rng, decide_eq_true_eq, decide_eq_false_iff_not, true_or, or_true, true_and, and_true, Int.reduceEq, Int.reduceNeg, eq_self, reduceIte, if_true, if_false] at *; omega) | (simp [small, tiny, rng, decide_eq_true_eq, decide_eq_false_iff_not, true_or, or_true, true_and, and_true, Int.reduceEq, Int.reduceNeg, eq_self, reduceIte, if_true, if_false] at *; done)) ?_
      refine And.intro (by first | assumption | omega | (simp only [small, tiny, rng, decide_eq_true_eq, decide_eq_false_iff_not, true_or, or_true, true_and, and_true, Int.reduceEq, Int.reduceNeg, eq_self, reduceIte, if_true, if_false] at *; omega) | (simp [small, tiny, rng, decide_eq_true_eq, decide_eq_false_iff_not, true_or, or_true, true_and, and_true, Int.reduceEq, Int.reduceNeg, eq_self, reduceIte, if_true, if_false] at *; done)) ?_
      (show _ = _ ∧ _ = _; rw [hs]; exact ⟨rfl, rfl⟩)
    · have hs : prt k l (j + 1) = prt k l j := by simp only [prt, if_neg hb]
      have hb : kbit k j ≠ 1 := hb
      refine ⟨[Ans.o (Orc.b true), Ans.o (Orc.val (30 : Nat) (AV.cptr (ints (List.drop j l))) (H.mk [] (tk (prt k l j)) [])), Ans.o (Orc.val (31 : Nat) (I (l.getD j i0)) (H.mk [] (tk (prt k l j)) [])), Ans.o (Orc.val (35 : Nat) (I (kbit k j)) (H.mk [] (tk (prt k l j)) [])), Ans.o (Orc.b false)], fun u => of_eq ((↑j : Int) < (↑l.length : Int) ∧ aIndexAddr Tryd.prog (22 : Nat) (AV.sl (ints l) l.length r) (I (↑j : Int)) = some (AV.cptr (ints (List.drop j l))) ∧ aLoad Tryd.prog (3 : Nat) (ints (List.drop j l)) = some (I (l.getD j i0)) ∧ aBin Tryd.prog BinOp.and (3 : Nat) (I (k.fdiv ((2 : Int) ^ min (↑j : Int).toNat IntKind.i64.bits))) (I (1 : Int)) = some (I (kbit k j)) ∧ kbit k j ≠ (1 : Int) ∧ IntKind.i64.wrap ((↑j : Int) + (1 : Int)) = (↑j : Int) + (1 : Int) ∧ (128 : Nat) = (128 : Nat) ∧ j < l.length ∧ Keep (H.mk [] (tk (prt k l j)) [] = H.mk [] (tk (prt k l (j + (1 : Nat)))) [] ∧ [I p, AV.sl (ints l) l.length r, I k, AV.sl (ints (prt k l j)) (prt k l j).length (rm (0 : Nat) (prt k l j)), AV.sl (ints l) l.length r, I (↑l.length : Int), I ((↑j : Int) + (1 : Int))] = [I p, AV.sl (ints l) l.length r, I k, AV.sl (ints (prt k l (j + (1 : Nat)))) (prt k l (j + (1 : Nat))).length (rm (0 : Nat) (prt k l (j + (1 : Nat)))), AV.sl (ints l) l.length r, I (↑l.length : Int), I (↑(j + (1 : Nat)) : Int)])) (by kernel_rfl) ?_⟩
      refine And.intro (by first | assumption | omega | (simp only [small, tiny, rng, decide_eq_true_eq, decide_eq_false_iff_not, true_or, or_true, true_and, and_true, Int.reduceEq, Int.reduceNeg, eq_self, reduceIte, if_true, if_false] at *; omega) | (simp [small, tiny, rng, decide_eq_true_eq, decide_eq_false_iff_not, true_or, or_true, true_and, and_true, Int.reduceEq, Int.reduceNeg, eq_self, reduceIte, if_true, if_false] at *; done)) ?_
      refine And.intro (by first | exact ix_ints (by kernel_rfl) (by omega) (by assumption) | exact ix_ints (by kernel_rfl) (by omega) (rok_idx (by assumption) (by omega))) ?_
      refine And.intro (by exact ld_ints (by kernel_rfl) (by kernel_rfl) (by omega)) ?_
      refine And.intro (by first | exact told_shr hjn rfl | exact told_and (by assumption)) ?_
      refine And.intro (by first | assumption | omega | (simp only [small, tiny, rng, decide_eq_true_eq, decide_eq_false_iff_not, true_or, or_true, true_and, and_true, Int.reduceEq, Int.reduceNeg, eq_self, reduceIte, if_true, if_false] at *; omega) | (simp [small, tiny, rng, decide_eq_true_eq, decide_eq_false_iff_not, true_or, or_true, true_and, and_true, Int.reduceEq, Int.reduceNeg, eq_self, reduceIte, if_true, if_false] at *; done)) ?_
      refine And.intro (by first | exact wr _ (by omega) (by omega) | (refine wr _ ?_ ?_ <;> (simp only [small, tiny, rng, decide_eq_true_eq, decide_eq_false_iff_not, true_or, or_true, true_and, and_true, Int.reduceEq, Int.reduceNeg, eq_self, reduceIte, if_true, if_false] at *; omega))) ?_
      refine And.intro (by first | assumption | omega | (simp only [small, tiny, rng, decide_eq_true_eq, decide_eq_false_iff_not, true_or, or_true, true_and, and_true, Int.reduceEq, Int.reduceNeg, eq_self, reduceIte, if_true, if_false] at *; omega) | (simp [small, tiny, rng, decide_eq_true_eq, decide_eq_false_iff_not, true_or, or_true, true_and, and_true, Int.reduceEq, Int.reduceNeg, eq_self, reduceIte, if_true, if_false] at *; done)) ?_
      refine And.intro (by first | assumption | omega | (simp only [small, tiny, rng, decide_eq_true_eq, decide_eq_false_iff_not, true_or, or_true, true_and, and_true, Int.reduceEq, Int.reduceNeg, eq_self, reduceIte, if_true, if_false] at *; omega) | (simp [small, tiny, rng, decide_eq_true_eq, decide_eq_false_iff_not, true_or, or_true, true_and, and_true, Int.reduceEq, Int.reduceNeg, eq_self, reduceIte, if_true, if_false] at *; done)) ?_
      (show _ = _ ∧ _ = _; rw [hs]; exact ⟨rfl, rfl⟩)
  · have hz : (l.length : Int) ≤ j := by omega
    have e : j = l.length := by omega
    subst e
    refine ⟨[Ans.o (Orc.b false)], fun u => of_eq ((↑l.length : Int) ≤ (↑l.length : Int) ∧ (128 : Nat) = (128 : Nat) ∧ hits [Out.mk Unit (AX.exit (0 : Nat)) [(0 : Nat), (1 : Nat), (2 : Nat), (7 : Nat)] (fun x => True) (fun x => [I p, ls l r, I k, acc (prt k l l.length)]) (fun x => hacc (prt k l l.length)) fun x => []] (AX.exit (0 : Nat)) [I p, AV.sl (ints l) l.length r, I k, u (3 : Nat), u (4 : Nat), u (5 : Nat), u (6 : Nat), AV.sl (ints (prt k l l.length)) (prt k l l.length).length (rm (0 : Nat) (prt k l l.length)), u (8 : Nat), u (9 : Nat), u (10 : Nat), u (11 : Nat), u (12 : Nat), u (13 : Nat), u (14 : Nat), u (15 : Nat), u (16 : Nat), u (17 : Nat), u (18 : Nat), u (19 : Nat), u (20 : Nat), u (21 : Nat), u (22 : Nat), u (23 : Nat), u (24 : Nat), AV.sl (ints l) l.length r, I (↑l.length : Int), I (↑l.length : Int), AV.bool false, u (29 : Nat), u (30 : Nat), u (31 : Nat), u (32 : Nat), u (33 : Nat), u (34 : Nat), u (35 : Nat), u (36 : Nat), u (37 : Nat), u (38 : Nat), u (39 : Nat), u (40 : Nat), u (41 : Nat), u (42 : Nat), u (43 : Nat), u (44 : Nat), u (45 : Nat), u (46 : Nat), u (47 : Nat), u (48 : Nat), u (49 : Nat), u (50 : Nat), u (51 : Nat), u (52 : Nat), u (53 : Nat), u (54 : Nat), u (55 : Nat), u (56 : Nat), u (57 : Nat), u (58 : Nat), u (59 : Nat), u (60 : Nat), u (61 : Nat), u (62 : Nat), u (63 : Nat), u (64 : Nat), u (65 : Nat), u (66 : Nat), u (67 : Nat), u (68 : Nat), u (69 : Nat), u (70 : Nat), u (71 : Nat), u (72 : Nat), u (73 : Nat), u (74 : Nat), u (75 : Nat), u (76 : Nat), u (77 : Nat), u (78 : Nat), u (79 : Nat), u (80 : Nat), u (81 : Nat), u (82 : Nat), u (83 : Nat), u (84 : Nat), u (85 : Nat), u (86 : Nat), u (87 : Nat), u (88 : Nat), u (89 : Nat), u (90 : Nat), u (91 : Nat), u (92 : Nat), u (93 : Nat), u (94 : Nat), u (95 : Nat), u (96 : Nat), u (97 : Nat), u (98 : Nat), u (99 : Nat), u (100 : Nat), u (101 : Nat), u (102 : Nat), u (103 : Nat), u (104 : Nat), u (105 : Nat), u (106 : Nat), u (107 : Nat), u (108 : Nat), u (109 : Nat), u (110 : Nat), u (111 : Nat), u (112 : Nat), u (113 : Nat), u (114 : Nat), u (115 : Nat), u (116 : Nat), u (117 : Nat), u (118 : Nat), u (119 : Nat), u (120 : Nat), u (121 : Nat), u (122 : Nat), u (123 : Nat), u (124 : Nat), u (125 : Nat), u (126 : Nat), u (127 : Nat)] (H.mk [] (tk (prt k l l.length)) [])) (by kernel_rfl) ?_⟩
    refine And.intro (by first | assumption | omega | (simp only [small, tiny, rng, decide_eq_true_eq, decide_eq_false_iff_not, true_or, or_true, true_and, and_true, Int.reduceEq, Int.reduceNeg, eq_self, reduceIte, if_true, if_false] at *; omega) | (simp [small, tiny, rng, decide_eq_true_eq, decide_eq_false_iff_not, true_or, or_true, true_and, and_true, Int.reduceEq, Int.reduceNeg, eq_self, reduceIte, if_true, if_false] at *; done)) ?_
    refine And.intro (by first | assumption | omega | (simp only [small, tiny, rng, decide_eq_true_eq, decide_eq_false_iff_not, true_or, or_true, true_and, and_true, Int.reduceEq, Int.reduceNeg, eq_self, reduceIte, if_true, if_false] at *; omega) | (simp [small, tiny, rng, decide_eq_true_eq, decide_eq_false_iff_not, true_or, or_true, true_and, and_true, Int.reduceEq, Int.reduceNeg, eq_self, reduceIte, if_true, if_false] at *; done)) ?_
    exact .inl ⟨(), trivial, rfl, rfl, rfl⟩
theorem ok12 : FokM Tryd.prog none1 12 Tryd.f12 := ⟨mixed, by kernel_rfl, by kernel_rfl, by kernel_rfl, by kernel_rfl⟩
theorem r12b (p : Int) (l : List Int) (q : RK) (k : Int) (hl : pl l q) (hn : ¬ cls p l) : Body (En5 [g19.to, g21.to]) none1 Tryd.f12 [I p, ls l (rr q), I k] .nil (.bool true, .nil) := by
  have z1 : lim l.length ∧ rok l (rr q) := ⟨hl.1, rr_rok' hl.2⟩
  have hd : decide (cls p l) = false := by rw [decide_eq_false_iff_not]; exact hn
  refine body_s ([Ans.o (Orc.val (22 : Nat) (AV.bool false) (H.mk [] [] [])), Ans.o (Orc.val (24 : Nat) (AV.bool true) (H.mk [] [] []))]) (aCall (Sof [g19.to, g21.to]) (AV.fn (Fn.func (19 : Nat)) [] []) [I p, AV.sl (ints l) l.length (rr q)] (H.mk [] [] []) = some (AV.bool false, H.mk [] [] []) ∧ aCall (Sof [g19.to, g21.to]) (AV.fn (Fn.func (21 : Nat)) [] []) [] (H.mk [] [] []) = some (AV.bool true, H.mk [] [] []) ∧ (AV.bool true, H.mk [] [] []) = (AV.bool true, H.mk [] [] [])) (by kernel_rfl) ?_
  refine And.intro (by exact acall_b (acall_hit (c := g19.to) (p, l, rr q) _ rfl z1) hd) ?_
  refine And.intro (by exact acall_hit (c := g21.to) () _ rfl trivial) ?_
  first | with_reducible rfl | (refine bleaf_t ?_; first | omega | (simp only [small, tiny, rng, decide_eq_true_eq, decide_eq_false_iff_not, true_or, or_true, true_and, and_true, Int.reduceEq, Int.reduceNeg, eq_self, reduceIte, if_true, if_false] at *; omega)) | (refine bleaf_f ?_; first | omega | (simp only [small, tiny, rng, decide_eq_true_eq, decide_eq_false_iff_not, true_or, or_true, true_and, and_true, Int.reduceEq, Int.reduceNeg, eq_self, reduceIte, if_true, if_false] at *; omega)) | (refine ileaf ?_; first | omega | (simp only [small, tiny, rng, decide_eq_true_eq, decide_eq_false_iff_not, true_or, or_true, true_and, and_true, Int.reduceEq, Int.reduceNeg, eq_self, reduceIte, if_true, if_false] at *; omega)) | (exfalso; omega) | (simp only [Prod.mk.injEq, AV.agg.injEq, AV.tup.injEq, List.cons.injEq, AV.int.injEq, AV.bool.injEq, and_true, true_and]; (repeat' apply And.intro) <;> first | with_reducible rfl | (simp []; done) | (simp []; omega) | omega | (simp only [small, tiny, rng, decide_eq_true_eq, decide_eq_false_iff_not, true_or, or_true, true_and, and_true, Int.reduceEq, Int.reduceNeg, eq_self, reduceIte, if_true, if_false] at *; omega) | (simp [small, tiny, rng, decide_eq_true_eq, decide_eq_false_iff_not, true_or, or_true, true_and, and_true, Int.reduceEq, Int.reduceNeg, eq_self, reduceIte, if_true, if_false, *]; done) | (simp [small, tiny, rng, decide_eq_true_eq, decide_eq_false_iff_not, true_or, or_true, true_and, and_true, Int.reduceEq, Int.reduceNeg, eq_self, reduceIte, if_true, if_false, *]; omega)) | (exfalso; simp only [small, tiny, rng, decide_eq_true_eq, decide_eq_false_iff_not, true_or, or_true, true_and, and_true, Int.reduceEq, Int.reduceNeg, eq_self, reduceIte, if_true, if_false] at *; omega) | (simp [small, tiny, rng, decide_eq_true_eq, decide_eq_false_iff_not, true_or, or_true, true_and, and_true, Int.reduceEq, Int.reduceNeg, eq_self, reduceIte, if_true, if_false] at *; done) | (simp [small, tiny, rng, decide_eq_true_eq, decide_eq_false_iff_not, true_or, or_true, true_and, and_true, Int.reduceEq, Int.reduceNeg, eq_self, reduceIte, if_true, if_false] at *; omega)
theorem r12e (p : Int) (l : List Int) (q : RK) (k : Int) (hl : pl l q) (hc : cls p l) (hm : prt k l l.length = []) (hR : Rests (En5 [g19.to, g21.to]) none1) : Body (En5 [g19.to, g21.to]) none1 Tryd.f12 [I p, ls l (rr q), I k] .nil (.bool true, .nil) := by
  have z1 : lim l.length ∧ rok l (rr q) := ⟨hl.1, rr_rok' hl.2⟩
  have hd : decide (cls p l) = true := by rw [decide_eq_true_eq]; exact hc
  have hz : ((prt k l l.length).length : Int) = 0 := by rw [hm]; rfl
  refine body_s ([Ans.o (Orc.val (22 : Nat) (AV.bool true) (H.mk [] [] [])), Ans.loop [(0 : Nat), (1 : Nat), (2 : Nat), (7 : Nat), (25 : Nat), (26 : Nat), (27 : Nat)] [Out.mk Unit (AX.exit (0 : Nat)) [(0 : Nat), (1 : Nat), (2 : Nat), (7 : Nat)] (fun x => True) (fun x => [I p, ls l (rr q), I k, acc (prt k l l.length)]) (fun x => hacc (prt k l l.length)) fun y => [Ans.o (Orc.b true), Ans.o (Orc.val (45 : Nat) (AV.bool true) (H.mk [] (tk (prt k l l.length)) []))]]]) (aCall (Sof [g19.to, g21.to]) (AV.fn (Fn.func (19 : Nat)) [] []) [I p, AV.sl (ints l) l.length (rr q)] (H.mk [] [] []) = some (AV.bool true, H.mk [] [] []) ∧ LoopS (Env.mk Tryd.prog (Sof [g19.to, g21.to]) (Pof (P := Tryd.prog) []) H.nil.base (300 : Nat)) (loopAt Tryd.f12 (0 : Nat)) (128 : Nat) [(0 : Nat), (1 : Nat), (2 : Nat), (7 : Nat), (25 : Nat), (26 : Nat), (27 : Nat)] [I p, AV.sl (ints l) l.length (rr q), I k, AV.sl [] (0 : Nat) Room.nil, AV.sl (ints l) l.length (rr q), I (↑l.length : Int), I (0 : Int)] (H.mk [] [] []) [Out.mk Unit (AX.exit (0 : Nat)) [(0 : Nat), (1 : Nat), (2 : Nat), (7 : Nat)] (fun x => True) (fun x => [I p, ls l (rr q), I k, acc (prt k l l.length)]) (fun x => hacc (prt k l l.length)) fun y => [Ans.o (Orc.b true), Ans.o (Orc.val (45 : Nat) (AV.bool true) (H.mk [] (tk (prt k l l.length)) []))]] ∧ (∀ (y : Unit), True → ∀ (u : Nat → AV), (↑(prt k l l.length).length : Int) = (0 : Int) ∧ aCall (Sof [g19.to, g21.to]) (AV.fn (Fn.func (21 : Nat)) [] []) [] (H.mk [] (tk (prt k l l.length)) []) = some (AV.bool true, H.mk [] (tk (prt k l l.length)) []) ∧ (AV.bool true, H.mk [] [] []) = (AV.bool true, H.mk [] [] [])) ∧ True) (by kernel_rfl) ?_
  refine And.intro (by exact acall_b (acall_hit (c := g19.to) (p, l, rr q) _ rfl z1) hd) ?_
  refine And.intro (by exact lp12 p k l (rr q) hR hc.2.2.1 z1.2) ?_
  refine And.intro ?_ ?_
  · skip
    intro y
    intro w1
    intro u
    refine And.intro (by first | assumption | omega | (simp only [small, tiny, rng, decide_eq_true_eq, decide_eq_false_iff_not, true_or, or_true, true_and, and_true, Int.reduceEq, Int.reduceNeg, eq_self, reduceIte, if_true, if_false] at *; omega) | (simp [small, tiny, rng, decide_eq_true_eq, decide_eq_false_iff_not, true_or, or_true, true_and, and_true, Int.reduceEq, Int.reduceNeg, eq_self, reduceIte, if_true, if_false] at *; done)) ?_
    refine And.intro (by exact acall_hit (c := g21.to) () _ rfl trivial) ?_
    first | with_reducible rfl | (refine bleaf_t ?_; first | omega | (simp only [small, tiny, rng, decide_eq_true_eq, decide_eq_false_iff_not, true_or, or_true, true_and, and_true, Int.reduceEq, Int.reduceNeg, eq_self, reduceIte, if_true, if_false] at *; omega)) | (refine bleaf_f ?_; first | omega | (simp only [small, tiny, rng, decide_eq_true_eq, decide_eq_false_iff_not, true_or, or_true, true_and, and_true, Int.reduceEq, Int.reduceNeg, eq_self, reduceIte, if_true, if_false] at *; omega)) | (refine ileaf ?_; first | omega | (simp only [small, tiny, rng, decide_eq_true_eq, decide_eq_false_iff_not, true_or, or_true, true_and, and_true, Int.reduceEq, Int.reduceNeg, eq_self, reduceIte, if_true, if_false] at *; omega)) | (exfalso; omega) | (simp only [Prod.mk.injEq, AV.agg.injEq, AV.tup.injEq, List.cons.injEq, AV.int.injEq, AV.bool.injEq, and_true, true_and]; (repeat' apply And.intro) <;> first | with_reducible rfl | (simp []; done) | (simp []; omega) | omega | (simp only [small, tiny, rng, decide_eq_true_eq, decide_eq_false_iff_not, true_or, or_true, true_and, and_true, Int.reduceEq, Int.reduceNeg, eq_self, reduceIte, if_true, if_false] at *; omega) | (simp [small, tiny, rng, decide_eq_true_eq, decide_eq_false_iff_not, true_or, or_true, true_and, and_true, Int.reduceEq, Int.reduceNeg, eq_self, reduceIte, if_true, if_false, *]; done) | (simp [small, tiny, rng, decide_eq_true_eq, decide_eq_false_iff_not, true_or, or_true, true_and, and_true, Int.reduceEq, Int.reduceNeg, eq_self, reduceIte, if_true, if_false, *]; omega)) | (exfalso; simp only [small, tiny, rng, decide_eq_true_eq, decide_eq_false_iff_not, true_or, or_true, true_and, and_true, Int.reduceEq, Int.reduceNeg, eq_self, reduceIte, if_true, if_false] at *; omega) | (simp [small, tiny, rng, decide_eq_true_eq, decide_eq_false_iff_not, true_or, or_true, true_and, and_true, Int.reduceEq, Int.reduceNeg, eq_self, reduceIte, if_true, if_false] at *; done) | (simp [small, tiny, rng, decide_eq_true_eq, decide_eq_false_iff_not, true_or, or_true, true_and, and_true, Int.reduceEq, Int.reduceNeg, eq_self, reduceIte, if_true, if_false] at *; omega)
  · skip
    trivial
end Go.Proofs.Lrn
