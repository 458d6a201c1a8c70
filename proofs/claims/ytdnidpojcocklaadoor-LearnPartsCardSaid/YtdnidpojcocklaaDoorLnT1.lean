/- Layer 4: the reference's learners. -/
import Derived.Test.YtdnidpojcocklaaDoorLnS0
import Derived.Test.YtdnidpojcocklaaDoorLnR
import Derived.KernelRfl
set_option linter.unusedSimpArgs false
set_option linter.unusedVariables false
set_option linter.unnecessarySimpa false
set_option maxHeartbeats 4000000
set_option maxRecDepth 100000
namespace Go.Proofs.Lrn
open Go Go.VM

theorem cb_or {f g : Nat → Bool} : ∀ n, (∀ i, i < n → ¬ (f i = true ∧ g i = true)) → cb (fun i => f i || g i) n = cb f n + cb g n
  | 0, _ => rfl
  | n + 1, h => by
    simp only [cb]
    rw [cb_or n (fun i hi => h i (by omega))]
    have := h n (by omega)
    cases hf : f n <;> cases hg : g n <;> simp_all <;> omega
theorem pc_list : ∀ (l : List Int), inL l → l.Nodup → cb (fun i => decide ((i : Int) ∈ l)) 32 = l.length
  | [], _, _ => by
    have : cb (fun i => decide ((i : Int) ∈ ([] : List Int))) 32 = cb (fun _ => false) 32 := cb_congr 32 (fun i _ => by simp)
    rw [this]; rfl
  | c :: l, h, hn => by
    obtain ⟨h0, h1⟩ := h c (by simp)
    obtain ⟨k, rfl⟩ : ∃ k : Nat, c = k := ⟨c.toNat, by omega⟩
    rw [List.nodup_cons] at hn
    have e : cb (fun i => decide ((i : Int) ∈ ((k : Int) :: l))) 32 = cb (fun i => decide (i = k) || decide ((i : Int) ∈ l)) 32 := cb_congr 32 (fun i _ => by
      rw [Bool.eq_iff_iff]
      simp only [List.mem_cons, decide_eq_true_eq, Bool.or_eq_true]
      constructor
      · rintro (h | h)
        · exact .inl (by omega)
        · exact .inr h
      · rintro (h | h)
        · exact .inl (by omega)
        · exact .inr h)
    rw [e, cb_or 32 (fun i _ hi => by simp only [decide_eq_true_eq] at hi; obtain ⟨rfl, h2⟩ := hi; exact hn.1 h2), cb_one, if_pos (by omega), pc_list l (fun c hc => h c (by simp [hc])) hn.2]
    simp; omega
/-- the number of a set's concepts is its list's length -/
theorem pc_len {l : List Int} (h : inL l) (hn : l.Nodup) : pc (sOf l) = l.length := by
  rw [← pc_list l h hn]
  exact cb_congr 32 (fun i hi => sOf_bit h hi)
theorem spl_nodup {l : List Int} (h : l.Nodup) (x y : Int) : (spl l x y).Nodup := h.filter _
abbrev lsn (l : List Int) (r : Room) : Prop := lst l r ∧ l.Nodup
@[simp] theorem lsn_wk {l : List Int} {r : Room} : lsn l r.wk ↔ lsn l r := by simp only [lsn, lst_wk]
theorem spl_lsn {l : List Int} {r : Room} (h : lsn l r) (x y : Int) : lsn (spl l x y) (rn (spl l x y)) := ⟨spl_lst h.1 x y, spl_nodup h.2 x y⟩
theorem pc_spl {l : List Int} {r : Room} (h : lsn l r) {x y : Int} (hx : is5 x) (hy : y = 0 ∨ y = 1) : pc (pt (sOf l) x y) = (spl l x y).length := by
  rw [← sOf_spl h.1.2 hx hy, pc_len (spl_in h.1.2) (spl_nodup h.2 x y)]
theorem ok35 : FokM Tryd.prog none1 35 Tryd.f35 := ⟨mixed, by kernel_rfl, by kernel_rfl, by kernel_rfl, by kernel_rfl⟩
theorem r35 (l : List Int) (r : Room) (x : Int) (hp : lsn l r ∧ is5 x) : Body ⟨Tryd.prog, Sof (P := Tryd.prog) [c57.to], Pof (P := Tryd.prog) [], H.nil.base, 300⟩ none1 Tryd.f35 [ls l r, I x] .nil (I (saV true 1 (sOf l) x), .nil) := by
  obtain ⟨hl, hx⟩ := hp
  have hq : (l.length ≤ 1000 ∧ rok l r) ∧ inL l ∧ is5 x := ⟨hl.1.1, hl.1.2, hx⟩
  have e0 := pc_spl hl hx (y := 0) (.inl rfl)
  have e1 := pc_spl hl hx (y := 1) (.inr rfl)
  by_cases h : ((spl l x 0).length : Int) < (spl l x 1).length
  · have e : saV true 1 (sOf l) x = 1 := by simp only [saV, saH, if_true]; rw [if_pos (by omega)]
    refine body_s ([Ans.o (Orc.val (7 : Nat) (AV.sl (ints (spl l x (1 : Int))) (spl l x (1 : Int)).length (rn (spl l x (1 : Int)))) (H.mk [] [] [])), Ans.o (Orc.val (11 : Nat) (AV.sl (ints (spl l x (0 : Int))) (spl l x (0 : Int)).length (rn (spl l x (0 : Int)))) (H.mk [] [] [])), Ans.o (Orc.b true)]) (aCall (Sof [c57.to]) (AV.fn (Fn.func (57 : Nat)) [] []) [AV.sl (ints l) l.length r, I x, I (1 : Int)] (H.mk [] [] []) = some (AV.sl (ints (spl l x (1 : Int))) (spl l x (1 : Int)).length (rn (spl l x (1 : Int))), H.mk [] [] []) ∧ aCall (Sof [c57.to]) (AV.fn (Fn.func (57 : Nat)) [] []) [AV.sl (ints l) l.length r, I x, I (0 : Int)] (H.mk [] [] []) = some (AV.sl (ints (spl l x (0 : Int))) (spl l x (0 : Int)).length (rn (spl l x (0 : Int))), H.mk [] [] []) ∧ (↑(spl l x (0 : Int)).length : Int) < (↑(spl l x (1 : Int)).length : Int) ∧ (I (1 : Int), H.mk [] [] []) = (I (saV true (1 : Int) (sOf l) x), H.mk [] [] [])) (by kernel_rfl) ?_
    refine And.intro (by first | exact acall_hit (c := c57.to) (l, r, x, 0) _ rfl hq | exact acall_hit (c := c57.to) (l, r, x, 1) _ rfl hq) ?_
    refine And.intro (by first | exact acall_hit (c := c57.to) (l, r, x, 0) _ rfl hq | exact acall_hit (c := c57.to) (l, r, x, 1) _ rfl hq) ?_
    refine And.intro (by first | assumption | omega | (simp only [small, tiny, rng, decide_eq_true_eq, decide_eq_false_iff_not, true_or, or_true, true_and, and_true, Int.reduceEq, Int.reduceNeg, eq_self, reduceIte, if_true, if_false] at *; omega) | (simp [small, tiny, rng, decide_eq_true_eq, decide_eq_false_iff_not, true_or, or_true, true_and, and_true, Int.reduceEq, Int.reduceNeg, eq_self, reduceIte, if_true, if_false] at *; done)) ?_
    rw [e]
  · have e : saV true 1 (sOf l) x = 0 := by simp only [saV, saH, if_true]; rw [if_neg (by omega)]
    have h : ((spl l x 1).length : Int) ≤ (spl l x 0).length := by omega
    refine body_s ([Ans.o (Orc.val (7 : Nat) (AV.sl (ints (spl l x (1 : Int))) (spl l x (1 : Int)).length (rn (spl l x (1 : Int)))) (H.mk [] [] [])), Ans.o (Orc.val (11 : Nat) (AV.sl (ints (spl l x (0 : Int))) (spl l x (0 : Int)).length (rn (spl l x (0 : Int)))) (H.mk [] [] [])), Ans.o (Orc.b false)]) (aCall (Sof [c57.to]) (AV.fn (Fn.func (57 : Nat)) [] []) [AV.sl (ints l) l.length r, I x, I (1 : Int)] (H.mk [] [] []) = some (AV.sl (ints (spl l x (1 : Int))) (spl l x (1 : Int)).length (rn (spl l x (1 : Int))), H.mk [] [] []) ∧ aCall (Sof [c57.to]) (AV.fn (Fn.func (57 : Nat)) [] []) [AV.sl (ints l) l.length r, I x, I (0 : Int)] (H.mk [] [] []) = some (AV.sl (ints (spl l x (0 : Int))) (spl l x (0 : Int)).length (rn (spl l x (0 : Int))), H.mk [] [] []) ∧ (↑(spl l x (1 : Int)).length : Int) ≤ (↑(spl l x (0 : Int)).length : Int) ∧ (I (0 : Int), H.mk [] [] []) = (I (saV true (1 : Int) (sOf l) x), H.mk [] [] [])) (by kernel_rfl) ?_
    refine And.intro (by first | exact acall_hit (c := c57.to) (l, r, x, 0) _ rfl hq | exact acall_hit (c := c57.to) (l, r, x, 1) _ rfl hq) ?_
    refine And.intro (by first | exact acall_hit (c := c57.to) (l, r, x, 0) _ rfl hq | exact acall_hit (c := c57.to) (l, r, x, 1) _ rfl hq) ?_
    refine And.intro (by first | assumption | omega | (simp only [small, tiny, rng, decide_eq_true_eq, decide_eq_false_iff_not, true_or, or_true, true_and, and_true, Int.reduceEq, Int.reduceNeg, eq_self, reduceIte, if_true, if_false] at *; omega) | (simp [small, tiny, rng, decide_eq_true_eq, decide_eq_false_iff_not, true_or, or_true, true_and, and_true, Int.reduceEq, Int.reduceNeg, eq_self, reduceIte, if_true, if_false] at *; done)) ?_
    rw [e]
noncomputable def c35 : PCtr Tryd.prog := sctr ok35 (X := List Int × Room × Int) (fun x => [ls x.1 x.2.1, I x.2.2]) (fun x => lsn x.1 x.2.1 ∧ is5 x.2.2) (fun x => I (saV true 1 (sOf x.1) x.2.2)) (by intro x y e _ _; simp at e; simp [e]) (fun x => by simp [AV.bnds, AV.bnd, AV.wk, rm_wk_bnd]) (fun x => by first | rfl | (simp [AV.bnd, rm_wk_bnd]; done) | simp [AV.bnd, AV.bnds, Room.bnd, rm_wk_bnd]) (fun x hx => ⟨_, _, _, .pure c57 (.nil), r35 (x.1) (x.2.1).wk (x.2.2) (by first | exact hx | (simp only [rok_wk]; exact hx) | (simp only [rok_wk, lst_wk]; exact hx) | (simp only [rok_wk, lst_wk, lsn_wk]; exact hx))⟩)
theorem dimV_pos {p : Int} {b : BitVec 32} (h : b ≠ 0#32) : 0 ≤ dimV p b := by
  rw [dimV_eq h]
  exact (dmL_bd (K := 33) (by omega) (fun c _ => by have := dimV_bd p c; omega) _).1
theorem cbit_01 (c x : Int) : cbit c x = 0 ∨ cbit c x = 1 := by
  have : c.toNat / 2 ^ x.toNat % 2 < 2 := Nat.mod_lt _ (by decide)
  simp only [cbit]; omega
theorem spl_none {l : List Int} {x : Int} (h0 : (spl l x 0).length = 0) (h1 : (spl l x 1).length = 0) : l = [] := by
  cases l with
  | nil => rfl
  | cons c t =>
    have a0 := List.length_eq_zero_iff.1 h0
    have a1 := List.length_eq_zero_iff.1 h1
    rcases cbit_01 c x with h | h
    · have : c ∈ spl (c :: t) x 0 := spl_mem.2 ⟨by simp, h⟩
      rw [a0] at this; cases this
    · have : c ∈ spl (c :: t) x 1 := spl_mem.2 ⟨by simp, h⟩
      rw [a1] at this; cases this
theorem dim_nil {p : Int} {l : List Int} (h : (l.length : Int) = 0) : dimV p (sOf l) = -1 := by
  rw [List.length_eq_zero_iff.1 (by omega : l.length = 0)]; rfl
theorem dim_some {p : Int} {l : List Int} (hl : inL l) (h : (l.length : Int) ≠ 0) : 0 ≤ dimV p (sOf l) := dimV_pos (fun e => h (by rw [(sOf_nil hl).1 e]; rfl))
theorem ok34 : FokM Tryd.prog none1 34 Tryd.f34 := ⟨mixed, by kernel_rfl, by kernel_rfl, by kernel_rfl, by kernel_rfl⟩
theorem r34 (p : Int) (l : List Int) (r : Room) (x : Int) (hp : p5 p ∧ (lst l r ∧ l ≠ []) ∧ is5 x) : Body ⟨Tryd.prog, Sof (P := Tryd.prog) [c57.to, c28.to], Pof (P := Tryd.prog) [], H.nil.base, 300⟩ none1 Tryd.f34 [I p, ls l r, I x] .nil (I (saV false p (sOf l) x), .nil) := by
  obtain ⟨h5, ⟨hl, hne⟩, hx⟩ := hp
  have hq : (l.length ≤ 1000 ∧ rok l r) ∧ inL l ∧ is5 x := ⟨hl.1, hl.2, hx⟩
  have e0 := sOf_spl hl.2 hx (y := 0) (.inl rfl)
  have e1 := sOf_spl hl.2 hx (y := 1) (.inr rfl)
  have es : saV false p (sOf l) x = if dimV p (sOf (spl l x 0)) < dimV p (sOf (spl l x 1)) then 1 else 0 := by rw [e0, e1]; rfl
  have q0 : p5 p ∧ lst (spl l x 0) (rn (spl l x 0)) := ⟨h5, spl_lst hl _ _⟩
  have q1 : p5 p ∧ lst (spl l x 1) (rn (spl l x 1)) := ⟨h5, spl_lst hl _ _⟩
  by_cases a0 : ((spl l x 0).length : Int) = 0
  · have a1 : ((spl l x 1).length : Int) ≠ 0 := fun h => hne (spl_none (x := x) (by omega) (by omega))
    have e : saV false p (sOf l) x = 1 := by
      rw [es, if_pos]
      have := dim_nil (p := p) a0
      have := dim_some (p := p) (spl_in hl.2) a1
      omega
    refine body_s ([Ans.o (Orc.val (11 : Nat) (AV.sl (ints (spl l x (0 : Int))) (spl l x (0 : Int)).length (rn (spl l x (0 : Int)))) (H.mk [] [] [])), Ans.o (Orc.val (14 : Nat) (AV.sl (ints (spl l x (1 : Int))) (spl l x (1 : Int)).length (rn (spl l x (1 : Int)))) (H.mk [] [] [])), Ans.o (Orc.b true)]) (aCall (Sof [c57.to, c28.to]) (AV.fn (Fn.func (57 : Nat)) [] []) [AV.sl (ints l) l.length r, I x, I (0 : Int)] (H.mk [] [] []) = some (AV.sl (ints (spl l x (0 : Int))) (spl l x (0 : Int)).length (rn (spl l x (0 : Int))), H.mk [] [] []) ∧ aCall (Sof [c57.to, c28.to]) (AV.fn (Fn.func (57 : Nat)) [] []) [AV.sl (ints l) l.length r, I x, I (1 : Int)] (H.mk [] [] []) = some (AV.sl (ints (spl l x (1 : Int))) (spl l x (1 : Int)).length (rn (spl l x (1 : Int))), H.mk [] [] []) ∧ (↑(spl l x (0 : Int)).length : Int) = (0 : Int) ∧ (I (1 : Int), H.mk [] [] []) = (I (saV false p (sOf l) x), H.mk [] [] [])) (by kernel_rfl) ?_
    refine And.intro (by first | exact acall_hit (c := c57.to) (l, r, x, 0) _ rfl hq | exact acall_hit (c := c57.to) (l, r, x, 1) _ rfl hq) ?_
    refine And.intro (by first | exact acall_hit (c := c57.to) (l, r, x, 0) _ rfl hq | exact acall_hit (c := c57.to) (l, r, x, 1) _ rfl hq) ?_
    refine And.intro (by first | assumption | omega | (simp only [small, tiny, rng, decide_eq_true_eq, decide_eq_false_iff_not, true_or, or_true, true_and, and_true, Int.reduceEq, Int.reduceNeg, eq_self, reduceIte, if_true, if_false] at *; omega) | (simp [small, tiny, rng, decide_eq_true_eq, decide_eq_false_iff_not, true_or, or_true, true_and, and_true, Int.reduceEq, Int.reduceNeg, eq_self, reduceIte, if_true, if_false] at *; done)) ?_
    rw [e]
  · have d0 := dim_some (p := p) (spl_in hl.2) a0
    have a0 : ((spl l x 0).length : Int) ≠ 0 := a0
    by_cases a1 : (0 : Int) < (spl l x 1).length
    · by_cases hd : dimV p (sOf (spl l x 0)) < dimV p (sOf (spl l x 1))
      · have e : saV false p (sOf l) x = 1 := by rw [es, if_pos hd]
        refine body_s ([Ans.o (Orc.val (11 : Nat) (AV.sl (ints (spl l x (0 : Int))) (spl l x (0 : Int)).length (rn (spl l x (0 : Int)))) (H.mk [] [] [])), Ans.o (Orc.val (14 : Nat) (AV.sl (ints (spl l x (1 : Int))) (spl l x (1 : Int)).length (rn (spl l x (1 : Int)))) (H.mk [] [] [])), Ans.o (Orc.b false), Ans.o (Orc.b true), Ans.o (Orc.val (25 : Nat) (I (dimV p (sOf (spl l x (1 : Int))))) (H.mk [] [] [])), Ans.o (Orc.val (28 : Nat) (I (dimV p (sOf (spl l x (0 : Int))))) (H.mk [] [] [])), Ans.o (Orc.b true)]) (aCall (Sof [c57.to, c28.to]) (AV.fn (Fn.func (57 : Nat)) [] []) [AV.sl (ints l) l.length r, I x, I (0 : Int)] (H.mk [] [] []) = some (AV.sl (ints (spl l x (0 : Int))) (spl l x (0 : Int)).length (rn (spl l x (0 : Int))), H.mk [] [] []) ∧ aCall (Sof [c57.to, c28.to]) (AV.fn (Fn.func (57 : Nat)) [] []) [AV.sl (ints l) l.length r, I x, I (1 : Int)] (H.mk [] [] []) = some (AV.sl (ints (spl l x (1 : Int))) (spl l x (1 : Int)).length (rn (spl l x (1 : Int))), H.mk [] [] []) ∧ (↑(spl l x (0 : Int)).length : Int) ≠ (0 : Int) ∧ (0 : Int) < (↑(spl l x (1 : Int)).length : Int) ∧ aCall (Sof [c57.to, c28.to]) (AV.fn (Fn.func (28 : Nat)) [] []) [I p, AV.sl (ints (spl l x (1 : Int))) (spl l x (1 : Int)).length (rn (spl l x (1 : Int)))] (H.mk [] [] []) = some (I (dimV p (sOf (spl l x (1 : Int)))), H.mk [] [] []) ∧ aCall (Sof [c57.to, c28.to]) (AV.fn (Fn.func (28 : Nat)) [] []) [I p, AV.sl (ints (spl l x (0 : Int))) (spl l x (0 : Int)).length (rn (spl l x (0 : Int)))] (H.mk [] [] []) = some (I (dimV p (sOf (spl l x (0 : Int)))), H.mk [] [] []) ∧ dimV p (sOf (spl l x (0 : Int))) < dimV p (sOf (spl l x (1 : Int))) ∧ (I (1 : Int), H.mk [] [] []) = (I (saV false p (sOf l) x), H.mk [] [] [])) (by kernel_rfl) ?_
        refine And.intro (by first | exact acall_hit (c := c57.to) (l, r, x, 0) _ rfl hq | exact acall_hit (c := c57.to) (l, r, x, 1) _ rfl hq) ?_
        refine And.intro (by first | exact acall_hit (c := c57.to) (l, r, x, 0) _ rfl hq | exact acall_hit (c := c57.to) (l, r, x, 1) _ rfl hq) ?_
        refine And.intro (by first | assumption | omega | (simp only [small, tiny, rng, decide_eq_true_eq, decide_eq_false_iff_not, true_or, or_true, true_and, and_true, Int.reduceEq, Int.reduceNeg, eq_self, reduceIte, if_true, if_false] at *; omega) | (simp [small, tiny, rng, decide_eq_true_eq, decide_eq_false_iff_not, true_or, or_true, true_and, and_true, Int.reduceEq, Int.reduceNeg, eq_self, reduceIte, if_true, if_false] at *; done)) ?_
        refine And.intro (by first | assumption | omega | (simp only [small, tiny, rng, decide_eq_true_eq, decide_eq_false_iff_not, true_or, or_true, true_and, and_true, Int.reduceEq, Int.reduceNeg, eq_self, reduceIte, if_true, if_false] at *; omega) | (simp [small, tiny, rng, decide_eq_true_eq, decide_eq_false_iff_not, true_or, or_true, true_and, and_true, Int.reduceEq, Int.reduceNeg, eq_self, reduceIte, if_true, if_false] at *; done)) ?_
        refine And.intro (by first | exact acall_hit (c := c28.to) (p, spl l x 0, rn (spl l x 0)) _ rfl q0 | exact acall_hit (c := c28.to) (p, spl l x 1, rn (spl l x 1)) _ rfl q1) ?_
        refine And.intro (by first | exact acall_hit (c := c28.to) (p, spl l x 0, rn (spl l x 0)) _ rfl q0 | exact acall_hit (c := c28.to) (p, spl l x 1, rn (spl l x 1)) _ rfl q1) ?_
        refine And.intro (by first | assumption | omega | (simp only [small, tiny, rng, decide_eq_true_eq, decide_eq_false_iff_not, true_or, or_true, true_and, and_true, Int.reduceEq, Int.reduceNeg, eq_self, reduceIte, if_true, if_false] at *; omega) | (simp [small, tiny, rng, decide_eq_true_eq, decide_eq_false_iff_not, true_or, or_true, true_and, and_true, Int.reduceEq, Int.reduceNeg, eq_self, reduceIte, if_true, if_false] at *; done)) ?_
        rw [e]
      · have e : saV false p (sOf l) x = 0 := by rw [es, if_neg hd]
        have hd : dimV p (sOf (spl l x 1)) ≤ dimV p (sOf (spl l x 0)) := by omega
        refine body_s ([Ans.o (Orc.val (11 : Nat) (AV.sl (ints (spl l x (0 : Int))) (spl l x (0 : Int)).length (rn (spl l x (0 : Int)))) (H.mk [] [] [])), Ans.o (Orc.val (14 : Nat) (AV.sl (ints (spl l x (1 : Int))) (spl l x (1 : Int)).length (rn (spl l x (1 : Int)))) (H.mk [] [] [])), Ans.o (Orc.b false), Ans.o (Orc.b true), Ans.o (Orc.val (25 : Nat) (I (dimV p (sOf (spl l x (1 : Int))))) (H.mk [] [] [])), Ans.o (Orc.val (28 : Nat) (I (dimV p (sOf (spl l x (0 : Int))))) (H.mk [] [] [])), Ans.o (Orc.b false)]) (aCall (Sof [c57.to, c28.to]) (AV.fn (Fn.func (57 : Nat)) [] []) [AV.sl (ints l) l.length r, I x, I (0 : Int)] (H.mk [] [] []) = some (AV.sl (ints (spl l x (0 : Int))) (spl l x (0 : Int)).length (rn (spl l x (0 : Int))), H.mk [] [] []) ∧ aCall (Sof [c57.to, c28.to]) (AV.fn (Fn.func (57 : Nat)) [] []) [AV.sl (ints l) l.length r, I x, I (1 : Int)] (H.mk [] [] []) = some (AV.sl (ints (spl l x (1 : Int))) (spl l x (1 : Int)).length (rn (spl l x (1 : Int))), H.mk [] [] []) ∧ (↑(spl l x (0 : Int)).length : Int) ≠ (0 : Int) ∧ (0 : Int) < (↑(spl l x (1 : Int)).length : Int) ∧ aCall (Sof [c57.to, c28.to]) (AV.fn (Fn.func (28 : Nat)) [] []) [I p, AV.sl (ints (spl l x (1 : Int))) (spl l x (1 : Int)).length (rn (spl l x (1 : Int)))] (H.mk [] [] []) = some (I (dimV p (sOf (spl l x (1 : Int)))), H.mk [] [] []) ∧ aCall (Sof [c57.to, c28.to]) (AV.fn (Fn.func (28 : Nat)) [] []) [I p, AV.sl (ints (spl l x (0 : Int))) (spl l x (0 : Int)).length (rn (spl l x (0 : Int)))] (H.mk [] [] []) = some (I (dimV p (sOf (spl l x (0 : Int)))), H.mk [] [] []) ∧ dimV p (sOf (spl l x (1 : Int))) ≤ dimV p (sOf (spl l x (0 : Int))) ∧ (I (0 : Int), H.mk [] [] []) = (I (saV false p (sOf l) x), H.mk [] [] [])) (by kernel_rfl) ?_
        refine And.intro (by first | exact acall_hit (c := c57.to) (l, r, x, 0) _ rfl hq | exact acall_hit (c := c57.to) (l, r, x, 1) _ rfl hq) ?_
        refine And.intro (by first | exact acall_hit (c := c57.to) (l, r, x, 0) _ rfl hq | exact acall_hit (c := c57.to) (l, r, x, 1) _ rfl hq) ?_
        refine And.intro (by first | assumption | omega | (simp only [small, tiny, rng, decide_eq_true_eq, decide_eq_false_iff_not, true_or, or_true, true_and, and_true, Int.reduceEq, Int.reduceNeg, eq_self, reduceIte, if_true, if_false] at *; omega) | (simp [small, tiny, rng, decide_eq_true_eq, decide_eq_false_iff_not, true_or, or_true, true_and, and_true, Int.reduceEq, Int.reduceNeg, eq_self, reduceIte, if_true, if_false] at *; done)) ?_
        refine And.intro (by first | assumption | omega | (simp only [small, tiny, rng, decide_eq_true_eq, decide_eq_false_iff_not, true_or, or_true, true_and, and_true, Int.reduceEq, Int.reduceNeg, eq_self, reduceIte, if_true, if_false] at *; omega) | (simp [small, tiny, rng, decide_eq_true_eq, decide_eq_false_iff_not, true_or, or_true, true_and, and_true, Int.reduceEq, Int.reduceNeg, eq_self, reduceIte, if_true, if_false] at *; done)) ?_
        refine And.intro (by first | exact acall_hit (c := c28.to) (p, spl l x 0, rn (spl l x 0)) _ rfl q0 | exact acall_hit (c := c28.to) (p, spl l x 1, rn (spl l x 1)) _ rfl q1) ?_
        refine And.intro (by first | exact acall_hit (c := c28.to) (p, spl l x 0, rn (spl l x 0)) _ rfl q0 | exact acall_hit (c := c28.to) (p, spl l x 1, rn (spl l x 1)) _ rfl q1) ?_
        refine And.intro (by first | assumption | omega | (simp only [small, tiny, rng, decide_eq_true_eq, decide_eq_false_iff_not, true_or, or_true, true_and, and_true, Int.reduceEq, Int.reduceNeg, eq_self, reduceIte, if_true, if_false] at *; omega) | (simp [small, tiny, rng, decide_eq_true_eq, decide_eq_false_iff_not, true_or, or_true, true_and, and_true, Int.reduceEq, Int.reduceNeg, eq_self, reduceIte, if_true, if_false] at *; done)) ?_
        rw [e]
    · have a1 : ((spl l x 1).length : Int) ≤ 0 := by omega
      have e : saV false p (sOf l) x = 0 := by
        rw [es, if_neg]
        have := dim_nil (p := p) (l := spl l x 1) (by omega)
        omega
      refine body_s ([Ans.o (Orc.val (11 : Nat) (AV.sl (ints (spl l x (0 : Int))) (spl l x (0 : Int)).length (rn (spl l x (0 : Int)))) (H.mk [] [] [])), Ans.o (Orc.val (14 : Nat) (AV.sl (ints (spl l x (1 : Int))) (spl l x (1 : Int)).length (rn (spl l x (1 : Int)))) (H.mk [] [] [])), Ans.o (Orc.b false), Ans.o (Orc.b false)]) (aCall (Sof [c57.to, c28.to]) (AV.fn (Fn.func (57 : Nat)) [] []) [AV.sl (ints l) l.length r, I x, I (0 : Int)] (H.mk [] [] []) = some (AV.sl (ints (spl l x (0 : Int))) (spl l x (0 : Int)).length (rn (spl l x (0 : Int))), H.mk [] [] []) ∧ aCall (Sof [c57.to, c28.to]) (AV.fn (Fn.func (57 : Nat)) [] []) [AV.sl (ints l) l.length r, I x, I (1 : Int)] (H.mk [] [] []) = some (AV.sl (ints (spl l x (1 : Int))) (spl l x (1 : Int)).length (rn (spl l x (1 : Int))), H.mk [] [] []) ∧ (↑(spl l x (0 : Int)).length : Int) ≠ (0 : Int) ∧ (↑(spl l x (1 : Int)).length : Int) ≤ (0 : Int) ∧ (I (0 : Int), H.mk [] [] []) = (I (saV false p (sOf l) x), H.mk [] [] [])) (by kernel_rfl) ?_
      refine And.intro (by first | exact acall_hit (c := c57.to) (l, r, x, 0) _ rfl hq | exact acall_hit (c := c57.to) (l, r, x, 1) _ rfl hq) ?_
      refine And.intro (by first | exact acall_hit (c := c57.to) (l, r, x, 0) _ rfl hq | exact acall_hit (c := c57.to) (l, r, x, 1) _ rfl hq) ?_
      refine And.intro (by first | assumption | omega | (simp only [small, tiny, rng, decide_eq_true_eq, decide_eq_false_iff_not, true_or, or_true, true_and, and_true, Int.reduceEq, Int.reduceNeg, eq_self, reduceIte, if_true, if_false] at *; omega) | (simp [small, tiny, rng, decide_eq_true_eq, decide_eq_false_iff_not, true_or, or_true, true_and, and_true, Int.reduceEq, Int.reduceNeg, eq_self, reduceIte, if_true, if_false] at *; done)) ?_
      refine And.intro (by first | assumption | omega | (simp only [small, tiny, rng, decide_eq_true_eq, decide_eq_false_iff_not, true_or, or_true, true_and, and_true, Int.reduceEq, Int.reduceNeg, eq_self, reduceIte, if_true, if_false] at *; omega) | (simp [small, tiny, rng, decide_eq_true_eq, decide_eq_false_iff_not, true_or, or_true, true_and, and_true, Int.reduceEq, Int.reduceNeg, eq_self, reduceIte, if_true, if_false] at *; done)) ?_
      rw [e]
noncomputable def c34 : PCtr Tryd.prog := sctr ok34 (X := Int × List Int × Room × Int) (fun x => [I x.1, ls x.2.1 x.2.2.1, I x.2.2.2]) (fun x => p5 x.1 ∧ (lst x.2.1 x.2.2.1 ∧ x.2.1 ≠ []) ∧ is5 x.2.2.2) (fun x => I (saV false x.1 (sOf x.2.1) x.2.2.2)) (by intro x y e _ _; simp at e; simp [e]) (fun x => by simp [AV.bnds, AV.bnd, AV.wk, rm_wk_bnd]) (fun x => by first | rfl | (simp [AV.bnd, rm_wk_bnd]; done) | simp [AV.bnd, AV.bnds, Room.bnd, rm_wk_bnd]) (fun x hx => ⟨_, _, _, .pure c57 (.pure c28 (.nil)), r34 (x.1) (x.2.1) (x.2.2.1).wk (x.2.2.2) (by first | exact hx | (simp only [rok_wk]; exact hx) | (simp only [rok_wk, lst_wk]; exact hx) | (simp only [rok_wk, lst_wk, lsn_wk]; exact hx))⟩)
theorem cls_lt {p : Int} {l : List Int} (h : cls p l) : ∀ (d i : Nat), i + d + 1 < l.length → l.getD i i0 < l.getD (i + d + 1) i0
  | 0, i, hi => by
    have := (h.2.2.2 (i + 1) hi).2 (by omega)
    rw [Nat.add_sub_cancel] at this; exact this
  | d + 1, i, hi => by
    have h1 := cls_lt h d i (by omega)
    have h2 := (h.2.2.2 (i + (d + 1) + 1) hi).2 (by omega)
    rw [Nat.add_sub_cancel] at h2
    exact Int.lt_trans h1 h2
theorem cls_nodup {p : Int} {l : List Int} (h : cls p l) : l.Nodup := by
  rw [List.Nodup, List.pairwise_iff_getElem]
  intro i j hi hj hij
  have := cls_lt h (j - i - 1) i (by omega)
  rw [show i + (j - i - 1) + 1 = j by omega] at this
  have e1 : l.getD i i0 = l[i] := by simp [List.getD_eq_getElem?_getD, List.getElem?_eq_getElem hi]
  have e2 : l.getD j i0 = l[j] := by simp [List.getD_eq_getElem?_getD, List.getElem?_eq_getElem hj]
  rw [e1, e2] at this
  exact Int.ne_of_lt this
theorem cls_lsn {p : Int} {l : List Int} {r : Room} (h : cls p l) (hr : rok l r) : lsn l r := ⟨⟨⟨by have := h.2.2.1; omega, hr⟩, cls_in h⟩, cls_nodup h⟩
end Go.Proofs.Lrn
