/- Layer 4: the dimension. -/
import Derived.Test.YtdnidpojcocklaaDoorLnH
import Derived.Test.YtdnidpojcocklaaDoorLnC
import Derived.KernelRfl
set_option linter.unusedSimpArgs false
set_option linter.unusedVariables false
set_option linter.unnecessarySimpa false
set_option maxHeartbeats 4000000
set_option maxRecDepth 100000
namespace Go.Proofs.Lrn
open Go Go.VM

theorem cb_lt {f g : Nat → Bool} : ∀ n, (∀ i, i < n → f i = true → g i = true) → (∃ i, i < n ∧ g i = true ∧ f i = false) → cb f n < cb g n
  | 0, _, ⟨i, h, _⟩ => by omega
  | n + 1, hi, ⟨i, h1, h2, h3⟩ => by
    simp only [cb]
    have hle : (f n).toNat ≤ (g n).toNat := by
      have := hi n (by omega)
      cases hf : f n <;> cases hg : g n <;> simp_all
    have hcb : ∀ m, m ≤ n → cb f m ≤ cb g m := by
      intro m
      induction m with
      | zero => intro _; exact Nat.le_refl 0
      | succ m ih =>
        intro hm
        simp only [cb]
        have h4 := ih (by omega)
        have := hi m (by omega)
        cases hf : f m <;> cases hg : g m <;> simp_all <;> omega
    by_cases he : i = n
    · subst he
      rw [h2, h3]
      have := hcb i (Nat.le_refl _)
      simp; omega
    · have := cb_lt n (fun j hj => hi j (by omega)) ⟨i, by omega, h2, h3⟩
      omega
theorem pc_zero {b : BitVec 32} (h : pc b = 0) : b = 0#32 := by
  apply BitVec.eq_of_getLsbD_eq
  intro i hi
  cases hb : b.getLsbD i
  · simp
  · have := cb_lt (f := fun _ => false) (g := fun i => b.getLsbD i) 32 (fun _ _ h => by cases h) ⟨i, hi, hb, rfl⟩
    have e : cb (fun i => b.getLsbD i) 32 = 0 := h
    omega
theorem pc_le (b : BitVec 32) : pc b ≤ 32 := cb_le _ 32
theorem pc_and_lt {a h : BitVec 32} (hne : a &&& h ≠ a) : pc (a &&& h) < pc a := by
  apply cb_lt 32
  · intro i _ hi; rw [BitVec.getLsbD_and] at hi; simp at hi; exact hi.1
  · refine Classical.byContradiction fun hc => hne ?_
    apply BitVec.eq_of_getLsbD_eq
    intro i hi
    cases hb : (a &&& h).getLsbD i <;> cases ha : a.getLsbD i
    · rfl
    · exact absurd ⟨i, hi, ha, hb⟩ hc
    · rw [BitVec.getLsbD_and, ha] at hb; simp at hb
    · rfl
theorem pt_lt {b : BitVec 32} {x y : Int} (h : dfb b x = true) : pc (pt b x y) < pc b := by
  simp only [dfb, Bool.and_eq_true, bne_iff_ne, ne_eq] at h
  simp only [pt]
  split
  · exact pc_and_lt h.2
  · apply pc_and_lt
    intro he
    apply h.1
    apply BitVec.eq_of_getLsbD_eq
    intro i hi
    have := congrArg (fun z => z.getLsbD i) he
    simp only [BitVec.getLsbD_and, BitVec.getLsbD_not] at this ⊢
    simp [hi] at this ⊢
    exact this
def dmL (f : BitVec 32 → Int) (b : BitVec 32) : Nat → Int
  | 0 => 0
  | j + 1 => if dfb b (j : Int) then pick2 true (dmL f b j) (1 + pick2 false (f (pt b (j : Int) 0)) (f (pt b (j : Int) 1))) else dmL f b j
def dimF (p : Int) : Nat → BitVec 32 → Int
  | 0, _ => -1
  | n + 1, b => if b = 0#32 then -1 else dmL (dimF p n) b p.toNat
theorem dmL_congr {f g : BitVec 32 → Int} {b : BitVec 32} (h : ∀ c, pc c < pc b → f c = g c) : ∀ j, dmL f b j = dmL g b j
  | 0 => rfl
  | j + 1 => by
    simp only [dmL]
    rw [dmL_congr h j]
    split
    · rename_i hd; rw [h _ (pt_lt hd), h _ (pt_lt hd)]
    · rfl
theorem dimF_stable (p : Int) : ∀ n m b, pc b ≤ n → pc b ≤ m → dimF p n b = dimF p m b
  | 0, m, b, h, _ => by
    have := pc_zero (Nat.le_zero.1 h)
    subst this
    cases m <;> simp [dimF]
  | n + 1, 0, b, _, h => by
    have := pc_zero (Nat.le_zero.1 h)
    subst this
    simp [dimF]
  | n + 1, m + 1, b, h, h' => by
    simp only [dimF]
    split
    · rfl
    · exact dmL_congr (fun c hc => dimF_stable p n m c (by omega) (by omega)) _
/-- the dimension -/
def dimV (p : Int) (b : BitVec 32) : Int := dimF p 32 b
theorem dimV_eq {p : Int} {b : BitVec 32} (h : b ≠ 0#32) : dimV p b = dmL (dimV p) b p.toNat := by
  show dimF p (31 + 1) b = _
  simp only [dimF, if_neg h]
  have := pc_le b
  exact dmL_congr (fun c hc => dimF_stable p 31 32 c (by omega) (by omega)) _
theorem dimV_0 (p : Int) : dimV p 0#32 = -1 := rfl
theorem dmL_bd {f : BitVec 32 → Int} {b : BitVec 32} {K : Int} (hK : 0 ≤ K) (h : ∀ c, pc c < pc b → -1 ≤ f c ∧ f c + 1 ≤ K) : ∀ j, 0 ≤ dmL f b j ∧ dmL f b j ≤ K
  | 0 => ⟨Int.le_refl 0, hK⟩
  | j + 1 => by
    have ih := dmL_bd hK h j
    simp only [dmL]
    split
    · rename_i hd
      have h0 := h _ (pt_lt (y := 0) hd)
      have h1 := h _ (pt_lt (y := 1) hd)
      simp only [pick2, if_true, Bool.false_eq_true, if_false]
      split <;> split <;> omega
    · exact ih
theorem dimF_bd (p : Int) : ∀ n b, -1 ≤ dimF p n b ∧ dimF p n b ≤ n
  | 0, b => by simp [dimF]
  | n + 1, b => by
    simp only [dimF]
    split
    · omega
    · have := dmL_bd (f := dimF p n) (b := b) (K := (n + 1 : Nat)) (by omega) (fun c _ => by have := dimF_bd p n c; omega) p.toNat
      omega
theorem dimV_bd (p : Int) (b : BitVec 32) : -1 ≤ dimV p b ∧ dimV p b ≤ 32 := dimF_bd p 32 b

abbrev C58ok (n : Nat) : Prop := ∀ p b, p5 p ∧ pc b ≤ n → CallOk Tryd.prog 58 [cA p b] .nil (I (dimV p b)) .nil
theorem ok58 : FokM Tryd.prog none1 58 Tryd.f58 := ⟨mixed, by kernel_rfl, by kernel_rfl, by kernel_rfl, by kernel_rfl⟩
theorem ok78 : FokM Tryd.prog none1 78 Tryd.f78 := ⟨mixed, by kernel_rfl, by kernel_rfl, by kernel_rfl, by kernel_rfl⟩
noncomputable def C58 (n : Nat) (ih : C58ok n) : PCtr Tryd.prog where
  f := 58
  X := Int × BitVec 32
  args q := [cA q.1 q.2]
  pre q := p5 q.1 ∧ pc q.2 ≤ n
  v q := I (dimV q.1 q.2)
  det := by
    rintro ⟨p, b⟩ ⟨p', b'⟩ e _ _
    simp at e
    simp [e]
  ok := by
    rintro ⟨p, b⟩ h
    exact ⟨ok58.call, fun H => pure_call (ih p b h) rfl rfl H⟩
abbrev C78ok (n : Nat) : Prop := ∀ p b x, (p5 p ∧ pc b ≤ n + 1) ∧ is5 x ∧ dfb b x = true → CallOk Tryd.prog 78 [cA p b, I x] .nil (I (pick2 false (dimV p (pt b x 0)) (dimV p (pt b x 1)))) .nil
theorem r78 (n : Nat) (ih : C58ok n) (p : Int) (b : BitVec 32) (x : Int) (hp : (p5 p ∧ pc b ≤ n + 1) ∧ is5 x ∧ dfb b x = true) : Body (En4 [c75.to, (C58 n ih).to]) none1 Tryd.f78 [cA p b, I x] .nil (I (pick2 false (dimV p (pt b x 0)) (dimV p (pt b x 1))), .nil) := by
  obtain ⟨⟨q1, q2⟩, q3, q4⟩ := hp
  have l0 := pt_lt (y := 0) q4
  have l1 := pt_lt (y := 1) q4
  have d0 : p5 p ∧ pc (pt b x 0) ≤ n := ⟨q1, by omega⟩
  have d1 : p5 p ∧ pc (pt b x 1) ≤ n := ⟨q1, by omega⟩
  have z0 : is5 x ∧ ((0 : Int) = 0 ∨ (0 : Int) = 1) := ⟨q3, .inl rfl⟩
  have z1 : is5 x ∧ ((1 : Int) = 0 ∨ (1 : Int) = 1) := ⟨q3, .inr rfl⟩
  refine body_s ([Ans.o (Orc.val 7 (AV.agg [I p, AV.int IntKind.u32 (↑(pt b x (0 : Int)).toNat : Int)]) (H.mk [[I p, AV.int IntKind.u32 (↑b.toNat : Int)]] [] [])), Ans.o (Orc.val 8 (I (dimV p (pt b x (0 : Int)))) (H.mk [[I p, AV.int IntKind.u32 (↑b.toNat : Int)]] [] [])), Ans.o (Orc.val 11 (AV.agg [I p, AV.int IntKind.u32 (↑(pt b x (1 : Int)).toNat : Int)]) (H.mk [[I p, AV.int IntKind.u32 (↑b.toNat : Int)]] [] [])), Ans.o (Orc.val 12 (I (dimV p (pt b x (1 : Int)))) (H.mk [[I p, AV.int IntKind.u32 (↑b.toNat : Int)]] [] []))]) (aCall (Sof [c75.to, (C58 n ih).to]) (AV.fn (Fn.func (75 : Nat)) [] []) [AV.agg [I p, AV.int IntKind.u32 (↑b.toNat : Int)], I x, I 0] (H.mk [[I p, AV.int IntKind.u32 (↑b.toNat : Int)]] [] []) = some (AV.agg [I p, AV.int IntKind.u32 (↑(pt b x (0 : Int)).toNat : Int)], H.mk [[I p, AV.int IntKind.u32 (↑b.toNat : Int)]] [] []) ∧ aCall (Sof [c75.to, (C58 n ih).to]) (AV.fn (Fn.func (58 : Nat)) [] []) [AV.agg [I p, AV.int IntKind.u32 (↑(pt b x (0 : Int)).toNat : Int)]] (H.mk [[I p, AV.int IntKind.u32 (↑b.toNat : Int)]] [] []) = some (I (dimV p (pt b x (0 : Int))), H.mk [[I p, AV.int IntKind.u32 (↑b.toNat : Int)]] [] []) ∧ aCall (Sof [c75.to, (C58 n ih).to]) (AV.fn (Fn.func (75 : Nat)) [] []) [AV.agg [I p, AV.int IntKind.u32 (↑b.toNat : Int)], I x, I 1] (H.mk [[I p, AV.int IntKind.u32 (↑b.toNat : Int)]] [] []) = some (AV.agg [I p, AV.int IntKind.u32 (↑(pt b x (1 : Int)).toNat : Int)], H.mk [[I p, AV.int IntKind.u32 (↑b.toNat : Int)]] [] []) ∧ aCall (Sof [c75.to, (C58 n ih).to]) (AV.fn (Fn.func (58 : Nat)) [] []) [AV.agg [I p, AV.int IntKind.u32 (↑(pt b x (1 : Int)).toNat : Int)]] (H.mk [[I p, AV.int IntKind.u32 (↑b.toNat : Int)]] [] []) = some (I (dimV p (pt b x (1 : Int))), H.mk [[I p, AV.int IntKind.u32 (↑b.toNat : Int)]] [] []) ∧ (I (pick2 false (dimV p (pt b x (0 : Int))) (dimV p (pt b x (1 : Int)))), H.mk [] [] []) = (I (pick2 false (dimV p (pt b x (0 : Int))) (dimV p (pt b x (1 : Int)))), H.mk [] [] [])) (by kernel_rfl) ?_
  refine ⟨by first | exact acall_hit (c := c75.to) (p, b, x, 0) _ rfl z0 | exact acall_hit (c := c75.to) (p, b, x, 1) _ rfl z1, ?_⟩
  refine ⟨by first | exact acall_hit (c := (C58 n ih).to) (p, pt b x 0) _ rfl d0 | exact acall_hit (c := (C58 n ih).to) (p, pt b x 1) _ rfl d1, ?_⟩
  refine ⟨by first | exact acall_hit (c := c75.to) (p, b, x, 0) _ rfl z0 | exact acall_hit (c := c75.to) (p, b, x, 1) _ rfl z1, ?_⟩
  refine ⟨by first | exact acall_hit (c := (C58 n ih).to) (p, pt b x 0) _ rfl d0 | exact acall_hit (c := (C58 n ih).to) (p, pt b x 1) _ rfl d1, ?_⟩
  first | with_reducible rfl | (refine bleaf_t ?_; first | omega | (simp only [small, tiny, rng, decide_eq_true_eq, decide_eq_false_iff_not, true_or, or_true, true_and, and_true, Int.reduceEq, Int.reduceNeg, eq_self, reduceIte, if_true, if_false] at *; omega)) | (refine bleaf_f ?_; first | omega | (simp only [small, tiny, rng, decide_eq_true_eq, decide_eq_false_iff_not, true_or, or_true, true_and, and_true, Int.reduceEq, Int.reduceNeg, eq_self, reduceIte, if_true, if_false] at *; omega)) | (refine ileaf ?_; first | omega | (simp only [small, tiny, rng, decide_eq_true_eq, decide_eq_false_iff_not, true_or, or_true, true_and, and_true, Int.reduceEq, Int.reduceNeg, eq_self, reduceIte, if_true, if_false] at *; omega)) | (exfalso; omega) | (simp only [Prod.mk.injEq, AV.agg.injEq, AV.tup.injEq, List.cons.injEq, AV.int.injEq, AV.bool.injEq, and_true, true_and]; (repeat' apply And.intro) <;> first | with_reducible rfl | (simp []; done) | (simp []; omega) | omega | (simp only [small, tiny, rng, decide_eq_true_eq, decide_eq_false_iff_not, true_or, or_true, true_and, and_true, Int.reduceEq, Int.reduceNeg, eq_self, reduceIte, if_true, if_false] at *; omega) | (simp [small, tiny, rng, decide_eq_true_eq, decide_eq_false_iff_not, true_or, or_true, true_and, and_true, Int.reduceEq, Int.reduceNeg, eq_self, reduceIte, if_true, if_false, *]; done) | (simp [small, tiny, rng, decide_eq_true_eq, decide_eq_false_iff_not, true_or, or_true, true_and, and_true, Int.reduceEq, Int.reduceNeg, eq_self, reduceIte, if_true, if_false, *]; omega)) | (exfalso; simp only [small, tiny, rng, decide_eq_true_eq, decide_eq_false_iff_not, true_or, or_true, true_and, and_true, Int.reduceEq, Int.reduceNeg, eq_self, reduceIte, if_true, if_false] at *; omega) | (simp [small, tiny, rng, decide_eq_true_eq, decide_eq_false_iff_not, true_or, or_true, true_and, and_true, Int.reduceEq, Int.reduceNeg, eq_self, reduceIte, if_true, if_false] at *; done) | (simp [small, tiny, rng, decide_eq_true_eq, decide_eq_false_iff_not, true_or, or_true, true_and, and_true, Int.reduceEq, Int.reduceNeg, eq_self, reduceIte, if_true, if_false] at *; omega)
theorem C78_ok (n : Nat) (ih : C58ok n) : C78ok n := fun p b x hp => (r78 n ih p b x hp).run ok78 (.pure _ (.pure _ .nil)) rfl
noncomputable def C78 (n : Nat) (ih : C58ok n) : PCtr Tryd.prog where
  f := 78
  X := Int × BitVec 32 × Int
  args q := [cA q.1 q.2.1, I q.2.2]
  pre q := (p5 q.1 ∧ pc q.2.1 ≤ n + 1) ∧ is5 q.2.2 ∧ dfb q.2.1 q.2.2 = true
  v q := I (pick2 false (dimV q.1 (pt q.2.1 q.2.2 0)) (dimV q.1 (pt q.2.1 q.2.2 1)))
  det := by
    rintro ⟨p, b, x⟩ ⟨p', b', x'⟩ e _ _
    simp at e
    simp [e]
  ok := by
    rintro ⟨p, b, x⟩ h
    exact ⟨ok78.call, fun H => pure_call (C78_ok n ih p b x h) rfl rfl H⟩
abbrev b58 (p : Int) (b : BitVec 32) : H := ⟨[[I p, U b]], [], []⟩
abbrev o58 (p : Int) (b : BitVec 32) : List Out :=
  [.mk Unit (.exit 0) [3] (fun _ => True) (fun _ => [I (dmL (dimV p) b p.toNat)]) (fun _ => b58 p b) (fun _ => [])]
theorem simp58 : allSimpleM none1 (loopAt Tryd.f58 0) = true := by kernel_rfl
theorem lp58 (n : Nat) (ih : C58ok n) (p : Int) (b : BitVec 32) (h0 : p5 p) (hb : pc b ≤ n + 1) :
    LoopS (En4 [c77.to, (C78 n ih).to]) (loopAt Tryd.f58 0) 24 [1, 3, 9, 10] [.ptr 0 0, I 0, I p, I 0] (b58 p b) (o58 p b) := by
  have hR : Rests (En4 [c77.to, (C78 n ih).to]) none1 := rests mixed (.pure _ (.pure _ .nil))
  refine loop_s hR simp58 none (by intro _ h; cases h) (fun j vs h => h = b58 p b ∧ vs = [.ptr 0 0, I (dmL (dimV p) b j), I p, I j] ∧ (j : Int) ≤ p) p.toNat ⟨rfl, rfl, by obtain ⟨_, _⟩ := h0; omega⟩ (by intro _ h; cases h) ?_
  have bd : ∀ j, 0 ≤ dmL (dimV p) b j ∧ dmL (dimV p) b j ≤ 33 := dmL_bd (by omega) (fun c _ => by have := dimV_bd p c; omega)
  have g0 := h0
  obtain ⟨g1, g2⟩ := g0
  rintro j vs h hj ⟨rfl, rfl, hle⟩
  by_cases hz : (j : Int) < p
  · have hx : is5 (j : Int) := ⟨by omega, by omega⟩
    have hle2 : ((j + 1 : Nat) : Int) ≤ p := by omega
    cases hd : dfb b (j : Int)
    · have e : dmL (dimV p) b (j + 1) = dmL (dimV p) b j := by simp only [dmL, hd]; rfl
      refine ⟨[Ans.o (Orc.b true), Ans.o (Orc.val 15 (AV.bool false) (H.mk [[I p, AV.int IntKind.u32 (↑b.toNat : Int)]] [] []))], fun u => of_eq ((↑j : Int) < p ∧ aCall (Sof [c77.to, (C78 n ih).to]) (AV.fn (Fn.func (77 : Nat)) [] []) [AV.agg [I p, AV.int IntKind.u32 (↑b.toNat : Int)], I (↑j : Int)] (H.mk [[I p, AV.int IntKind.u32 (↑b.toNat : Int)]] [] []) = some (AV.bool false, H.mk [[I p, AV.int IntKind.u32 (↑b.toNat : Int)]] [] []) ∧ IntKind.i64.wrap ((↑j : Int) + (1 : Int)) = (↑j : Int) + (1 : Int) ∧ (24 : Nat) = (24 : Nat) ∧ j < p.toNat ∧ Keep (H.mk [[I p, AV.int IntKind.u32 (↑b.toNat : Int)]] [] [] = H.mk [[I p, AV.int IntKind.u32 (↑b.toNat : Int)]] [] [] ∧ [AV.ptr 0 0, I (dmL (dimV p) b j), I p, I ((↑j : Int) + (1 : Int))] = [AV.ptr 0 0, I (dmL (dimV p) b (j + (1 : Nat))), I p, I (↑(j + (1 : Nat)) : Int)] ∧ (↑(j + (1 : Nat)) : Int) ≤ p)) (by kernel_rfl) ?_⟩
      refine ⟨by first | assumption | omega | (simp only [small, tiny, rng, decide_eq_true_eq, decide_eq_false_iff_not, true_or, or_true, true_and, and_true, Int.reduceEq, Int.reduceNeg, eq_self, reduceIte, if_true, if_false] at *; omega) | (simp [small, tiny, rng, decide_eq_true_eq, decide_eq_false_iff_not, true_or, or_true, true_and, and_true, Int.reduceEq, Int.reduceNeg, eq_self, reduceIte, if_true, if_false] at *; done), ?_⟩
      refine ⟨acall_b (acall_hit (c := c77.to) (p, b, (j : Int)) _ rfl hx) hd, ?_⟩
      refine ⟨by first | exact wr _ (by omega) (by omega) | (refine wr _ ?_ ?_ <;> (simp only [small, tiny, rng, decide_eq_true_eq, decide_eq_false_iff_not, true_or, or_true, true_and, and_true, Int.reduceEq, Int.reduceNeg, eq_self, reduceIte, if_true, if_false] at *; omega)), ?_⟩
      refine ⟨by first | assumption | omega | (simp only [small, tiny, rng, decide_eq_true_eq, decide_eq_false_iff_not, true_or, or_true, true_and, and_true, Int.reduceEq, Int.reduceNeg, eq_self, reduceIte, if_true, if_false] at *; omega) | (simp [small, tiny, rng, decide_eq_true_eq, decide_eq_false_iff_not, true_or, or_true, true_and, and_true, Int.reduceEq, Int.reduceNeg, eq_self, reduceIte, if_true, if_false] at *; done), ?_⟩
      refine ⟨by first | assumption | omega | (simp only [small, tiny, rng, decide_eq_true_eq, decide_eq_false_iff_not, true_or, or_true, true_and, and_true, Int.reduceEq, Int.reduceNeg, eq_self, reduceIte, if_true, if_false] at *; omega) | (simp [small, tiny, rng, decide_eq_true_eq, decide_eq_false_iff_not, true_or, or_true, true_and, and_true, Int.reduceEq, Int.reduceNeg, eq_self, reduceIte, if_true, if_false] at *; done), ?_⟩
      exact ⟨rfl, by rw [e]; rfl, hle2⟩
    · have e : dmL (dimV p) b (j + 1) = pick2 true (dmL (dimV p) b j) (1 + pick2 false (dimV p (pt b (j : Int) 0)) (dimV p (pt b (j : Int) 1))) := by simp only [dmL, hd, if_true]
      have hq : (p5 p ∧ pc b ≤ n + 1) ∧ is5 (j : Int) ∧ dfb b (j : Int) = true := ⟨⟨h0, hb⟩, hx, hd⟩
      have w0 : -1 ≤ pick2 false (dimV p (pt b (j : Int) 0)) (dimV p (pt b (j : Int) 1)) ∧ pick2 false (dimV p (pt b (j : Int) 0)) (dimV p (pt b (j : Int) 1)) ≤ 32 := by
        have := dimV_bd p (pt b (j : Int) 0)
        have := dimV_bd p (pt b (j : Int) 1)
        simp only [pick2, Bool.false_eq_true, if_false]
        split <;> omega
      refine ⟨[Ans.o (Orc.b true), Ans.o (Orc.val 15 (AV.bool true) (H.mk [[I p, AV.int IntKind.u32 (↑b.toNat : Int)]] [] [])), Ans.o (Orc.val 19 (I (pick2 false (dimV p (pt b (↑j : Int) (0 : Int))) (dimV p (pt b (↑j : Int) (1 : Int))))) (H.mk [[I p, AV.int IntKind.u32 (↑b.toNat : Int)]] [] []))], fun u => of_eq ((↑j : Int) < p ∧ aCall (Sof [c77.to, (C78 n ih).to]) (AV.fn (Fn.func (77 : Nat)) [] []) [AV.agg [I p, AV.int IntKind.u32 (↑b.toNat : Int)], I (↑j : Int)] (H.mk [[I p, AV.int IntKind.u32 (↑b.toNat : Int)]] [] []) = some (AV.bool true, H.mk [[I p, AV.int IntKind.u32 (↑b.toNat : Int)]] [] []) ∧ aCall (Sof [c77.to, (C78 n ih).to]) (AV.fn (Fn.func (78 : Nat)) [] []) [AV.agg [I p, AV.int IntKind.u32 (↑b.toNat : Int)], I (↑j : Int)] (H.mk [[I p, AV.int IntKind.u32 (↑b.toNat : Int)]] [] []) = some (I (pick2 false (dimV p (pt b (↑j : Int) (0 : Int))) (dimV p (pt b (↑j : Int) (1 : Int)))), H.mk [[I p, AV.int IntKind.u32 (↑b.toNat : Int)]] [] []) ∧ IntKind.i64.wrap ((1 : Int) + pick2 false (dimV p (pt b (↑j : Int) (0 : Int))) (dimV p (pt b (↑j : Int) (1 : Int)))) = (1 : Int) + pick2 false (dimV p (pt b (↑j : Int) (0 : Int))) (dimV p (pt b (↑j : Int) (1 : Int))) ∧ IntKind.i64.wrap ((↑j : Int) + (1 : Int)) = (↑j : Int) + (1 : Int) ∧ (24 : Nat) = (24 : Nat) ∧ j < p.toNat ∧ Keep (H.mk [[I p, AV.int IntKind.u32 (↑b.toNat : Int)]] [] [] = H.mk [[I p, AV.int IntKind.u32 (↑b.toNat : Int)]] [] [] ∧ [AV.ptr 0 0, I (pick2 true (dmL (dimV p) b j) ((1 : Int) + pick2 false (dimV p (pt b (↑j : Int) (0 : Int))) (dimV p (pt b (↑j : Int) (1 : Int))))), I p, I ((↑j : Int) + (1 : Int))] = [AV.ptr 0 0, I (dmL (dimV p) b (j + (1 : Nat))), I p, I (↑(j + (1 : Nat)) : Int)] ∧ (↑(j + (1 : Nat)) : Int) ≤ p)) (by kernel_rfl) ?_⟩
      refine ⟨by first | assumption | omega | (simp only [small, tiny, rng, decide_eq_true_eq, decide_eq_false_iff_not, true_or, or_true, true_and, and_true, Int.reduceEq, Int.reduceNeg, eq_self, reduceIte, if_true, if_false] at *; omega) | (simp [small, tiny, rng, decide_eq_true_eq, decide_eq_false_iff_not, true_or, or_true, true_and, and_true, Int.reduceEq, Int.reduceNeg, eq_self, reduceIte, if_true, if_false] at *; done), ?_⟩
      refine ⟨acall_b (acall_hit (c := c77.to) (p, b, (j : Int)) _ rfl hx) hd, ?_⟩
      refine ⟨acall_hit (c := (C78 n ih).to) (p, b, (j : Int)) _ rfl hq, ?_⟩
      refine ⟨by first | exact wr _ (by omega) (by omega) | (refine wr _ ?_ ?_ <;> (simp only [small, tiny, rng, decide_eq_true_eq, decide_eq_false_iff_not, true_or, or_true, true_and, and_true, Int.reduceEq, Int.reduceNeg, eq_self, reduceIte, if_true, if_false] at *; omega)), ?_⟩
      refine ⟨by first | exact wr _ (by omega) (by omega) | (refine wr _ ?_ ?_ <;> (simp only [small, tiny, rng, decide_eq_true_eq, decide_eq_false_iff_not, true_or, or_true, true_and, and_true, Int.reduceEq, Int.reduceNeg, eq_self, reduceIte, if_true, if_false] at *; omega)), ?_⟩
      refine ⟨by first | assumption | omega | (simp only [small, tiny, rng, decide_eq_true_eq, decide_eq_false_iff_not, true_or, or_true, true_and, and_true, Int.reduceEq, Int.reduceNeg, eq_self, reduceIte, if_true, if_false] at *; omega) | (simp [small, tiny, rng, decide_eq_true_eq, decide_eq_false_iff_not, true_or, or_true, true_and, and_true, Int.reduceEq, Int.reduceNeg, eq_self, reduceIte, if_true, if_false] at *; done), ?_⟩
      refine ⟨by first | assumption | omega | (simp only [small, tiny, rng, decide_eq_true_eq, decide_eq_false_iff_not, true_or, or_true, true_and, and_true, Int.reduceEq, Int.reduceNeg, eq_self, reduceIte, if_true, if_false] at *; omega) | (simp [small, tiny, rng, decide_eq_true_eq, decide_eq_false_iff_not, true_or, or_true, true_and, and_true, Int.reduceEq, Int.reduceNeg, eq_self, reduceIte, if_true, if_false] at *; done), ?_⟩
      exact ⟨rfl, by rw [e]; rfl, hle2⟩
  · have hz : p ≤ (j : Int) := by omega
    have e : j = p.toNat := by omega
    subst e
    refine ⟨[Ans.o (Orc.b false)], fun u => of_eq (p ≤ (↑p.toNat : Int) ∧ (24 : Nat) = (24 : Nat) ∧ hits [Out.mk Unit (AX.exit (0 : Nat)) [(3 : Nat)] (fun x => True) (fun x => [I (dmL (dimV p) b p.toNat)]) (fun x => b58 p b) fun x => []] (AX.exit (0 : Nat)) [u (0 : Nat), AV.ptr 0 0, u (2 : Nat), I (dmL (dimV p) b p.toNat), u (4 : Nat), u (5 : Nat), u (6 : Nat), u (7 : Nat), u (8 : Nat), I p, I (↑p.toNat : Int), AV.bool false, u (12 : Nat), u (13 : Nat), u (14 : Nat), u (15 : Nat), u (16 : Nat), u (17 : Nat), u (18 : Nat), u (19 : Nat), u (20 : Nat), u (21 : Nat), u (22 : Nat), u (23 : Nat)] (H.mk [[I p, AV.int IntKind.u32 (↑b.toNat : Int)]] [] [])) (by kernel_rfl) ?_⟩
    refine ⟨by first | assumption | omega | (simp only [small, tiny, rng, decide_eq_true_eq, decide_eq_false_iff_not, true_or, or_true, true_and, and_true, Int.reduceEq, Int.reduceNeg, eq_self, reduceIte, if_true, if_false] at *; omega) | (simp [small, tiny, rng, decide_eq_true_eq, decide_eq_false_iff_not, true_or, or_true, true_and, and_true, Int.reduceEq, Int.reduceNeg, eq_self, reduceIte, if_true, if_false] at *; done), ?_⟩
    refine ⟨by first | assumption | omega | (simp only [small, tiny, rng, decide_eq_true_eq, decide_eq_false_iff_not, true_or, or_true, true_and, and_true, Int.reduceEq, Int.reduceNeg, eq_self, reduceIte, if_true, if_false] at *; omega) | (simp [small, tiny, rng, decide_eq_true_eq, decide_eq_false_iff_not, true_or, or_true, true_and, and_true, Int.reduceEq, Int.reduceNeg, eq_self, reduceIte, if_true, if_false] at *; done), ?_⟩
    exact .inl ⟨(), trivial, rfl, rfl, rfl⟩
theorem r58z (p : Int) (b : BitVec 32) (hz : b = 0#32) : Body (En4 []) none1 Tryd.f58 [cA p b] .nil (I (dimV p b), .nil) := by
  subst hz
  refine body_s ([Ans.o Orc.dflt]) ((I (-1 : Int), H.mk [] [] []) = (I (dimV p (BitVec.ofNat (32 : Nat) (0 : Nat))), H.mk [] [] [])) (by kernel_rfl) ?_
  rw [dimV_0]
theorem r58 (n : Nat) (ih : C58ok n) (p : Int) (b : BitVec 32) (hp : p5 p ∧ pc b ≤ n + 1) (hz : b ≠ 0#32) : Body (En4 [c77.to, (C78 n ih).to]) none1 Tryd.f58 [cA p b] .nil (I (dimV p b), .nil) := by
  have hz' : (b.toNat : Int) ≠ 0 := fun h => hz ((u_eq0 b).1 h)
  rw [dimV_eq hz]
  refine body_s ([Ans.o (Orc.b false), Ans.loop [(1 : Nat), (3 : Nat), (9 : Nat), (10 : Nat)] [Out.mk Unit (AX.exit (0 : Nat)) [(3 : Nat)] (fun x => True) (fun x => [I (dmL (dimV p) b p.toNat)]) (fun x => b58 p b) fun y => []]]) ((↑b.toNat : Int) ≠ (0 : Int) ∧ LoopS (Env.mk Tryd.prog (Sof [c77.to, (C78 n ih).to]) (Pof (P := Tryd.prog) []) H.nil.base (300 : Nat)) (loopAt Tryd.f58 (0 : Nat)) (24 : Nat) [(1 : Nat), (3 : Nat), (9 : Nat), (10 : Nat)] [AV.ptr 0 0, I 0, I p, I 0] (H.mk [[I p, AV.int IntKind.u32 (↑b.toNat : Int)]] [] []) [Out.mk Unit (AX.exit (0 : Nat)) [(3 : Nat)] (fun x => True) (fun x => [I (dmL (dimV p) b p.toNat)]) (fun x => b58 p b) fun y => []] ∧ (∀ (y : Unit), True → ∀ (u : Nat → AV), (I (dmL (dimV p) b p.toNat), H.mk [] [] []) = (I (dmL (dimV p) b p.toNat), H.mk [] [] [])) ∧ True) (by kernel_rfl) ?_
  refine ⟨by first | assumption | omega | (simp only [small, tiny, rng, decide_eq_true_eq, decide_eq_false_iff_not, true_or, or_true, true_and, and_true, Int.reduceEq, Int.reduceNeg, eq_self, reduceIte, if_true, if_false] at *; omega) | (simp [small, tiny, rng, decide_eq_true_eq, decide_eq_false_iff_not, true_or, or_true, true_and, and_true, Int.reduceEq, Int.reduceNeg, eq_self, reduceIte, if_true, if_false] at *; done), ?_⟩
  refine ⟨lp58 n ih p b hp.1 hp.2, ?_⟩
  refine And.intro ?_ ?_
  · skip
    intro y
    intro w1
    intro u
    first | with_reducible rfl | (refine bleaf_t ?_; first | omega | (simp only [small, tiny, rng, decide_eq_true_eq, decide_eq_false_iff_not, true_or, or_true, true_and, and_true, Int.reduceEq, Int.reduceNeg, eq_self, reduceIte, if_true, if_false] at *; omega)) | (refine bleaf_f ?_; first | omega | (simp only [small, tiny, rng, decide_eq_true_eq, decide_eq_false_iff_not, true_or, or_true, true_and, and_true, Int.reduceEq, Int.reduceNeg, eq_self, reduceIte, if_true, if_false] at *; omega)) | (refine ileaf ?_; first | omega | (simp only [small, tiny, rng, decide_eq_true_eq, decide_eq_false_iff_not, true_or, or_true, true_and, and_true, Int.reduceEq, Int.reduceNeg, eq_self, reduceIte, if_true, if_false] at *; omega)) | (exfalso; omega) | (simp only [Prod.mk.injEq, AV.agg.injEq, AV.tup.injEq, List.cons.injEq, AV.int.injEq, AV.bool.injEq, and_true, true_and]; (repeat' apply And.intro) <;> first | with_reducible rfl | (simp []; done) | (simp []; omega) | omega | (simp only [small, tiny, rng, decide_eq_true_eq, decide_eq_false_iff_not, true_or, or_true, true_and, and_true, Int.reduceEq, Int.reduceNeg, eq_self, reduceIte, if_true, if_false] at *; omega) | (simp [small, tiny, rng, decide_eq_true_eq, decide_eq_false_iff_not, true_or, or_true, true_and, and_true, Int.reduceEq, Int.reduceNeg, eq_self, reduceIte, if_true, if_false, *]; done) | (simp [small, tiny, rng, decide_eq_true_eq, decide_eq_false_iff_not, true_or, or_true, true_and, and_true, Int.reduceEq, Int.reduceNeg, eq_self, reduceIte, if_true, if_false, *]; omega)) | (exfalso; simp only [small, tiny, rng, decide_eq_true_eq, decide_eq_false_iff_not, true_or, or_true, true_and, and_true, Int.reduceEq, Int.reduceNeg, eq_self, reduceIte, if_true, if_false] at *; omega) | (simp [small, tiny, rng, decide_eq_true_eq, decide_eq_false_iff_not, true_or, or_true, true_and, and_true, Int.reduceEq, Int.reduceNeg, eq_self, reduceIte, if_true, if_false] at *; done) | (simp [small, tiny, rng, decide_eq_true_eq, decide_eq_false_iff_not, true_or, or_true, true_and, and_true, Int.reduceEq, Int.reduceNeg, eq_self, reduceIte, if_true, if_false] at *; omega)
  · skip
    trivial
theorem C58_all : ∀ n, C58ok n
  | 0 => fun p b hp => by
    have hz := pc_zero (Nat.le_zero.1 hp.2)
    exact (r58z p b hz).run ok58 .nil rfl
  | n + 1 => fun p b hp => by
    by_cases hz : b = 0#32
    · exact (r58z p b hz).run ok58 .nil rfl
    · exact (r58 n (C58_all n) p b hp hz).run ok58 (.pure _ (.pure _ .nil)) rfl
noncomputable def c58 : PCtr Tryd.prog where
  f := 58
  X := Int × BitVec 32
  args q := [cA q.1 q.2]
  pre q := p5 q.1
  v q := I (dimV q.1 q.2)
  det := by
    rintro ⟨p, b⟩ ⟨p', b'⟩ e _ _
    simp at e
    simp [e]
  ok := by
    rintro ⟨p, b⟩ h
    exact ⟨ok58.call, fun H => pure_call (C58_all 32 p b ⟨h, pc_le b⟩) rfl rfl H⟩
end Go.Proofs.Lrn

