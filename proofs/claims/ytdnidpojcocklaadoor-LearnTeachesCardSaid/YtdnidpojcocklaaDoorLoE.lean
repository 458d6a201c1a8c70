/- Layer 4: the peeling number. -/
import Derived.Test.YtdnidpojcocklaaDoorLoD
import Derived.KernelRfl
set_option linter.unusedSimpArgs false
set_option linter.unusedVariables false
set_option linter.unnecessarySimpa false
set_option maxHeartbeats 4000000
set_option maxRecDepth 100000
namespace Go.Proofs.Lrn
open Go Go.VM

theorem lsU_mem (f : Nat → Bool) : ∀ (n s i : Nat), (i : Int) ∈ lsU f s n ↔ s ≤ i ∧ i < s + n ∧ f i = true
  | 0, s, i => by simp only [lsU, List.not_mem_nil, false_iff]; omega
  | n + 1, s, i => by
    simp only [lsU]
    split
    · rename_i hs
      rw [List.mem_cons, lsU_mem f n (s + 1) i]
      constructor
      · rintro (h | ⟨h1, h2, h3⟩)
        · have : i = s := by omega
          subst this; exact ⟨Nat.le_refl _, by omega, hs⟩
        · exact ⟨by omega, by omega, h3⟩
      · rintro ⟨h1, h2, h3⟩
        by_cases e : i = s
        · exact .inl (by omega)
        · exact .inr ⟨by omega, by omega, h3⟩
    · rename_i hs
      rw [lsU_mem f n (s + 1) i]
      constructor
      · rintro ⟨h1, h2, h3⟩; exact ⟨by omega, by omega, h3⟩
      · rintro ⟨h1, h2, h3⟩
        have : i ≠ s := fun e => hs (e ▸ h3)
        exact ⟨by omega, by omega, h3⟩
theorem lsO_mem {b : BitVec 32} {i : Nat} (hi : i < 32) : (i : Int) ∈ lsO b ↔ b.getLsbD i = true := by
  rw [lsO, lsU_mem]
  constructor
  · rintro ⟨_, _, h⟩; exact h
  · intro h; exact ⟨by omega, by omega, h⟩
theorem psF_bit {p : Int} {b : BitVec 32} {k : Int} {i : Nat} (hi : i < 32) : ∀ (l : List Int) (r : BitVec 32), (∀ c ∈ l, is32 c) → ((psF p b k l r).getLsbD i = true ↔ r.getLsbD i = true ∧ ¬ ((i : Int) ∈ l ∧ pk (kyV p b i) ≤ k))
  | [], r, _ => by simp [psF]
  | c :: t, r, h => by
    have hc := h c (by simp)
    have hb := bt_bit (c := c) hc.1 hc.2 hi
    simp only [psF]
    split
    · rename_i hk
      rw [psF_bit hi t _ (fun d hd => h d (by simp [hd])), BitVec.getLsbD_and, BitVec.getLsbD_not, hb]
      simp only [hi, decide_true, Bool.true_and, Bool.and_eq_true, Bool.not_eq_true', decide_eq_false_iff_not, List.mem_cons]
      constructor
      · rintro ⟨⟨h1, h2⟩, h3⟩
        refine ⟨h1, ?_⟩
        rintro ⟨h4 | h4, h5⟩
        · exact h2 h4
        · exact h3 ⟨h4, h5⟩
      · rintro ⟨h1, h2⟩
        refine ⟨⟨h1, fun e => h2 ⟨.inl e, by rw [e]; exact hk⟩⟩, fun h3 => h2 ⟨.inr h3.1, h3.2⟩⟩
    · rename_i hk
      rw [psF_bit hi t _ (fun d hd => h d (by simp [hd]))]
      simp only [List.mem_cons]
      constructor
      · rintro ⟨h1, h2⟩
        refine ⟨h1, ?_⟩
        rintro ⟨h4 | h4, h5⟩
        · rw [h4] at h5; exact hk h5
        · exact h2 ⟨h4, h5⟩
      · rintro ⟨h1, h2⟩
        exact ⟨h1, fun h3 => h2 ⟨.inr h3.1, h3.2⟩⟩
theorem psS_bit {p k : Int} {b : BitVec 32} {i : Nat} (hi : i < 32) : (psS p k b).getLsbD i = true ↔ b.getLsbD i = true ∧ ¬ pk (kyV p b i) ≤ k := by
  rw [psS, psF_bit hi _ _ (lsO_in b), lsO_mem hi]
  constructor
  · rintro ⟨h1, h2⟩; exact ⟨h1, fun h => h2 ⟨h1, h⟩⟩
  · rintro ⟨h1, h2⟩; exact ⟨h1, fun h => h2 h.2⟩
theorem pk_le (n : Int) : pk n ≤ 5 := by
  have := cb_le (fun i => n.toNat.testBit i) 5
  simp only [pk]; omega
theorem plV_5 (p : Int) (b : BitVec 32) : plV p 5 b = true := by
  by_cases hz : b = 0#32
  · rw [hz]; exact plV_0 p 5
  · have e : psS p 5 b = 0#32 := by
      apply BitVec.eq_of_getLsbD_eq
      intro i hi
      cases hq : (psS p 5 b).getLsbD i
      · simp
      · exact absurd (pk_le _) ((psS_bit hi).1 hq).2
    rw [plV_go hz (by rw [e]; exact fun h => hz h.symm), e]
    exact plV_0 p 5
/-- the peeling number -/
def plN (p : Int) (b : BitVec 32) : Nat := fst (fun k => plV p (k : Int) b) 0 6
theorem plN_ok (p : Int) (b : BitVec 32) : plV p (plN p b : Int) b = true ∧ plN p b < 6 ∧ ∀ j, j < plN p b → plV p (j : Int) b = false := by
  obtain ⟨h1, _, h3, h4⟩ := fst_ok (f := fun k => plV p (k : Int) b) 6 0 ⟨5, by omega, by omega, plV_5 p b⟩
  exact ⟨h1, by show fst _ _ _ < 6; omega, fun j hj => h4 j (by omega) hj⟩
noncomputable def d52g : PCtr Tryd.prog := up c52g
noncomputable def d52b : PCtr Tryd.prog := up c52b
abbrev o44 (p : Int) (b : BitVec 32) : List Out :=
  [.mk Unit (.exit 0) [8] (fun _ => True) (fun _ => [I (plN p b : Nat)]) (fun _ => b67 p b) (fun _ => [])]
theorem simp44 : allSimpleM none1 (loopAt Tryd.f44 0) = true := by kernel_rfl
theorem lp44 (p : Int) (b : BitVec 32) (h0 : p5 p) :
    LoopS (En5 [d52g.to, c71.to]) (loopAt Tryd.f44 0) 24 [6, 8] [.ptr 0 0, I 0] (b67 p b) (o44 p b) := by
  have hR : Rests (En5 [d52g.to, c71.to]) none1 := rests mixed (.pure _ (.pure _ .nil))
  obtain ⟨n1, n2, n3⟩ := plN_ok p b
  refine loop_s hR simp44 none (by intro _ h; cases h) (fun j vs h => h = b67 p b ∧ vs = [.ptr 0 0, I j] ∧ j ≤ plN p b) 6 ⟨rfl, rfl, Nat.zero_le _⟩ (by intro _ h; cases h) ?_
  rintro j vs h hj ⟨rfl, rfl, hle⟩
  cases hk : plV p (j : Int) b
  · have hne : j ≠ plN p b := fun e => by rw [← e, hk] at n1; cases n1
    have hl2 : j + 1 ≤ plN p b := by omega
    have hj6 : j < 6 := by omega
    refine ⟨[Ans.o (Orc.val 19 (AV.bool false) (H.mk [[I p, AV.int IntKind.u32 (↑b.toNat : Int)]] [] []))], fun u => of_eq (aCall (Sof [d52g.to, c71.to]) (AV.fn (Fn.func (71 : Nat)) [] []) [AV.agg [I p, AV.int IntKind.u32 (↑b.toNat : Int)], I (↑j : Int)] (H.mk [[I p, AV.int IntKind.u32 (↑b.toNat : Int)]] [] []) = some (AV.bool false, H.mk [[I p, AV.int IntKind.u32 (↑b.toNat : Int)]] [] []) ∧ IntKind.i64.wrap ((↑j : Int) + (1 : Int)) = (↑j : Int) + (1 : Int) ∧ (24 : Nat) = (24 : Nat) ∧ j < (6 : Nat) ∧ Keep (H.mk [[I p, AV.int IntKind.u32 (↑b.toNat : Int)]] [] [] = H.mk [[I p, AV.int IntKind.u32 (↑b.toNat : Int)]] [] [] ∧ [AV.ptr 0 0, I ((↑j : Int) + (1 : Int))] = [AV.ptr 0 0, I (↑(j + (1 : Nat)) : Int)] ∧ j + (1 : Nat) ≤ plN p b)) (by kernel_rfl) ?_⟩
    refine ⟨acall_b (acall_hit (c := c71.to) (p, (j : Int), b) _ rfl h0) hk, ?_⟩
    refine ⟨by first | exact wr _ (by omega) (by omega) | (refine wr _ ?_ ?_ <;> (simp only [small, tiny, rng, decide_eq_true_eq, decide_eq_false_iff_not, true_or, or_true, true_and, and_true, Int.reduceEq, Int.reduceNeg, eq_self, reduceIte, if_true, if_false] at *; omega)), ?_⟩
    refine ⟨by first | assumption | omega | (simp only [small, tiny, rng, decide_eq_true_eq, decide_eq_false_iff_not, true_or, or_true, true_and, and_true, Int.reduceEq, Int.reduceNeg, eq_self, reduceIte, if_true, if_false] at *; omega) | (simp [small, tiny, rng, decide_eq_true_eq, decide_eq_false_iff_not, true_or, or_true, true_and, and_true, Int.reduceEq, Int.reduceNeg, eq_self, reduceIte, if_true, if_false] at *; done), ?_⟩
    refine ⟨by first | assumption | omega | (simp only [small, tiny, rng, decide_eq_true_eq, decide_eq_false_iff_not, true_or, or_true, true_and, and_true, Int.reduceEq, Int.reduceNeg, eq_self, reduceIte, if_true, if_false] at *; omega) | (simp [small, tiny, rng, decide_eq_true_eq, decide_eq_false_iff_not, true_or, or_true, true_and, and_true, Int.reduceEq, Int.reduceNeg, eq_self, reduceIte, if_true, if_false] at *; done), ?_⟩
    exact ⟨rfl, rfl, hl2⟩
  · have e : j = plN p b := by
      by_cases hlt : j < plN p b
      · rw [n3 j hlt] at hk; cases hk
      · omega
    have hi : (I (j : Int)) = I (plN p b : Nat) := by rw [e]
    refine ⟨[Ans.o (Orc.val 19 (AV.bool true) (H.mk [[I p, AV.int IntKind.u32 (↑b.toNat : Int)]] [] []))], fun u => of_eq (aCall (Sof [d52g.to, c71.to]) (AV.fn (Fn.func (71 : Nat)) [] []) [AV.agg [I p, AV.int IntKind.u32 (↑b.toNat : Int)], I (↑j : Int)] (H.mk [[I p, AV.int IntKind.u32 (↑b.toNat : Int)]] [] []) = some (AV.bool true, H.mk [[I p, AV.int IntKind.u32 (↑b.toNat : Int)]] [] []) ∧ (24 : Nat) = (24 : Nat) ∧ hits [Out.mk Unit (AX.exit (0 : Nat)) [(8 : Nat)] (fun x => True) (fun x => [I (↑(plN p b) : Int)]) (fun x => b67 p b) fun x => []] (AX.exit (0 : Nat)) [u (0 : Nat), u (1 : Nat), u (2 : Nat), u (3 : Nat), u (4 : Nat), u (5 : Nat), AV.ptr 0 0, u (7 : Nat), I (↑j : Int), u (9 : Nat), u (10 : Nat), u (11 : Nat), u (12 : Nat), u (13 : Nat), u (14 : Nat), u (15 : Nat), u (16 : Nat), AV.agg [I p, AV.int IntKind.u32 (↑b.toNat : Int)], I (↑j : Int), AV.bool true, AV.bool false, u (21 : Nat), u (22 : Nat), u (23 : Nat)] (H.mk [[I p, AV.int IntKind.u32 (↑b.toNat : Int)]] [] [])) (by kernel_rfl) ?_⟩
    refine ⟨acall_b (acall_hit (c := c71.to) (p, (j : Int), b) _ rfl h0) hk, ?_⟩
    refine ⟨by first | assumption | omega | (simp only [small, tiny, rng, decide_eq_true_eq, decide_eq_false_iff_not, true_or, or_true, true_and, and_true, Int.reduceEq, Int.reduceNeg, eq_self, reduceIte, if_true, if_false] at *; omega) | (simp [small, tiny, rng, decide_eq_true_eq, decide_eq_false_iff_not, true_or, or_true, true_and, and_true, Int.reduceEq, Int.reduceNeg, eq_self, reduceIte, if_true, if_false] at *; done), ?_⟩
    exact .inl ⟨(), trivial, rfl, by rw [← hi]; rfl, rfl⟩
theorem ok44g : FokM Tryd.prog none1 44 Tryd.f44 := ⟨mixed, by kernel_rfl, by kernel_rfl, by kernel_rfl, by kernel_rfl⟩
theorem r44g (p : Int) (l : List Int) (r : Room) (hp : cls p l ∧ rok l r) : Body ⟨Tryd.prog, Sof (P := Tryd.prog) [d52g.to, c71.to], Pof (P := Tryd.prog) [], H.nil.base, 300⟩ none1 Tryd.f44 [I p, ls l r] .nil (.tup [I (plN p (sOf l) : Nat), I 0], .nil) := by
  have q := hp.1.1
  refine body_s ([Ans.o (Orc.val 12 (AV.tup [AV.agg [I p, AV.int IntKind.u32 (↑(sOf l).toNat : Int)], AV.bool true]) (H.mk [] [] [])), Ans.loop [(6 : Nat), (8 : Nat)] [Out.mk Unit (AX.exit (0 : Nat)) [(8 : Nat)] (fun x => True) (fun x => [I (↑(plN p (sOf l)) : Int)]) (fun x => b67 p (sOf l)) fun y => []]]) (aCall (Sof [d52g.to, c71.to]) (AV.fn (Fn.func (52 : Nat)) [] []) [I p, AV.sl (ints l) l.length r] (H.mk [] [] []) = some (AV.tup [AV.agg [I p, AV.int IntKind.u32 (↑(sOf l).toNat : Int)], AV.bool true], H.mk [] [] []) ∧ LoopS (Env.mk Tryd.prog (Sof [d52g.to, c71.to]) (Pof (P := Tryd.prog) []) H.nil.base (300 : Nat)) (loopAt Tryd.f44 (0 : Nat)) (24 : Nat) [(6 : Nat), (8 : Nat)] [AV.ptr 0 0, I 0] (H.mk [[I p, AV.int IntKind.u32 (↑(sOf l).toNat : Int)]] [] []) [Out.mk Unit (AX.exit (0 : Nat)) [(8 : Nat)] (fun x => True) (fun x => [I (↑(plN p (sOf l)) : Int)]) (fun x => b67 p (sOf l)) fun y => []] ∧ (∀ (y : Unit), True → ∀ (u : Nat → AV), (AV.tup [I (↑(plN p (sOf l)) : Int), I 0], H.mk [] [] []) = (AV.tup [I (↑(plN p (sOf l)) : Int), I 0], H.mk [] [] [])) ∧ True) (by kernel_rfl) ?_
  refine ⟨acall_hit (c := d52g.to) (p, l, r) _ rfl hp, ?_⟩
  refine ⟨lp44 p (sOf l) q, ?_⟩
  refine And.intro ?_ ?_
  · skip
    intro y
    intro w1
    intro u
    first | with_reducible rfl | (refine bleaf_t ?_; first | omega | (simp only [small, tiny, rng, decide_eq_true_eq, decide_eq_false_iff_not, true_or, or_true, true_and, and_true, Int.reduceEq, Int.reduceNeg, eq_self, reduceIte, if_true, if_false] at *; omega)) | (refine bleaf_f ?_; first | omega | (simp only [small, tiny, rng, decide_eq_true_eq, decide_eq_false_iff_not, true_or, or_true, true_and, and_true, Int.reduceEq, Int.reduceNeg, eq_self, reduceIte, if_true, if_false] at *; omega)) | (refine ileaf ?_; first | omega | (simp only [small, tiny, rng, decide_eq_true_eq, decide_eq_false_iff_not, true_or, or_true, true_and, and_true, Int.reduceEq, Int.reduceNeg, eq_self, reduceIte, if_true, if_false] at *; omega)) | (exfalso; omega) | (simp only [Prod.mk.injEq, AV.agg.injEq, AV.tup.injEq, List.cons.injEq, AV.int.injEq, AV.bool.injEq, and_true, true_and]; (repeat' apply And.intro) <;> first | with_reducible rfl | (simp []; done) | (simp []; omega) | omega | (simp only [small, tiny, rng, decide_eq_true_eq, decide_eq_false_iff_not, true_or, or_true, true_and, and_true, Int.reduceEq, Int.reduceNeg, eq_self, reduceIte, if_true, if_false] at *; omega) | (simp [small, tiny, rng, decide_eq_true_eq, decide_eq_false_iff_not, true_or, or_true, true_and, and_true, Int.reduceEq, Int.reduceNeg, eq_self, reduceIte, if_true, if_false, *]; done) | (simp [small, tiny, rng, decide_eq_true_eq, decide_eq_false_iff_not, true_or, or_true, true_and, and_true, Int.reduceEq, Int.reduceNeg, eq_self, reduceIte, if_true, if_false, *]; omega)) | (exfalso; simp only [small, tiny, rng, decide_eq_true_eq, decide_eq_false_iff_not, true_or, or_true, true_and, and_true, Int.reduceEq, Int.reduceNeg, eq_self, reduceIte, if_true, if_false] at *; omega) | (simp [small, tiny, rng, decide_eq_true_eq, decide_eq_false_iff_not, true_or, or_true, true_and, and_true, Int.reduceEq, Int.reduceNeg, eq_self, reduceIte, if_true, if_false] at *; done) | (simp [small, tiny, rng, decide_eq_true_eq, decide_eq_false_iff_not, true_or, or_true, true_and, and_true, Int.reduceEq, Int.reduceNeg, eq_self, reduceIte, if_true, if_false] at *; omega)
  · skip
    trivial
noncomputable def c44g : PCtr Tryd.prog := sctr ok44g (X := Int × List Int × Room) (fun x => [I x.1, ls x.2.1 x.2.2]) (fun x => cls x.1 x.2.1 ∧ rok x.2.1 x.2.2) (fun x => .tup [I (plN x.1 (sOf x.2.1) : Nat), I 0]) (by intro x y e _ _; simp at e; simp [e]) (fun x => by simp [AV.bnds, AV.bnd, AV.wk, rm_wk_bnd]) (fun x => by first | rfl | (simp [AV.bnd, rm_wk_bnd]; done)  | (simp [AV.bnd, AV.bnds, rm_wk_bnd]; done) | simp [AV.bnd, AV.bnds, Room.bnd, rm_wk_bnd]) (fun x hx => ⟨_, _, _, .pure d52g (.pure c71 (.nil)), r44g (x.1) (x.2.1) (x.2.2).wk (by first | exact hx | (simp only [rok_wk]; exact hx) | (simp only [rok_wk, lst_wk]; exact hx) | (simp only [rok_wk, lst_wk, lsn_wk]; exact hx))⟩)
theorem ok44b : FokM Tryd.prog none1 44 Tryd.f44 := ⟨mixed, by kernel_rfl, by kernel_rfl, by kernel_rfl, by kernel_rfl⟩
theorem r44b (p : Int) (l : List Int) (r : Room) (hp : (lim l.length ∧ rok l r) ∧ ¬ cls p l) : Body ⟨Tryd.prog, Sof (P := Tryd.prog) [d52b.to], Pof (P := Tryd.prog) [], H.nil.base, 300⟩ none1 Tryd.f44 [I p, ls l r] .nil (.tup [I 0, I 2], .nil) := by
  refine body_s ([Ans.o (Orc.val 12 (AV.tup [AV.agg [I 0, AV.int IntKind.u32 (0 : Int)], AV.bool false]) (H.mk [] [] []))]) (aCall (Sof [d52b.to]) (AV.fn (Fn.func (52 : Nat)) [] []) [I p, AV.sl (ints l) l.length r] (H.mk [] [] []) = some (AV.tup [AV.agg [I 0, AV.int IntKind.u32 (0 : Int)], AV.bool false], H.mk [] [] []) ∧ (AV.tup [I 0, I 2], H.mk [] [] []) = (AV.tup [I 0, I 2], H.mk [] [] [])) (by kernel_rfl) ?_
  refine ⟨acall_hit (c := d52b.to) (p, l, r) _ rfl hp, ?_⟩
  first | with_reducible rfl | (refine bleaf_t ?_; first | omega | (simp only [small, tiny, rng, decide_eq_true_eq, decide_eq_false_iff_not, true_or, or_true, true_and, and_true, Int.reduceEq, Int.reduceNeg, eq_self, reduceIte, if_true, if_false] at *; omega)) | (refine bleaf_f ?_; first | omega | (simp only [small, tiny, rng, decide_eq_true_eq, decide_eq_false_iff_not, true_or, or_true, true_and, and_true, Int.reduceEq, Int.reduceNeg, eq_self, reduceIte, if_true, if_false] at *; omega)) | (refine ileaf ?_; first | omega | (simp only [small, tiny, rng, decide_eq_true_eq, decide_eq_false_iff_not, true_or, or_true, true_and, and_true, Int.reduceEq, Int.reduceNeg, eq_self, reduceIte, if_true, if_false] at *; omega)) | (exfalso; omega) | (simp only [Prod.mk.injEq, AV.agg.injEq, AV.tup.injEq, List.cons.injEq, AV.int.injEq, AV.bool.injEq, and_true, true_and]; (repeat' apply And.intro) <;> first | with_reducible rfl | (simp []; done) | (simp []; omega) | omega | (simp only [small, tiny, rng, decide_eq_true_eq, decide_eq_false_iff_not, true_or, or_true, true_and, and_true, Int.reduceEq, Int.reduceNeg, eq_self, reduceIte, if_true, if_false] at *; omega) | (simp [small, tiny, rng, decide_eq_true_eq, decide_eq_false_iff_not, true_or, or_true, true_and, and_true, Int.reduceEq, Int.reduceNeg, eq_self, reduceIte, if_true, if_false, *]; done) | (simp [small, tiny, rng, decide_eq_true_eq, decide_eq_false_iff_not, true_or, or_true, true_and, and_true, Int.reduceEq, Int.reduceNeg, eq_self, reduceIte, if_true, if_false, *]; omega)) | (exfalso; simp only [small, tiny, rng, decide_eq_true_eq, decide_eq_false_iff_not, true_or, or_true, true_and, and_true, Int.reduceEq, Int.reduceNeg, eq_self, reduceIte, if_true, if_false] at *; omega) | (simp [small, tiny, rng, decide_eq_true_eq, decide_eq_false_iff_not, true_or, or_true, true_and, and_true, Int.reduceEq, Int.reduceNeg, eq_self, reduceIte, if_true, if_false] at *; done) | (simp [small, tiny, rng, decide_eq_true_eq, decide_eq_false_iff_not, true_or, or_true, true_and, and_true, Int.reduceEq, Int.reduceNeg, eq_self, reduceIte, if_true, if_false] at *; omega)
noncomputable def c44b : PCtr Tryd.prog := sctr ok44b (X := Int × List Int × Room) (fun x => [I x.1, ls x.2.1 x.2.2]) (fun x => (lim x.2.1.length ∧ rok x.2.1 x.2.2) ∧ ¬ cls x.1 x.2.1) (fun x => .tup [I 0, I 2]) (by intro x y e _ _; simp at e; simp [e]) (fun x => by simp [AV.bnds, AV.bnd, AV.wk, rm_wk_bnd]) (fun x => by first | rfl | (simp [AV.bnd, rm_wk_bnd]; done)  | (simp [AV.bnd, AV.bnds, rm_wk_bnd]; done) | simp [AV.bnd, AV.bnds, Room.bnd, rm_wk_bnd]) (fun x hx => ⟨_, _, _, .pure d52b (.nil), r44b (x.1) (x.2.1) (x.2.2).wk (by first | exact hx | (simp only [rok_wk]; exact hx) | (simp only [rok_wk, lst_wk]; exact hx) | (simp only [rok_wk, lst_wk, lsn_wk]; exact hx))⟩)
end Go.Proofs.Lrn

