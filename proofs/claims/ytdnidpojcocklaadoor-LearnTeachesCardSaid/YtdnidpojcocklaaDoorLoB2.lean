/- Layer 4: a set as a list. -/
import Derived.Test.YtdnidpojcocklaaDoorLoB1
import Derived.KernelRfl
set_option linter.unusedSimpArgs false
set_option linter.unusedVariables false
set_option linter.unnecessarySimpa false
set_option maxHeartbeats 4000000
set_option maxRecDepth 100000
namespace Go.Proofs.Lrn
open Go Go.VM

def lsU (f : Nat → Bool) : Nat → Nat → List Int
  | _, 0 => []
  | s, n + 1 => if f s then (s : Int) :: lsU f (s + 1) n else lsU f (s + 1) n
theorem lsU_congr {f g : Nat → Bool} : ∀ (n s : Nat), (∀ i, s ≤ i → i < s + n → f i = g i) → lsU f s n = lsU g s n
  | 0, _, _ => rfl
  | n + 1, s, h => by
    simp only [lsU]
    rw [h s (by omega) (by omega), lsU_congr n (s + 1) (fun i h1 h2 => h i (by omega) (by omega))]
theorem lsU_first {f g : Nat → Bool} {t : Nat} (hf : f t = true) (h1 : ∀ j, j < t → f j = false) (hg : ∀ i, g i = (f i && decide (t < i))) : ∀ (n s : Nat), s ≤ t → t < s + n → lsU f s n = (t : Int) :: lsU g s n
  | 0, s, h2, h3 => by omega
  | n + 1, s, h2, h3 => by
    simp only [lsU]
    by_cases e : s = t
    · subst e
      have hgs : g s = false := by rw [hg]; simp
      rw [if_pos hf, hgs]
      simp only [Bool.false_eq_true, if_false, List.cons.injEq, true_and]
      exact lsU_congr n (s + 1) (fun i h4 _ => by rw [hg]; simp; omega)
    · have hfs := h1 s (by omega)
      have hgs : g s = false := by rw [hg, hfs]; rfl
      rw [hfs, hgs]
      simp only [Bool.false_eq_true, if_false]
      exact lsU_first hf h1 hg n (s + 1) (by omega) (by omega)
/-- a set as a rising list -/
def lsO (b : BitVec 32) : List Int := lsU (fun i => b.getLsbD i) 0 32
theorem lsO_0 : lsO 0#32 = [] := by kernel_rfl
theorem lsO_cons {b : BitVec 32} (h : b ≠ 0#32) : lsO b = (tz b : Int) :: lsO (cl b) := by
  obtain ⟨h1, h2, h3⟩ := tz_ok h
  have e : lsO (cl b) = lsU (fun i => b.getLsbD i && decide (tz b < i)) 0 32 := lsU_congr 32 0 (fun i _ hi => by
    rw [Bool.eq_iff_iff, cl_bit b (by omega), Bool.and_eq_true, decide_eq_true_eq]
    constructor
    · rintro ⟨g1, j, g2, g3⟩
      refine ⟨g1, ?_⟩
      refine Classical.byContradiction fun hc => ?_
      have := h3 j (by omega)
      rw [g3] at this; cases this
    · rintro ⟨g1, g2⟩
      exact ⟨g1, tz b, g2, h1⟩)
  rw [e]
  exact lsU_first h1 h3 (fun _ => rfl) 32 0 (by omega) (by omega)
theorem cl_lt {b : BitVec 32} (h : b ≠ 0#32) : pc (cl b) < pc b := by
  obtain ⟨h1, h2, h3⟩ := tz_ok h
  apply cb_lt 32
  · intro i hi hb; exact ((cl_bit b hi).1 hb).1
  · refine ⟨tz b, h2, h1, ?_⟩
    cases hq : (cl b).getLsbD (tz b)
    · rfl
    · obtain ⟨_, j, hj, hb⟩ := (cl_bit b h2).1 hq
      rw [h3 j hj] at hb; cases hb
theorem lsU_len (f : Nat → Bool) : ∀ n s, (lsU f s n).length ≤ n
  | 0, _ => Nat.le_refl 0
  | n + 1, s => by
    have := lsU_len f n (s + 1)
    simp only [lsU]
    split <;> simp <;> omega
theorem lsO_len (b : BitVec 32) : (lsO b).length ≤ 32 := lsU_len _ 32 0
theorem leave_ints' (bs : List (List AV)) (l : List Int) (n : Nat) : leave ⟨0, 0, 0⟩ (.sl (ints l) n (.tok 0 1)) ⟨bs, [n], []⟩ = (.sl (ints l) n (.tok 0 1), ⟨[], [n], []⟩) := by
  simp [leave, AV.bnd, frz, Room.bnd, retok]
theorem leave_acc' (bs : List (List AV)) (l : List Int) : leave ⟨0, 0, 0⟩ (acc l) ⟨bs, tk l, []⟩ = (acc l, hacc l) := by
  cases l with
  | nil => rfl
  | cons x l => exact leave_ints' bs (x :: l) _
theorem simp55 : allSimpleM none1 (loopAt Tryd.f55 0) = true := by kernel_rfl
abbrev b55 (p : Int) (b : BitVec 32) (l : List Int) : H := ⟨[[I p, U b]], tk l, []⟩
abbrev o55 (p : Int) (b : BitVec 32) : List Out := [.mk Unit (.exit 0) [3] (fun _ => True) (fun _ => [acc (lsO b)]) (fun _ => b55 p b (lsO b)) (fun _ => [])]
theorem app_ints' {P : Program} {t : TypeId} (hT : appT P t = true) {l : List Int} {x : Int} {bs : List (List AV)} (hn : l.length ≤ 1000000000) :
    aAppend P t t (.sl (ints l) l.length (rm 0 l)) (.sl [I x] 1 .full) ⟨bs, tk l, []⟩ = some (.sl (ints (l ++ [x])) (l ++ [x]).length (rm 0 (l ++ [x])), ⟨bs, tk (l ++ [x]), []⟩) := by
  obtain ⟨e, i, z, he, hi, hz, h1, h2, h3⟩ := appT_of hT
  have hb : (l.length + 1) * i.bytes ≤ 2 ^ 47 := Nat.le_trans (Nat.mul_le_mul (Nat.succ_le_succ hn) h2) (by decide)
  have hm : l.length + 1 ≤ maxLen := Nat.le_trans (Nat.succ_le_succ hn) (by decide)
  cases l with
  | nil =>
    have hb' : i.bytes ≤ 2 ^ 47 := Nat.le_trans h2 (by decide)
    simp [aAppend, he, hi, hz, h1, h3, slCells, hb', rm, tk, ints, AV.one]
    decide
  | cons y l =>
    have hb2 : (l.length + 1 + 1) * i.bytes ≤ 2 ^ 47 := hb
    have hm2 : l.length + 1 + 1 ≤ maxLen := hm
    simp [aAppend, he, hi, hz, h1, h3, slCells, hb2, hm2, rm, tk, ints, AV.one]
theorem lp55 (p : Int) (b : BitVec 32) :
    LoopS (En5 [c76.to]) (loopAt Tryd.f55 0) 19 [3, 4] [.sl [] 0 .nil, U b] ⟨[[I p, U b]], [], []⟩ (o55 p b) := by
  have hR : Rests (En5 [c76.to]) none1 := rests mixed (.pure _ .nil)
  refine loop_s hR simp55 none (by intro _ h; cases h) (fun j vs h => ∃ (l : List Int) (c : BitVec 32), h = b55 p b l ∧ vs = [acc l, U c] ∧ lsO b = l ++ lsO c ∧ pc c + j ≤ 32) 32 ⟨[], b, rfl, rfl, rfl, by have := pc_le b; omega⟩ (by intro _ h; cases h) ?_
  rintro j vs h hj ⟨l, c, rfl, rfl, ha, hb⟩
  by_cases hz : c = 0#32
  · have hu : (c.toNat : Int) = 0 := (u_eq0 c).2 hz
    have hl : lsO b = l := by rw [ha, hz, lsO_0, List.append_nil]
    refine ⟨[Ans.o (Orc.b false)], fun u => of_eq ((↑c.toNat : Int) = (0 : Int) ∧ (19 : Nat) = (19 : Nat) ∧ hits [Out.mk Unit (AX.exit (0 : Nat)) [(3 : Nat)] (fun x => True) (fun x => [acc (lsO b)]) (fun x => b55 p b (lsO b)) fun x => []] (AX.exit (0 : Nat)) [u (0 : Nat), u (1 : Nat), u (2 : Nat), AV.sl (ints l) l.length (rm (0 : Nat) l), AV.int IntKind.u32 (↑c.toNat : Int), u (5 : Nat), u (6 : Nat), AV.int IntKind.u32 (↑c.toNat : Int), AV.bool false, u (9 : Nat), u (10 : Nat), u (11 : Nat), u (12 : Nat), u (13 : Nat), u (14 : Nat), u (15 : Nat), u (16 : Nat), u (17 : Nat), u (18 : Nat)] (H.mk [[I p, AV.int IntKind.u32 (↑b.toNat : Int)]] (tk l) [])) (by kernel_rfl) ?_⟩
    refine ⟨by first | assumption | omega | (simp only [small, tiny, rng, decide_eq_true_eq, decide_eq_false_iff_not, true_or, or_true, true_and, and_true, Int.reduceEq, Int.reduceNeg, eq_self, reduceIte, if_true, if_false] at *; omega) | (simp [small, tiny, rng, decide_eq_true_eq, decide_eq_false_iff_not, true_or, or_true, true_and, and_true, Int.reduceEq, Int.reduceNeg, eq_self, reduceIte, if_true, if_false] at *; done), ?_⟩
    refine ⟨by first | assumption | omega | (simp only [small, tiny, rng, decide_eq_true_eq, decide_eq_false_iff_not, true_or, or_true, true_and, and_true, Int.reduceEq, Int.reduceNeg, eq_self, reduceIte, if_true, if_false] at *; omega) | (simp [small, tiny, rng, decide_eq_true_eq, decide_eq_false_iff_not, true_or, or_true, true_and, and_true, Int.reduceEq, Int.reduceNeg, eq_self, reduceIte, if_true, if_false] at *; done), ?_⟩
    exact .inl ⟨(), trivial, rfl, by rw [hl]; rfl, by rw [hl]⟩
  · have hu : (c.toNat : Int) ≠ 0 := fun h => hz ((u_eq0 c).1 h)
    have ev0 := sub_nat c
    have ev1 := u_and2 c (c - 1#32)
    have hlt := cl_lt hz
    have hs := lsO_cons hz
    have hlen : l.length ≤ 1000000000 := by
      have h1 := lsO_len b
      rw [ha, List.length_append] at h1
      omega
    have hn : lsO b = (l ++ [(tz c : Int)]) ++ lsO (cl c) := by rw [ha, hs]; simp
    have hpc : pc (cl c) + (j + 1) ≤ 32 := by omega
    have hj2 : j < 32 := by omega
    clear hlt hs ha hb
    refine ⟨[Ans.o (Orc.b true), Ans.o (Orc.val 15 (I (↑(tz c) : Int)) (H.mk [[I p, AV.int IntKind.u32 (↑b.toNat : Int)]] (tk l) [])), Ans.o (Orc.val 17 (AV.sl (ints (l ++ [(↑(tz c) : Int)])) (l ++ [(↑(tz c) : Int)]).length (rm (0 : Nat) (l ++ [(↑(tz c) : Int)]))) (H.mk [[I p, AV.int IntKind.u32 (↑b.toNat : Int)]] (tk (l ++ [(↑(tz c) : Int)])) [])), Ans.o (Orc.val 11 (AV.int IntKind.u32 (↑(c - BitVec.ofNat (32 : Nat) (1 : Nat)).toNat : Int)) (H.mk [[I p, AV.int IntKind.u32 (↑b.toNat : Int)]] (tk (l ++ [(↑(tz c) : Int)])) [])), Ans.o (Orc.val 12 (AV.int IntKind.u32 (↑(c &&& c - BitVec.ofNat (32 : Nat) (1 : Nat)).toNat : Int)) (H.mk [[I p, AV.int IntKind.u32 (↑b.toNat : Int)]] (tk (l ++ [(↑(tz c) : Int)])) []))], fun u => of_eq ((↑c.toNat : Int) ≠ (0 : Int) ∧ aCall (Sof [c76.to]) (AV.fn (Fn.func (76 : Nat)) [] []) [AV.int IntKind.u32 (↑c.toNat : Int)] (H.mk [[I p, AV.int IntKind.u32 (↑b.toNat : Int)]] (tk l) []) = some (I (↑(tz c) : Int), H.mk [[I p, AV.int IntKind.u32 (↑b.toNat : Int)]] (tk l) []) ∧ aAppend Tryd.prog (22 : Nat) (22 : Nat) (AV.sl (ints l) l.length (rm (0 : Nat) l)) (AV.sl [I (↑(tz c) : Int)] (1 : Nat) Room.full) (H.mk [[I p, AV.int IntKind.u32 (↑b.toNat : Int)]] (tk l) []) = some (AV.sl (ints (l ++ [(↑(tz c) : Int)])) (l ++ [(↑(tz c) : Int)]).length (rm (0 : Nat) (l ++ [(↑(tz c) : Int)])), H.mk [[I p, AV.int IntKind.u32 (↑b.toNat : Int)]] (tk (l ++ [(↑(tz c) : Int)])) []) ∧ aBin Tryd.prog BinOp.sub (72 : Nat) (AV.int IntKind.u32 (↑c.toNat : Int)) (AV.int IntKind.u32 (1 : Int)) = some (AV.int IntKind.u32 (↑(c - BitVec.ofNat (32 : Nat) (1 : Nat)).toNat : Int)) ∧ aBin Tryd.prog BinOp.and (72 : Nat) (AV.int IntKind.u32 (↑c.toNat : Int)) (AV.int IntKind.u32 (↑(c - BitVec.ofNat (32 : Nat) (1 : Nat)).toNat : Int)) = some (AV.int IntKind.u32 (↑(c &&& c - BitVec.ofNat (32 : Nat) (1 : Nat)).toNat : Int)) ∧ (19 : Nat) = (19 : Nat) ∧ j < (32 : Nat) ∧ Keep (∃ l_1 c_1, H.mk [[I p, AV.int IntKind.u32 (↑b.toNat : Int)]] (tk (l ++ [(↑(tz c) : Int)])) [] = H.mk [[I p, AV.int IntKind.u32 (↑b.toNat : Int)]] (tk l_1) [] ∧ [AV.sl (ints (l ++ [(↑(tz c) : Int)])) (l ++ [(↑(tz c) : Int)]).length (rm (0 : Nat) (l ++ [(↑(tz c) : Int)])), AV.int IntKind.u32 (↑(c &&& c - BitVec.ofNat (32 : Nat) (1 : Nat)).toNat : Int)] = [AV.sl (ints l_1) l_1.length (rm (0 : Nat) l_1), AV.int IntKind.u32 (↑c_1.toNat : Int)] ∧ lsO b = l_1 ++ lsO c_1 ∧ pc c_1 + (j + (1 : Nat)) ≤ (32 : Nat))) (by kernel_rfl) ?_⟩
    refine ⟨by first | assumption | omega | (simp only [small, tiny, rng, decide_eq_true_eq, decide_eq_false_iff_not, true_or, or_true, true_and, and_true, Int.reduceEq, Int.reduceNeg, eq_self, reduceIte, if_true, if_false] at *; omega) | (simp [small, tiny, rng, decide_eq_true_eq, decide_eq_false_iff_not, true_or, or_true, true_and, and_true, Int.reduceEq, Int.reduceNeg, eq_self, reduceIte, if_true, if_false] at *; done), ?_⟩
    refine ⟨acall_hit (c := c76.to) c _ rfl hz, ?_⟩
    refine ⟨app_ints' (by kernel_rfl) hlen, ?_⟩
    refine ⟨by first | exact told_sub (by assumption) | exact told_add (by assumption) | exact told_mul (by assumption) | exact told_and (by assumption) | exact told_or (by assumption) | exact told_xor (by assumption) | exact told_andn (by assumption) | exact told_shl (by omega) (by assumption) | exact told_shr (by omega) (by assumption) | exact told_rem (by first | decide | omega) (by assumption) | exact told_quo (by first | decide | omega) (by assumption) | exact told_shl (by omega) rfl | exact told_shr (by omega) rfl, ?_⟩
    refine ⟨by first | exact told_sub (by assumption) | exact told_add (by assumption) | exact told_mul (by assumption) | exact told_and (by assumption) | exact told_or (by assumption) | exact told_xor (by assumption) | exact told_andn (by assumption) | exact told_shl (by omega) (by assumption) | exact told_shr (by omega) (by assumption) | exact told_rem (by first | decide | omega) (by assumption) | exact told_quo (by first | decide | omega) (by assumption) | exact told_shl (by omega) rfl | exact told_shr (by omega) rfl, ?_⟩
    refine ⟨by first | assumption | omega | (simp only [small, tiny, rng, decide_eq_true_eq, decide_eq_false_iff_not, true_or, or_true, true_and, and_true, Int.reduceEq, Int.reduceNeg, eq_self, reduceIte, if_true, if_false] at *; omega) | (simp [small, tiny, rng, decide_eq_true_eq, decide_eq_false_iff_not, true_or, or_true, true_and, and_true, Int.reduceEq, Int.reduceNeg, eq_self, reduceIte, if_true, if_false] at *; done), ?_⟩
    refine ⟨by first | assumption | omega | (simp only [small, tiny, rng, decide_eq_true_eq, decide_eq_false_iff_not, true_or, or_true, true_and, and_true, Int.reduceEq, Int.reduceNeg, eq_self, reduceIte, if_true, if_false] at *; omega) | (simp [small, tiny, rng, decide_eq_true_eq, decide_eq_false_iff_not, true_or, or_true, true_and, and_true, Int.reduceEq, Int.reduceNeg, eq_self, reduceIte, if_true, if_false] at *; done), ?_⟩
    exact ⟨_, cl c, rfl, rfl, hn, hpc⟩
theorem ok55 : FokM Tryd.prog none1 55 Tryd.f55 := ⟨mixed, by kernel_rfl, by kernel_rfl, by kernel_rfl, by kernel_rfl⟩
theorem r55 (p : Int) (b : BitVec 32) (hp : True) : Body ⟨Tryd.prog, Sof (P := Tryd.prog) [c76.to], Pof (P := Tryd.prog) [], H.nil.base, 300⟩ none1 Tryd.f55 [cA p b] .nil (acc (lsO b), ⟨[], tk (lsO b), []⟩) := by
  refine body_s ([Ans.loop [(3 : Nat), (4 : Nat)] [Out.mk Unit (AX.exit (0 : Nat)) [(3 : Nat)] (fun x => True) (fun x => [acc (lsO b)]) (fun x => b55 p b (lsO b)) fun y => []]]) (LoopS (Env.mk Tryd.prog (Sof [c76.to]) (Pof (P := Tryd.prog) []) H.nil.base (300 : Nat)) (loopAt Tryd.f55 (0 : Nat)) (19 : Nat) [(3 : Nat), (4 : Nat)] [AV.sl [] (0 : Nat) Room.nil, AV.int IntKind.u32 (↑b.toNat : Int)] (H.mk [[I p, AV.int IntKind.u32 (↑b.toNat : Int)]] [] []) [Out.mk Unit (AX.exit (0 : Nat)) [(3 : Nat)] (fun x => True) (fun x => [acc (lsO b)]) (fun x => b55 p b (lsO b)) fun y => []] ∧ (∀ (y : Unit), True → ∀ (u : Nat → AV), leave (Base.mk H.nil.blk.length H.nil.toks.length H.nil.maps.length) (AV.sl (ints (lsO b)) (lsO b).length (rm (0 : Nat) (lsO b))) (H.mk [[I p, AV.int IntKind.u32 (↑b.toNat : Int)]] (tk (lsO b)) []) = (AV.sl (ints (lsO b)) (lsO b).length (rm (0 : Nat) (lsO b)), H.mk [] (tk (lsO b)) [])) ∧ True) (by kernel_rfl) ?_
  refine ⟨lp55 p b, ?_⟩
  refine And.intro ?_ ?_
  · skip
    intro y
    intro w1
    intro u
    exact leave_acc' _ _
  · skip
    trivial
noncomputable def c55 : PCtr Tryd.prog := slctr ok55 (X := Int × BitVec 32) (fun x => [cA x.1 x.2]) (fun x => True) (fun x => .sl (ints (lsO x.2)) (lsO x.2).length (rn (lsO x.2))) (by intro x y e _ _; simp at e; simp [e]) (fun x => by simp [AV.bnds, AV.bnd, AV.wk, rm_wk_bnd]) (fun x => by first | rfl | (simp [AV.bnd, rm_wk_bnd]; done) | simp [AV.bnd, AV.bnds, Room.bnd, rm_wk_bnd]) (fun x hx => ⟨_, _, _, acc (lsO x.2), tk (lsO x.2), .pure c76 (.nil), r55 (x.1) (x.2) hx, by simp [AV.plain, AV.plains, plains_ints, plains_rows], by first | (simp only [AV.wkd, wkds_rows]; done) | (simp only [AV.wkd, wkds_ints]; done) | simp [AV.wkd, AV.wkds, Room.wk]⟩)
end Go.Proofs.Lrn

