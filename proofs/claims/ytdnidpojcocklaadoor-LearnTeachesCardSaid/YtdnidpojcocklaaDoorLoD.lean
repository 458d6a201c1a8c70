/- Layer 4: peeling. -/
import Derived.Test.YtdnidpojcocklaaDoorLoB2
import Derived.Test.YtdnidpojcocklaaDoorLnV1
import Derived.Test.YtdnidpojcocklaaDoorLnL
import Derived.KernelRfl
set_option linter.unusedSimpArgs false
set_option linter.unusedVariables false
set_option linter.unnecessarySimpa false
set_option maxHeartbeats 4000000
set_option maxRecDepth 100000
namespace Go.Proofs.Lrn
open Go Go.VM

theorem lsU_in (f : Nat → Bool) : ∀ (n s : Nat), ∀ c ∈ lsU f s n, (s : Int) ≤ c ∧ c < (s : Int) + n
  | 0, _, c, h => by cases h
  | n + 1, s, c, h => by
    simp only [lsU] at h
    split at h
    · rcases List.mem_cons.1 h with rfl | h
      · omega
      · have := lsU_in f n (s + 1) c h; omega
    · have := lsU_in f n (s + 1) c h; omega
theorem lsO_in (b : BitVec 32) : ∀ c ∈ lsO b, is32 c := fun c hc => by
  have := lsU_in _ 32 0 c hc
  exact ⟨by omega, by omega⟩
def psF (p : Int) (b : BitVec 32) (k : Int) : List Int → BitVec 32 → BitVec 32
  | [], r => r
  | c :: t, r => psF p b k t (if pk (kyV p b c) ≤ k then r &&& ~~~ bt c else r)
/-- what is left when those with small keys are taken away -/
def psS (p : Int) (k : Int) (b : BitVec 32) : BitVec 32 := psF p b k (lsO b) b
theorem psF_sub (p : Int) (b : BitVec 32) (k : Int) : ∀ (l : List Int) (r : BitVec 32), ∃ m, psF p b k l r = r &&& m
  | [], r => ⟨BitVec.allOnes 32, by simp only [psF, BitVec.and_allOnes]⟩
  | c :: t, r => by
    simp only [psF]
    split
    · obtain ⟨m, hm⟩ := psF_sub p b k t (r &&& ~~~ bt c)
      exact ⟨~~~ bt c &&& m, by rw [hm, BitVec.and_assoc]⟩
    · exact psF_sub p b k t r
theorem psS_lt {p k : Int} {b : BitVec 32} (h : psS p k b ≠ b) : pc (psS p k b) < pc b := by
  obtain ⟨m, hm⟩ := psF_sub p b k (lsO b) b
  rw [psS, hm] at h ⊢
  exact pc_and_lt h
theorem psF_drop {p k : Int} {b : BitVec 32} {l : List Int} {j : Nat} (h : j < l.length) (r : BitVec 32) : psF p b k (l.drop j) r = psF p b k (l.drop (j + 1)) (if pk (kyV p b (l.getD j i0)) ≤ k then r &&& ~~~ bt (l.getD j i0) else r) := by
  have e : l.getD j i0 = l[j] := by simp [List.getD_eq_getElem?_getD, List.getElem?_eq_getElem h]
  rw [List.drop_eq_getElem_cons h, e]; rfl
def plF (p k : Int) : Nat → BitVec 32 → Bool
  | 0, b => decide (b = 0#32)
  | n + 1, b => if b = 0#32 then true else if psS p k b = b then false else plF p k n (psS p k b)
theorem plF_stable (p k : Int) : ∀ n m b, pc b ≤ n → pc b ≤ m → plF p k n b = plF p k m b
  | 0, m, b, h, _ => by
    have hz := pc_zero (Nat.le_zero.1 h)
    subst hz
    cases m with
    | zero => rfl
    | succ m => simp only [plF, if_true]; rfl
  | n + 1, 0, b, _, h => by
    have hz := pc_zero (Nat.le_zero.1 h)
    subst hz
    simp only [plF, if_true]; rfl
  | n + 1, m + 1, b, h, h' => by
    simp only [plF]
    split
    · rfl
    · split
      · rfl
      · rename_i hne
        have := psS_lt hne
        exact plF_stable p k n m _ (by omega) (by omega)
/-- all can be taken away so -/
def plV (p k : Int) (b : BitVec 32) : Bool := plF p k 33 b
theorem plV_0 (p k : Int) : plV p k 0#32 = true := by
  show plF p k (32 + 1) 0#32 = true
  simp only [plF, if_true]
theorem plV_stop {p k : Int} {b : BitVec 32} (h : b ≠ 0#32) (h2 : psS p k b = b) : plV p k b = false := by
  show plF p k (32 + 1) b = false
  simp only [plF, if_neg h, if_pos h2]
theorem plV_go {p k : Int} {b : BitVec 32} (h : b ≠ 0#32) (h2 : psS p k b ≠ b) : plV p k b = plV p k (psS p k b) := by
  show plF p k (32 + 1) b = plF p k 33 _
  simp only [plF, if_neg h, if_neg h2]
  have := pc_le (psS p k b)
  exact plF_stable p k 32 33 _ (by omega) (by omega)
noncomputable def d67 : PCtr Tryd.prog := up c67
noncomputable def d68 : PCtr Tryd.prog := up c68
abbrev bb71 (p : Int) (c r : BitVec 32) : H := ⟨[[I p, U c], [I p, U r]], [], []⟩
abbrev o71i (p k : Int) (c : BitVec 32) : List Out :=
  [.mk Unit (.exit 2) [1, 2, 5] (fun _ => True) (fun _ => [I k, .ptr 0 0, .ptr 1 0]) (fun _ => bb71 p c (psS p k c)) (fun _ => [])]
theorem simp71i : allSimpleM none1 (loopAt Tryd.f71 1) = true := by kernel_rfl
theorem bt_32 {c : Int} (h : is32 c) : IntKind.u32.wrap (1 * 2 ^ min c.toNat IntKind.u32.bits) = ((bt c).toNat : Int) := bt_shl (p := 5) (by obtain ⟨_, _⟩ := h; exact ⟨by omega, by show c < 32; omega⟩)
theorem lp71i (p k : Int) (c : BitVec 32) (h0 : p5 p) (E : Env) (hE : E = En5 [c55.to, d67.to, d68.to]) :
    LoopS E (loopAt Tryd.f71 1) 36 [1, 2, 5, 13, 14, 15] [I k, .ptr 0 0, .ptr 1 0, ls (lsO c) (rn (lsO c)), I (lsO c).length, I 0] (bb71 p c c) (o71i p k c) := by
  subst hE
  have hR : Rests (En5 [c55.to, d67.to, d68.to]) none1 := rests mixed (.pure _ (.pure _ (.pure _ .nil)))
  refine loop_s hR simp71i none (by intro _ h; cases h) (fun j vs h => ∃ r, h = bb71 p c r ∧ vs = [I k, .ptr 0 0, .ptr 1 0, ls (lsO c) (rn (lsO c)), I (lsO c).length, I j] ∧ psS p k c = psF p c k ((lsO c).drop j) r) (lsO c).length ⟨c, rfl, rfl, rfl⟩ (by intro _ h; cases h) ?_
  have ht := tw_bd (p := p)
  have hlen := lsO_len c
  rintro j vs h hj ⟨r, rfl, rfl, ha⟩
  by_cases hz : (j : Int) < (lsO c).length
  · have hz' : j < (lsO c).length := by omega
    have hr := rok_idx (rn_rok (lsO c)) hz'
    have hm : is32 ((lsO c).getD j i0) := lsO_in c _ (mem_iff.2 ⟨j, hz', rfl⟩)
    have z67 : p5 p ∧ is32 ((lsO c).getD j i0) := ⟨h0, hm⟩
    have z68 : is32 (kyV p c ((lsO c).getD j i0)) := by
      obtain ⟨_, _⟩ := kyV_bd p c ((lsO c).getD j i0)
      exact ⟨by omega, by omega⟩
    have hm0 : (0 : Int) ≤ (lsO c).getD j i0 := hm.1
    rw [psF_drop hz'] at ha
    by_cases hk : pk (kyV p c ((lsO c).getD j i0)) ≤ k
    · rw [if_pos hk] at ha
      have ev0 := bt_32 hm
      have ev1 := u_andn2 r (bt ((lsO c).getD j i0))
      refine ⟨[Ans.o (Orc.b true), Ans.o (Orc.val 17 (AV.cptr (ints (List.drop j (lsO c)))) (bb71 p c r)), Ans.o (Orc.val 18 (I ((lsO c).getD j i0)) (bb71 p c r)), Ans.o (Orc.val 21 (I (kyV p c ((lsO c).getD j i0))) (H.mk [[I p, AV.int IntKind.u32 (↑c.toNat : Int)], [I p, AV.int IntKind.u32 (↑r.toNat : Int)]] [] [])), Ans.o (Orc.val 22 (I (pk (kyV p c ((lsO c).getD j i0)))) (H.mk [[I p, AV.int IntKind.u32 (↑c.toNat : Int)], [I p, AV.int IntKind.u32 (↑r.toNat : Int)]] [] [])), Ans.o (Orc.b true), Ans.o (Orc.val 28 (AV.int IntKind.u32 (↑(bt ((lsO c).getD j i0)).toNat : Int)) (H.mk [[I p, AV.int IntKind.u32 (↑c.toNat : Int)], [I p, AV.int IntKind.u32 (↑r.toNat : Int)]] [] [])), Ans.o (Orc.val 29 (AV.int IntKind.u32 (↑(r &&& ~~~bt ((lsO c).getD j i0)).toNat : Int)) (H.mk [[I p, AV.int IntKind.u32 (↑c.toNat : Int)], [I p, AV.int IntKind.u32 (↑r.toNat : Int)]] [] []))], fun u => of_eq ((↑j : Int) < (↑(lsO c).length : Int) ∧ aIndexAddr Tryd.prog (22 : Nat) (AV.sl (ints (lsO c)) (lsO c).length (rn (lsO c))) (I (↑j : Int)) = some (AV.cptr (ints (List.drop j (lsO c)))) ∧ aLoad Tryd.prog (3 : Nat) (ints (List.drop j (lsO c))) = some (I ((lsO c).getD j i0)) ∧ aCall (Sof [c55.to, d67.to, d68.to]) (AV.fn (Fn.func (67 : Nat)) [] []) [AV.agg [I p, AV.int IntKind.u32 (↑c.toNat : Int)], I ((lsO c).getD j i0)] (H.mk [[I p, AV.int IntKind.u32 (↑c.toNat : Int)], [I p, AV.int IntKind.u32 (↑r.toNat : Int)]] [] []) = some (I (kyV p c ((lsO c).getD j i0)), H.mk [[I p, AV.int IntKind.u32 (↑c.toNat : Int)], [I p, AV.int IntKind.u32 (↑r.toNat : Int)]] [] []) ∧ aCall (Sof [c55.to, d67.to, d68.to]) (AV.fn (Fn.func (68 : Nat)) [] []) [I (kyV p c ((lsO c).getD j i0))] (H.mk [[I p, AV.int IntKind.u32 (↑c.toNat : Int)], [I p, AV.int IntKind.u32 (↑r.toNat : Int)]] [] []) = some (I (pk (kyV p c ((lsO c).getD j i0))), H.mk [[I p, AV.int IntKind.u32 (↑c.toNat : Int)], [I p, AV.int IntKind.u32 (↑r.toNat : Int)]] [] []) ∧ pk (kyV p c ((lsO c).getD j i0)) ≤ k ∧ aBin Tryd.prog BinOp.shl (72 : Nat) (AV.int IntKind.u32 (1 : Int)) (I ((lsO c).getD j i0)) = some (AV.int IntKind.u32 (↑(bt ((lsO c).getD j i0)).toNat : Int)) ∧ aBin Tryd.prog BinOp.andNot (72 : Nat) (AV.int IntKind.u32 (↑r.toNat : Int)) (AV.int IntKind.u32 (↑(bt ((lsO c).getD j i0)).toNat : Int)) = some (AV.int IntKind.u32 (↑(r &&& ~~~bt ((lsO c).getD j i0)).toNat : Int)) ∧ IntKind.i64.wrap ((↑j : Int) + (1 : Int)) = (↑j : Int) + (1 : Int) ∧ (36 : Nat) = (36 : Nat) ∧ j < (lsO c).length ∧ Keep (∃ r_1, H.mk [[I p, AV.int IntKind.u32 (↑c.toNat : Int)], [I p, AV.int IntKind.u32 (↑(r &&& ~~~bt ((lsO c).getD j i0)).toNat : Int)]] [] [] = H.mk [[I p, AV.int IntKind.u32 (↑c.toNat : Int)], [I p, AV.int IntKind.u32 (↑r_1.toNat : Int)]] [] [] ∧ [I k, AV.ptr 0 0, AV.ptr 1 0, AV.sl (ints (lsO c)) (lsO c).length (rn (lsO c)), I (↑(lsO c).length : Int), I ((↑j : Int) + (1 : Int))] = [I k, AV.ptr 0 0, AV.ptr 1 0, AV.sl (ints (lsO c)) (lsO c).length (rn (lsO c)), I (↑(lsO c).length : Int), I (↑(j + (1 : Nat)) : Int)] ∧ psS p k c = psF p c k (List.drop (j + (1 : Nat)) (lsO c)) r_1)) (by kernel_rfl) ?_⟩
      refine ⟨by first | assumption | omega | (simp only [small, tiny, rng, decide_eq_true_eq, decide_eq_false_iff_not, true_or, or_true, true_and, and_true, Int.reduceEq, Int.reduceNeg, eq_self, reduceIte, if_true, if_false] at *; omega) | (simp [small, tiny, rng, decide_eq_true_eq, decide_eq_false_iff_not, true_or, or_true, true_and, and_true, Int.reduceEq, Int.reduceNeg, eq_self, reduceIte, if_true, if_false] at *; done), ?_⟩
      refine ⟨by first | exact ix_ints (by kernel_rfl) (by omega) (by assumption) | exact ix_ints (by kernel_rfl) (by omega) (rok_idx (by assumption) (by omega)), ?_⟩
      refine ⟨ld_ints (by kernel_rfl) (by kernel_rfl) (by omega), ?_⟩
      refine ⟨acall_hit (c := d67.to) (p, c, (lsO c).getD j i0) _ rfl z67, ?_⟩
      refine ⟨acall_hit (c := d68.to) (kyV p c ((lsO c).getD j i0)) _ rfl z68, ?_⟩
      refine ⟨by first | assumption | omega | (simp only [small, tiny, rng, decide_eq_true_eq, decide_eq_false_iff_not, true_or, or_true, true_and, and_true, Int.reduceEq, Int.reduceNeg, eq_self, reduceIte, if_true, if_false] at *; omega) | (simp [small, tiny, rng, decide_eq_true_eq, decide_eq_false_iff_not, true_or, or_true, true_and, and_true, Int.reduceEq, Int.reduceNeg, eq_self, reduceIte, if_true, if_false] at *; done), ?_⟩
      refine ⟨by first | exact told_shl hm0 (by assumption) | exact told_andn (by assumption), ?_⟩
      refine ⟨by first | exact told_shl hm0 (by assumption) | exact told_andn (by assumption), ?_⟩
      refine ⟨by first | exact wr _ (by omega) (by omega) | (refine wr _ ?_ ?_ <;> (simp only [small, tiny, rng, decide_eq_true_eq, decide_eq_false_iff_not, true_or, or_true, true_and, and_true, Int.reduceEq, Int.reduceNeg, eq_self, reduceIte, if_true, if_false] at *; omega)), ?_⟩
      refine ⟨by first | assumption | omega | (simp only [small, tiny, rng, decide_eq_true_eq, decide_eq_false_iff_not, true_or, or_true, true_and, and_true, Int.reduceEq, Int.reduceNeg, eq_self, reduceIte, if_true, if_false] at *; omega) | (simp [small, tiny, rng, decide_eq_true_eq, decide_eq_false_iff_not, true_or, or_true, true_and, and_true, Int.reduceEq, Int.reduceNeg, eq_self, reduceIte, if_true, if_false] at *; done), ?_⟩
      refine ⟨by first | assumption | omega | (simp only [small, tiny, rng, decide_eq_true_eq, decide_eq_false_iff_not, true_or, or_true, true_and, and_true, Int.reduceEq, Int.reduceNeg, eq_self, reduceIte, if_true, if_false] at *; omega) | (simp [small, tiny, rng, decide_eq_true_eq, decide_eq_false_iff_not, true_or, or_true, true_and, and_true, Int.reduceEq, Int.reduceNeg, eq_self, reduceIte, if_true, if_false] at *; done), ?_⟩
      exact ⟨_, rfl, rfl, ha⟩
    · rw [if_neg hk] at ha
      have hk : k < pk (kyV p c ((lsO c).getD j i0)) := by omega
      refine ⟨[Ans.o (Orc.b true), Ans.o (Orc.val 17 (AV.cptr (ints (List.drop j (lsO c)))) (bb71 p c r)), Ans.o (Orc.val 18 (I ((lsO c).getD j i0)) (bb71 p c r)), Ans.o (Orc.val 21 (I (kyV p c ((lsO c).getD j i0))) (H.mk [[I p, AV.int IntKind.u32 (↑c.toNat : Int)], [I p, AV.int IntKind.u32 (↑r.toNat : Int)]] [] [])), Ans.o (Orc.val 22 (I (pk (kyV p c ((lsO c).getD j i0)))) (H.mk [[I p, AV.int IntKind.u32 (↑c.toNat : Int)], [I p, AV.int IntKind.u32 (↑r.toNat : Int)]] [] [])), Ans.o (Orc.b false)], fun u => of_eq ((↑j : Int) < (↑(lsO c).length : Int) ∧ aIndexAddr Tryd.prog (22 : Nat) (AV.sl (ints (lsO c)) (lsO c).length (rn (lsO c))) (I (↑j : Int)) = some (AV.cptr (ints (List.drop j (lsO c)))) ∧ aLoad Tryd.prog (3 : Nat) (ints (List.drop j (lsO c))) = some (I ((lsO c).getD j i0)) ∧ aCall (Sof [c55.to, d67.to, d68.to]) (AV.fn (Fn.func (67 : Nat)) [] []) [AV.agg [I p, AV.int IntKind.u32 (↑c.toNat : Int)], I ((lsO c).getD j i0)] (H.mk [[I p, AV.int IntKind.u32 (↑c.toNat : Int)], [I p, AV.int IntKind.u32 (↑r.toNat : Int)]] [] []) = some (I (kyV p c ((lsO c).getD j i0)), H.mk [[I p, AV.int IntKind.u32 (↑c.toNat : Int)], [I p, AV.int IntKind.u32 (↑r.toNat : Int)]] [] []) ∧ aCall (Sof [c55.to, d67.to, d68.to]) (AV.fn (Fn.func (68 : Nat)) [] []) [I (kyV p c ((lsO c).getD j i0))] (H.mk [[I p, AV.int IntKind.u32 (↑c.toNat : Int)], [I p, AV.int IntKind.u32 (↑r.toNat : Int)]] [] []) = some (I (pk (kyV p c ((lsO c).getD j i0))), H.mk [[I p, AV.int IntKind.u32 (↑c.toNat : Int)], [I p, AV.int IntKind.u32 (↑r.toNat : Int)]] [] []) ∧ k < pk (kyV p c ((lsO c).getD j i0)) ∧ IntKind.i64.wrap ((↑j : Int) + (1 : Int)) = (↑j : Int) + (1 : Int) ∧ (36 : Nat) = (36 : Nat) ∧ j < (lsO c).length ∧ Keep (∃ r_1, H.mk [[I p, AV.int IntKind.u32 (↑c.toNat : Int)], [I p, AV.int IntKind.u32 (↑r.toNat : Int)]] [] [] = H.mk [[I p, AV.int IntKind.u32 (↑c.toNat : Int)], [I p, AV.int IntKind.u32 (↑r_1.toNat : Int)]] [] [] ∧ [I k, AV.ptr 0 0, AV.ptr 1 0, AV.sl (ints (lsO c)) (lsO c).length (rn (lsO c)), I (↑(lsO c).length : Int), I ((↑j : Int) + (1 : Int))] = [I k, AV.ptr 0 0, AV.ptr 1 0, AV.sl (ints (lsO c)) (lsO c).length (rn (lsO c)), I (↑(lsO c).length : Int), I (↑(j + (1 : Nat)) : Int)] ∧ psS p k c = psF p c k (List.drop (j + (1 : Nat)) (lsO c)) r_1)) (by kernel_rfl) ?_⟩
      refine ⟨by first | assumption | omega | (simp only [small, tiny, rng, decide_eq_true_eq, decide_eq_false_iff_not, true_or, or_true, true_and, and_true, Int.reduceEq, Int.reduceNeg, eq_self, reduceIte, if_true, if_false] at *; omega) | (simp [small, tiny, rng, decide_eq_true_eq, decide_eq_false_iff_not, true_or, or_true, true_and, and_true, Int.reduceEq, Int.reduceNeg, eq_self, reduceIte, if_true, if_false] at *; done), ?_⟩
      refine ⟨by first | exact ix_ints (by kernel_rfl) (by omega) (by assumption) | exact ix_ints (by kernel_rfl) (by omega) (rok_idx (by assumption) (by omega)), ?_⟩
      refine ⟨ld_ints (by kernel_rfl) (by kernel_rfl) (by omega), ?_⟩
      refine ⟨acall_hit (c := d67.to) (p, c, (lsO c).getD j i0) _ rfl z67, ?_⟩
      refine ⟨acall_hit (c := d68.to) (kyV p c ((lsO c).getD j i0)) _ rfl z68, ?_⟩
      refine ⟨by first | assumption | omega | (simp only [small, tiny, rng, decide_eq_true_eq, decide_eq_false_iff_not, true_or, or_true, true_and, and_true, Int.reduceEq, Int.reduceNeg, eq_self, reduceIte, if_true, if_false] at *; omega) | (simp [small, tiny, rng, decide_eq_true_eq, decide_eq_false_iff_not, true_or, or_true, true_and, and_true, Int.reduceEq, Int.reduceNeg, eq_self, reduceIte, if_true, if_false] at *; done), ?_⟩
      refine ⟨by first | exact wr _ (by omega) (by omega) | (refine wr _ ?_ ?_ <;> (simp only [small, tiny, rng, decide_eq_true_eq, decide_eq_false_iff_not, true_or, or_true, true_and, and_true, Int.reduceEq, Int.reduceNeg, eq_self, reduceIte, if_true, if_false] at *; omega)), ?_⟩
      refine ⟨by first | assumption | omega | (simp only [small, tiny, rng, decide_eq_true_eq, decide_eq_false_iff_not, true_or, or_true, true_and, and_true, Int.reduceEq, Int.reduceNeg, eq_self, reduceIte, if_true, if_false] at *; omega) | (simp [small, tiny, rng, decide_eq_true_eq, decide_eq_false_iff_not, true_or, or_true, true_and, and_true, Int.reduceEq, Int.reduceNeg, eq_self, reduceIte, if_true, if_false] at *; done), ?_⟩
      refine ⟨by first | assumption | omega | (simp only [small, tiny, rng, decide_eq_true_eq, decide_eq_false_iff_not, true_or, or_true, true_and, and_true, Int.reduceEq, Int.reduceNeg, eq_self, reduceIte, if_true, if_false] at *; omega) | (simp [small, tiny, rng, decide_eq_true_eq, decide_eq_false_iff_not, true_or, or_true, true_and, and_true, Int.reduceEq, Int.reduceNeg, eq_self, reduceIte, if_true, if_false] at *; done), ?_⟩
      exact ⟨_, rfl, rfl, ha⟩
  · have hz : ((lsO c).length : Int) ≤ j := by omega
    have e : j = (lsO c).length := by omega
    subst e
    rw [List.drop_length] at ha
    have ha : psS p k c = r := ha
    subst ha
    refine ⟨[Ans.o (Orc.b false)], fun u => of_eq ((↑(lsO c).length : Int) ≤ (↑(lsO c).length : Int) ∧ (36 : Nat) = (36 : Nat) ∧ hits [Out.mk Unit (AX.exit (2 : Nat)) [(1 : Nat), (2 : Nat), (5 : Nat)] (fun x => True) (fun x => [I k, AV.ptr 0 0, AV.ptr 1 0]) (fun x => bb71 p c (psS p k c)) fun x => []] (AX.exit (2 : Nat)) [u (0 : Nat), I k, AV.ptr 0 0, u (3 : Nat), u (4 : Nat), AV.ptr 1 0, u (6 : Nat), u (7 : Nat), u (8 : Nat), u (9 : Nat), u (10 : Nat), u (11 : Nat), u (12 : Nat), AV.sl (ints (lsO c)) (lsO c).length (rn (lsO c)), I (↑(lsO c).length : Int), I (↑(lsO c).length : Int), AV.bool false, u (17 : Nat), u (18 : Nat), u (19 : Nat), u (20 : Nat), u (21 : Nat), u (22 : Nat), u (23 : Nat), u (24 : Nat), u (25 : Nat), u (26 : Nat), u (27 : Nat), u (28 : Nat), u (29 : Nat), u (30 : Nat), u (31 : Nat), u (32 : Nat), u (33 : Nat), u (34 : Nat), u (35 : Nat)] (H.mk [[I p, AV.int IntKind.u32 (↑c.toNat : Int)], [I p, AV.int IntKind.u32 (↑(psS p k c).toNat : Int)]] [] [])) (by kernel_rfl) ?_⟩
    refine ⟨by first | assumption | omega | (simp only [small, tiny, rng, decide_eq_true_eq, decide_eq_false_iff_not, true_or, or_true, true_and, and_true, Int.reduceEq, Int.reduceNeg, eq_self, reduceIte, if_true, if_false] at *; omega) | (simp [small, tiny, rng, decide_eq_true_eq, decide_eq_false_iff_not, true_or, or_true, true_and, and_true, Int.reduceEq, Int.reduceNeg, eq_self, reduceIte, if_true, if_false] at *; done), ?_⟩
    refine ⟨by first | assumption | omega | (simp only [small, tiny, rng, decide_eq_true_eq, decide_eq_false_iff_not, true_or, or_true, true_and, and_true, Int.reduceEq, Int.reduceNeg, eq_self, reduceIte, if_true, if_false] at *; omega) | (simp [small, tiny, rng, decide_eq_true_eq, decide_eq_false_iff_not, true_or, or_true, true_and, and_true, Int.reduceEq, Int.reduceNeg, eq_self, reduceIte, if_true, if_false] at *; done), ?_⟩
    exact .inl ⟨(), trivial, rfl, rfl, rfl⟩
abbrev o71 (p k : Int) (b : BitVec 32) : List Out :=
  [.mk (List (List AV)) .ret [4] (fun _ => plV p k b = false) (fun _ => [.bool false]) (fun bs => ⟨bs, [], []⟩) (fun _ => []),
   .mk (List (List AV)) (.exit 0) [] (fun _ => plV p k b = true) (fun _ => []) (fun bs => ⟨bs, [], []⟩) (fun _ => [])]
theorem simp71 : allSimpleM none1 (loopAt Tryd.f71 0) = true := by kernel_rfl
theorem lp71 (p k : Int) (b : BitVec 32) (h0 : p5 p) :
    LoopS (En5 [c55.to, d67.to, d68.to]) (loopAt Tryd.f71 0) 36 [1, 2] [I k, .ptr 0 0] ⟨[[I p, U b]], [], []⟩ (o71 p k b) := by
  have hR : Rests (En5 [c55.to, d67.to, d68.to]) none1 := rests mixed (.pure _ (.pure _ (.pure _ .nil)))
  refine loop_s hR simp71 (some 1) (by intro nb h; cases h; exact ⟨Nat.zero_le _, Nat.le_refl 1⟩) (fun j vs h => ∃ c : BitVec 32, h = ⟨[[I p, U c]], [], []⟩ ∧ vs = [I k, .ptr 0 0] ∧ plV p k b = plV p k c ∧ pc c + j ≤ 32) 32 ⟨b, rfl, rfl, rfl, by have := pc_le b; omega⟩ (by rintro nb h j vs h' ⟨c, rfl, _⟩; cases h; exact Nat.le_refl 1) ?_
  rintro j vs h hj ⟨c, rfl, rfl, ha, hb⟩
  by_cases hz : c = 0#32
  · have hu : (c.toNat : Int) = 0 := (u_eq0 c).2 hz
    have ha : plV p k b = true := by rw [ha, hz, plV_0]
    refine ⟨[Ans.o (Orc.b false)], fun u => of_eq ((↑c.toNat : Int) = (0 : Int) ∧ (36 : Nat) = (36 : Nat) ∧ hits [Out.mk (List (List AV)) AX.ret [(4 : Nat)] (fun x => plV p k b = false) (fun x => [AV.bool false]) (fun bs => H.mk bs [] []) fun x => [], Out.mk (List (List AV)) (AX.exit (0 : Nat)) [] (fun x => plV p k b = true) (fun x => []) (fun bs => H.mk bs [] []) fun x => []] (AX.exit (0 : Nat)) [u (0 : Nat), I k, AV.ptr 0 0, u (3 : Nat), u (4 : Nat), u (5 : Nat), u (6 : Nat), u (7 : Nat), AV.ptr 0 1, AV.int IntKind.u32 (↑c.toNat : Int), AV.bool false, u (11 : Nat), u (12 : Nat), u (13 : Nat), u (14 : Nat), u (15 : Nat), u (16 : Nat), u (17 : Nat), u (18 : Nat), u (19 : Nat), u (20 : Nat), u (21 : Nat), u (22 : Nat), u (23 : Nat), u (24 : Nat), u (25 : Nat), u (26 : Nat), u (27 : Nat), u (28 : Nat), u (29 : Nat), u (30 : Nat), u (31 : Nat), u (32 : Nat), u (33 : Nat), u (34 : Nat), u (35 : Nat)] (H.mk [[I p, AV.int IntKind.u32 (↑c.toNat : Int)]] [] [])) (by kernel_rfl) ?_⟩
    refine ⟨by first | assumption | omega | (simp only [small, tiny, rng, decide_eq_true_eq, decide_eq_false_iff_not, true_or, or_true, true_and, and_true, Int.reduceEq, Int.reduceNeg, eq_self, reduceIte, if_true, if_false] at *; omega) | (simp [small, tiny, rng, decide_eq_true_eq, decide_eq_false_iff_not, true_or, or_true, true_and, and_true, Int.reduceEq, Int.reduceNeg, eq_self, reduceIte, if_true, if_false] at *; done), ?_⟩
    refine ⟨by first | assumption | omega | (simp only [small, tiny, rng, decide_eq_true_eq, decide_eq_false_iff_not, true_or, or_true, true_and, and_true, Int.reduceEq, Int.reduceNeg, eq_self, reduceIte, if_true, if_false] at *; omega) | (simp [small, tiny, rng, decide_eq_true_eq, decide_eq_false_iff_not, true_or, or_true, true_and, and_true, Int.reduceEq, Int.reduceNeg, eq_self, reduceIte, if_true, if_false] at *; done), ?_⟩
    exact .inr (.inl ⟨_, ha, rfl, rfl, rfl⟩)
  · have hu : (c.toNat : Int) ≠ 0 := fun h => hz ((u_eq0 c).1 h)
    by_cases he : psS p k c = c
    · have ha : plV p k b = false := by rw [ha]; exact plV_stop hz he
      refine ⟨[Ans.o (Orc.b true), Ans.o (Orc.val 13 (AV.sl (ints (lsO c)) (lsO c).length (rn (lsO c))) (H.mk [[I p, AV.int IntKind.u32 (↑c.toNat : Int)], [I p, AV.int IntKind.u32 (↑c.toNat : Int)]] [] [])), Ans.loop [(1 : Nat), (2 : Nat), (5 : Nat), (13 : Nat), (14 : Nat), (15 : Nat)] [Out.mk Unit (AX.exit (2 : Nat)) [(1 : Nat), (2 : Nat), (5 : Nat)] (fun x => True) (fun x => [I k, AV.ptr 0 0, AV.ptr 1 0]) (fun x => bb71 p c (psS p k c)) fun y => [Ans.bfork (34 : Nat) [] []]]], fun u => of_eq ((↑c.toNat : Int) ≠ (0 : Int) ∧ aCall (Sof [c55.to, d67.to, d68.to]) (AV.fn (Fn.func (55 : Nat)) [] []) [AV.agg [I p, AV.int IntKind.u32 (↑c.toNat : Int)]] (H.mk [[I p, AV.int IntKind.u32 (↑c.toNat : Int)], [I p, AV.int IntKind.u32 (↑c.toNat : Int)]] [] []) = some (AV.sl (ints (lsO c)) (lsO c).length (rn (lsO c)), H.mk [[I p, AV.int IntKind.u32 (↑c.toNat : Int)], [I p, AV.int IntKind.u32 (↑c.toNat : Int)]] [] []) ∧ LoopS (Env.mk Tryd.prog (Sof [c55.to, d67.to, d68.to]) (Pof (P := Tryd.prog) []) H.nil.base (300 : Nat)) (loopAt Tryd.f71 (1 : Nat)) (36 : Nat) [(1 : Nat), (2 : Nat), (5 : Nat), (13 : Nat), (14 : Nat), (15 : Nat)] [I k, AV.ptr 0 0, AV.ptr 1 0, AV.sl (ints (lsO c)) (lsO c).length (rn (lsO c)), I (↑(lsO c).length : Int), I 0] (H.mk [[I p, AV.int IntKind.u32 (↑c.toNat : Int)], [I p, AV.int IntKind.u32 (↑c.toNat : Int)]] [] []) [Out.mk Unit (AX.exit (2 : Nat)) [(1 : Nat), (2 : Nat), (5 : Nat)] (fun x => True) (fun x => [I k, AV.ptr 0 0, AV.ptr 1 0]) (fun x => bb71 p c (psS p k c)) fun y => [Ans.bfork (34 : Nat) [] []]] ∧ (∀ (y : Unit), True → ∀ (u : Nat → AV), ((p == p && ((↑(psS p k c).toNat : Int) == (↑c.toNat : Int) && true)) = true → (36 : Nat) = (36 : Nat) ∧ hits [Out.mk (List (List AV)) AX.ret [(4 : Nat)] (fun x => plV p k b = false) (fun x => [AV.bool false]) (fun bs => H.mk bs [] []) fun x => [], Out.mk (List (List AV)) (AX.exit (0 : Nat)) [] (fun x => plV p k b = true) (fun x => []) (fun bs => H.mk bs [] []) fun x => []] AX.ret [u (0 : Nat), I k, AV.ptr 0 0, u (3 : Nat), AV.bool false, AV.ptr 1 0, u (6 : Nat), u (7 : Nat), u (8 : Nat), u (9 : Nat), u (10 : Nat), u (11 : Nat), u (12 : Nat), u (13 : Nat), u (14 : Nat), u (15 : Nat), u (16 : Nat), u (17 : Nat), u (18 : Nat), u (19 : Nat), u (20 : Nat), u (21 : Nat), u (22 : Nat), u (23 : Nat), u (24 : Nat), u (25 : Nat), u (26 : Nat), u (27 : Nat), u (28 : Nat), u (29 : Nat), u (30 : Nat), u (31 : Nat), AV.agg [I p, AV.int IntKind.u32 (↑(psS p k c).toNat : Int)], AV.agg [I p, AV.int IntKind.u32 (↑c.toNat : Int)], AV.bool true, u (35 : Nat)] (H.mk [[I p, AV.int IntKind.u32 (↑c.toNat : Int)], [I p, AV.int IntKind.u32 (↑(psS p k c).toNat : Int)]] [] [])) ∧ ((p == p && ((↑(psS p k c).toNat : Int) == (↑c.toNat : Int) && true)) = false → (36 : Nat) = (36 : Nat) ∧ j < (32 : Nat) ∧ Keep (AV.bnds (1 : Nat) (0 : Nat) (0 : Nat) [I k, AV.ptr 0 0] = true ∧ (H.mk [[I p, AV.int IntKind.u32 (↑(psS p k c).toNat : Int)], [I p, AV.int IntKind.u32 (↑(psS p k c).toNat : Int)]] [] []).clean (1 : Nat) ∧ ∃ c_1, H.mk [[I p, AV.int IntKind.u32 (↑(psS p k c).toNat : Int)]] [] [] = H.mk [[I p, AV.int IntKind.u32 (↑c_1.toNat : Int)]] [] [] ∧ [I k, AV.ptr 0 0] = [I k, AV.ptr 0 0] ∧ plV p k b = plV p k c_1 ∧ pc c_1 + (j + (1 : Nat)) ≤ (32 : Nat)))) ∧ True) (by kernel_rfl) ?_⟩
      refine ⟨by first | assumption | omega | (exfalso; simp_all; done), ?_⟩
      refine ⟨acall_hit (c := c55.to) (p, c) _ rfl trivial, ?_⟩
      refine ⟨lp71i p k c h0 _ rfl, ?_⟩
      refine And.intro ?_ ?_
      · skip
        intro y
        intro w1
        intro u
        refine And.intro ?_ ?_
        · skip
          intro w3
          refine ⟨by first | assumption | omega | (exfalso; simp_all; done), ?_⟩
          exact .inl ⟨_, ha, rfl, rfl, rfl⟩
        · skip
          intro w3
          refine ⟨by first | assumption | omega | (exfalso; simp_all; done), ?_⟩
          refine ⟨by first | assumption | omega | (exfalso; simp_all; done), ?_⟩
          (exfalso; simp_all; done)
      · skip
        trivial
    · have ha : plV p k b = plV p k (psS p k c) := by rw [ha]; exact plV_go hz he
      have hlt := psS_lt he
      have hpc : pc (psS p k c) + (j + 1) ≤ 32 := by omega
      refine ⟨[Ans.o (Orc.b true), Ans.o (Orc.val 13 (AV.sl (ints (lsO c)) (lsO c).length (rn (lsO c))) (H.mk [[I p, AV.int IntKind.u32 (↑c.toNat : Int)], [I p, AV.int IntKind.u32 (↑c.toNat : Int)]] [] [])), Ans.loop [(1 : Nat), (2 : Nat), (5 : Nat), (13 : Nat), (14 : Nat), (15 : Nat)] [Out.mk Unit (AX.exit (2 : Nat)) [(1 : Nat), (2 : Nat), (5 : Nat)] (fun x => True) (fun x => [I k, AV.ptr 0 0, AV.ptr 1 0]) (fun x => bb71 p c (psS p k c)) fun y => [Ans.bfork (34 : Nat) [] []]]], fun u => of_eq ((↑c.toNat : Int) ≠ (0 : Int) ∧ aCall (Sof [c55.to, d67.to, d68.to]) (AV.fn (Fn.func (55 : Nat)) [] []) [AV.agg [I p, AV.int IntKind.u32 (↑c.toNat : Int)]] (H.mk [[I p, AV.int IntKind.u32 (↑c.toNat : Int)], [I p, AV.int IntKind.u32 (↑c.toNat : Int)]] [] []) = some (AV.sl (ints (lsO c)) (lsO c).length (rn (lsO c)), H.mk [[I p, AV.int IntKind.u32 (↑c.toNat : Int)], [I p, AV.int IntKind.u32 (↑c.toNat : Int)]] [] []) ∧ LoopS (Env.mk Tryd.prog (Sof [c55.to, d67.to, d68.to]) (Pof (P := Tryd.prog) []) H.nil.base (300 : Nat)) (loopAt Tryd.f71 (1 : Nat)) (36 : Nat) [(1 : Nat), (2 : Nat), (5 : Nat), (13 : Nat), (14 : Nat), (15 : Nat)] [I k, AV.ptr 0 0, AV.ptr 1 0, AV.sl (ints (lsO c)) (lsO c).length (rn (lsO c)), I (↑(lsO c).length : Int), I 0] (H.mk [[I p, AV.int IntKind.u32 (↑c.toNat : Int)], [I p, AV.int IntKind.u32 (↑c.toNat : Int)]] [] []) [Out.mk Unit (AX.exit (2 : Nat)) [(1 : Nat), (2 : Nat), (5 : Nat)] (fun x => True) (fun x => [I k, AV.ptr 0 0, AV.ptr 1 0]) (fun x => bb71 p c (psS p k c)) fun y => [Ans.bfork (34 : Nat) [] []]] ∧ (∀ (y : Unit), True → ∀ (u : Nat → AV), ((p == p && ((↑(psS p k c).toNat : Int) == (↑c.toNat : Int) && true)) = true → (36 : Nat) = (36 : Nat) ∧ hits [Out.mk (List (List AV)) AX.ret [(4 : Nat)] (fun x => plV p k b = false) (fun x => [AV.bool false]) (fun bs => H.mk bs [] []) fun x => [], Out.mk (List (List AV)) (AX.exit (0 : Nat)) [] (fun x => plV p k b = true) (fun x => []) (fun bs => H.mk bs [] []) fun x => []] AX.ret [u (0 : Nat), I k, AV.ptr 0 0, u (3 : Nat), AV.bool false, AV.ptr 1 0, u (6 : Nat), u (7 : Nat), u (8 : Nat), u (9 : Nat), u (10 : Nat), u (11 : Nat), u (12 : Nat), u (13 : Nat), u (14 : Nat), u (15 : Nat), u (16 : Nat), u (17 : Nat), u (18 : Nat), u (19 : Nat), u (20 : Nat), u (21 : Nat), u (22 : Nat), u (23 : Nat), u (24 : Nat), u (25 : Nat), u (26 : Nat), u (27 : Nat), u (28 : Nat), u (29 : Nat), u (30 : Nat), u (31 : Nat), AV.agg [I p, AV.int IntKind.u32 (↑(psS p k c).toNat : Int)], AV.agg [I p, AV.int IntKind.u32 (↑c.toNat : Int)], AV.bool true, u (35 : Nat)] (H.mk [[I p, AV.int IntKind.u32 (↑c.toNat : Int)], [I p, AV.int IntKind.u32 (↑(psS p k c).toNat : Int)]] [] [])) ∧ ((p == p && ((↑(psS p k c).toNat : Int) == (↑c.toNat : Int) && true)) = false → (36 : Nat) = (36 : Nat) ∧ j < (32 : Nat) ∧ Keep (AV.bnds (1 : Nat) (0 : Nat) (0 : Nat) [I k, AV.ptr 0 0] = true ∧ (H.mk [[I p, AV.int IntKind.u32 (↑(psS p k c).toNat : Int)], [I p, AV.int IntKind.u32 (↑(psS p k c).toNat : Int)]] [] []).clean (1 : Nat) ∧ ∃ c_1, H.mk [[I p, AV.int IntKind.u32 (↑(psS p k c).toNat : Int)]] [] [] = H.mk [[I p, AV.int IntKind.u32 (↑c_1.toNat : Int)]] [] [] ∧ [I k, AV.ptr 0 0] = [I k, AV.ptr 0 0] ∧ plV p k b = plV p k c_1 ∧ pc c_1 + (j + (1 : Nat)) ≤ (32 : Nat)))) ∧ True) (by kernel_rfl) ?_⟩
      refine ⟨by first | assumption | omega | (exfalso; simp_all; done), ?_⟩
      refine ⟨acall_hit (c := c55.to) (p, c) _ rfl trivial, ?_⟩
      refine ⟨lp71i p k c h0 _ rfl, ?_⟩
      refine And.intro ?_ ?_
      · skip
        intro y
        intro w1
        intro u
        refine And.intro ?_ ?_
        · skip
          intro w3
          refine ⟨by first | assumption | omega | (exfalso; simp_all; done), ?_⟩
          (exfalso; simp_all; done)
        · skip
          intro w3
          refine ⟨by first | assumption | omega | (exfalso; simp_all; done), ?_⟩
          refine ⟨by first | assumption | omega | (exfalso; simp_all; done), ?_⟩
          exact ⟨rfl, clean1 _ _ rfl, _, rfl, rfl, ha, hpc⟩
      · skip
        trivial
theorem ok71 : FokM Tryd.prog none1 71 Tryd.f71 := ⟨mixed, by kernel_rfl, by kernel_rfl, by kernel_rfl, by kernel_rfl⟩
theorem r71 (p : Int) (k : Int) (b : BitVec 32) (hp : p5 p) : Body ⟨Tryd.prog, Sof (P := Tryd.prog) [c55.to, d67.to, d68.to], Pof (P := Tryd.prog) [], H.nil.base, 300⟩ none1 Tryd.f71 [cA p b, I k] .nil (.bool (plV p k b), .nil) := by
  refine body_s ([Ans.loop [(1 : Nat), (2 : Nat)] [Out.mk (List (List AV)) AX.ret [(4 : Nat)] (fun x => plV p k b = false) (fun x => [AV.bool false]) (fun bs => H.mk bs [] []) fun y => [], Out.mk (List (List AV)) (AX.exit (0 : Nat)) [] (fun x => plV p k b = true) (fun x => []) (fun bs => H.mk bs [] []) fun y => []]]) (LoopS (Env.mk Tryd.prog (Sof [c55.to, d67.to, d68.to]) (Pof (P := Tryd.prog) []) H.nil.base (300 : Nat)) (loopAt Tryd.f71 (0 : Nat)) (36 : Nat) [(1 : Nat), (2 : Nat)] [I k, AV.ptr 0 0] (H.mk [[I p, AV.int IntKind.u32 (↑b.toNat : Int)]] [] []) [Out.mk (List (List AV)) AX.ret [(4 : Nat)] (fun x => plV p k b = false) (fun x => [AV.bool false]) (fun bs => H.mk bs [] []) fun y => [], Out.mk (List (List AV)) (AX.exit (0 : Nat)) [] (fun x => plV p k b = true) (fun x => []) (fun bs => H.mk bs [] []) fun y => []] ∧ (∀ (y : List (List AV)), plV p k b = false → ∀ (u : Nat → AV), (AV.bool false, H.mk [] [] []) = (AV.bool (plV p k b), H.mk [] [] [])) ∧ (∀ (y : List (List AV)), plV p k b = true → ∀ (u : Nat → AV), (AV.bool true, H.mk [] [] []) = (AV.bool (plV p k b), H.mk [] [] [])) ∧ True) (by kernel_rfl) ?_
  refine ⟨lp71 p k b hp, ?_⟩
  refine And.intro ?_ ?_
  · skip
    intro y
    intro w1
    intro u
    (have hw := (by assumption : plV p k b = _); rw [hw])
  · skip
    refine And.intro ?_ ?_
    · skip
      intro y
      intro w1
      intro u
      (have hw := (by assumption : plV p k b = _); rw [hw])
    · skip
      trivial
noncomputable def c71 : PCtr Tryd.prog := sctr ok71 (X := Int × Int × BitVec 32) (fun x => [cA x.1 x.2.2, I x.2.1]) (fun x => p5 x.1) (fun x => .bool (plV x.1 x.2.1 x.2.2)) (by intro x y e _ _; simp at e; simp [e]) (fun x => by simp [AV.bnds, AV.bnd, AV.wk, rm_wk_bnd]) (fun x => by first | rfl | (simp [AV.bnd, rm_wk_bnd]; done)  | (simp [AV.bnd, AV.bnds, rm_wk_bnd]; done) | simp [AV.bnd, AV.bnds, Room.bnd, rm_wk_bnd]) (fun x hx => ⟨_, _, _, .pure c55 (.pure d67 (.pure d68 (.nil))), r71 (x.1) (x.2.1) (x.2.2) hx⟩)
end Go.Proofs.Lrn

