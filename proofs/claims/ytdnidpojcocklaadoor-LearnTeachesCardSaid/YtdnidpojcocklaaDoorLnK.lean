/- Layer 4: keys. -/
import Derived.Test.YtdnidpojcocklaaDoorLnJ
import Derived.Test.YtdnidpojcocklaaDoorLnN0
import Derived.KernelRfl
set_option linter.unusedSimpArgs false
set_option linter.unusedVariables false
set_option linter.unnecessarySimpa false
set_option maxHeartbeats 4000000
set_option maxRecDepth 100000
namespace Go.Proofs.Lrn
open Go Go.VM

/-- the concepts that agree with one on some points -/
def kf (b : BitVec 32) (s k : Nat) : Nat → BitVec 32
  | 0 => b
  | j + 1 => if s / 2 ^ j % 2 = 1 then pt (kf b s k j) (j : Int) ((k / 2 ^ j % 2 : Nat) : Int) else kf b s k j
def isk (p : Int) (b : BitVec 32) (s k : Int) : Bool := decide ((pc (kf b s.toNat k.toNat p.toNat) : Int) = 1)
abbrev pre83 (p s k : Int) : Prop := p5 p ∧ is32 s ∧ is32 k
abbrev b83 (p : Int) (b : BitVec 32) : H := ⟨[[I p, U b]], [], []⟩
abbrev o83 (p : Int) (b : BitVec 32) (s k : Nat) : List Out :=
  [.mk Unit (.exit 0) [3] (fun _ => True) (fun _ => [.ptr 0 0]) (fun _ => b83 p (kf b s k p.toNat)) (fun _ => [])]
theorem simp83 : allSimpleM none1 (loopAt Tryd.f83 0) = true := by kernel_rfl
theorem lp83 (p : Int) (b : BitVec 32) (s k : Nat) (h0 : p5 p) (h1 : s < 32) (h2 : k < 32) :
    LoopS (En4 [c75.to, c85.to]) (loopAt Tryd.f83 0) 29 [1, 2, 3, 9, 10] [I (s : Int), I (k : Int), .ptr 0 0, I p, I 0] (b83 p b) (o83 p b s k) := by
  have hR : Rests (En4 [c75.to, c85.to]) none1 := rests mixed (.pure _ (.pure _ .nil))
  refine loop_s hR simp83 none (by intro _ h; cases h) (fun j vs h => h = b83 p (kf b s k j) ∧ vs = [I (s : Int), I (k : Int), .ptr 0 0, I p, I j] ∧ (j : Int) ≤ p) p.toNat ⟨rfl, rfl, by obtain ⟨_, _⟩ := h0; omega⟩ (by intro _ h; cases h) ?_
  have g0 := h0
  obtain ⟨g1, g2⟩ := g0
  rintro j vs h hj ⟨rfl, rfl, hle⟩
  by_cases hz : (j : Int) < p
  · have hle2 : ((j + 1 : Nat) : Int) ≤ p := by omega
    have hs2 : s / 2 ^ j < 18446744073709551616 := Nat.lt_of_le_of_lt (Nat.div_le_self _ _) (by omega)
    have hk2 : k / 2 ^ j < 18446744073709551616 := Nat.lt_of_le_of_lt (Nat.div_le_self _ _) (by omega)
    have ev0 := shr_nat s j (by omega)
    have ev1 := shr_nat k j (by omega)
    have ev2 := and1 hs2
    have ev3 := and1 hk2
    have hy : ((k / 2 ^ j % 2 : Nat) : Int) = 0 ∨ ((k / 2 ^ j % 2 : Nat) : Int) = 1 := by omega
    have hx : is5 (j : Int) := ⟨by omega, by omega⟩
    have z : is5 (j : Int) ∧ (((k / 2 ^ j % 2 : Nat) : Int) = 0 ∨ ((k / 2 ^ j % 2 : Nat) : Int) = 1) := ⟨hx, hy⟩
    have hjn : (0 : Int) ≤ (j : Int) := by omega
    by_cases hb : ((s / 2 ^ j % 2 : Nat) : Int) = 1
    · have e : kf b s k (j + 1) = pt (kf b s k j) (j : Int) ((k / 2 ^ j % 2 : Nat) : Int) := by simp only [kf]; rw [if_pos (by omega)]
      refine ⟨[Ans.o (Orc.b true), Ans.o (Orc.val 15 (I (↑(s / (2 : Nat) ^ j) : Int)) (H.mk [[I p, AV.int IntKind.u32 (↑(kf b s k j).toNat : Int)]] [] [])), Ans.o (Orc.val 16 (I (↑(s / (2 : Nat) ^ j % (2 : Nat)) : Int)) (H.mk [[I p, AV.int IntKind.u32 (↑(kf b s k j).toNat : Int)]] [] [])), Ans.o (Orc.b true), Ans.o (Orc.val 22 (I (↑(k / (2 : Nat) ^ j) : Int)) (H.mk [[I p, AV.int IntKind.u32 (↑(kf b s k j).toNat : Int)]] [] [])), Ans.o (Orc.val 23 (I (↑(k / (2 : Nat) ^ j % (2 : Nat)) : Int)) (H.mk [[I p, AV.int IntKind.u32 (↑(kf b s k j).toNat : Int)]] [] [])), Ans.o (Orc.val 24 (AV.agg [I p, AV.int IntKind.u32 (↑(pt (kf b s k j) (↑j : Int) (↑(k / (2 : Nat) ^ j % (2 : Nat)) : Int)).toNat : Int)]) (H.mk [[I p, AV.int IntKind.u32 (↑(kf b s k j).toNat : Int)]] [] []))], fun u => of_eq ((↑j : Int) < p ∧ aBin Tryd.prog BinOp.shr (3 : Nat) (I (↑s : Int)) (I (↑j : Int)) = some (I (↑(s / (2 : Nat) ^ j) : Int)) ∧ aBin Tryd.prog BinOp.and (3 : Nat) (I (↑(s / (2 : Nat) ^ j) : Int)) (I 1) = some (I (↑(s / (2 : Nat) ^ j % (2 : Nat)) : Int)) ∧ (↑(s / (2 : Nat) ^ j % (2 : Nat)) : Int) = (1 : Int) ∧ aBin Tryd.prog BinOp.shr (3 : Nat) (I (↑k : Int)) (I (↑j : Int)) = some (I (↑(k / (2 : Nat) ^ j) : Int)) ∧ aBin Tryd.prog BinOp.and (3 : Nat) (I (↑(k / (2 : Nat) ^ j) : Int)) (I 1) = some (I (↑(k / (2 : Nat) ^ j % (2 : Nat)) : Int)) ∧ aCall (Sof [c75.to, c85.to]) (AV.fn (Fn.func (75 : Nat)) [] []) [AV.agg [I p, AV.int IntKind.u32 (↑(kf b s k j).toNat : Int)], I (↑j : Int), I (↑(k / (2 : Nat) ^ j % (2 : Nat)) : Int)] (H.mk [[I p, AV.int IntKind.u32 (↑(kf b s k j).toNat : Int)]] [] []) = some (AV.agg [I p, AV.int IntKind.u32 (↑(pt (kf b s k j) (↑j : Int) (↑(k / (2 : Nat) ^ j % (2 : Nat)) : Int)).toNat : Int)], H.mk [[I p, AV.int IntKind.u32 (↑(kf b s k j).toNat : Int)]] [] []) ∧ IntKind.i64.wrap ((↑j : Int) + (1 : Int)) = (↑j : Int) + (1 : Int) ∧ (29 : Nat) = (29 : Nat) ∧ j < p.toNat ∧ Keep (H.mk [[I p, AV.int IntKind.u32 (↑(pt (kf b s k j) (↑j : Int) (↑(k / (2 : Nat) ^ j % (2 : Nat)) : Int)).toNat : Int)]] [] [] = H.mk [[I p, AV.int IntKind.u32 (↑(kf b s k (j + (1 : Nat))).toNat : Int)]] [] [] ∧ [I (↑s : Int), I (↑k : Int), AV.ptr 0 0, I p, I ((↑j : Int) + (1 : Int))] = [I (↑s : Int), I (↑k : Int), AV.ptr 0 0, I p, I (↑(j + (1 : Nat)) : Int)] ∧ (↑(j + (1 : Nat)) : Int) ≤ p)) (by kernel_rfl) ?_⟩
      refine ⟨by first | assumption | omega | (simp only [small, tiny, rng, decide_eq_true_eq, decide_eq_false_iff_not, true_or, or_true, true_and, and_true, Int.reduceEq, Int.reduceNeg, eq_self, reduceIte, if_true, if_false] at *; omega) | (simp [small, tiny, rng, decide_eq_true_eq, decide_eq_false_iff_not, true_or, or_true, true_and, and_true, Int.reduceEq, Int.reduceNeg, eq_self, reduceIte, if_true, if_false] at *; done), ?_⟩
      refine ⟨by first | exact told_shr hjn (by assumption) | exact told_and (by assumption), ?_⟩
      refine ⟨by first | exact told_shr hjn (by assumption) | exact told_and (by assumption), ?_⟩
      refine ⟨by first | assumption | omega | (simp only [small, tiny, rng, decide_eq_true_eq, decide_eq_false_iff_not, true_or, or_true, true_and, and_true, Int.reduceEq, Int.reduceNeg, eq_self, reduceIte, if_true, if_false] at *; omega) | (simp [small, tiny, rng, decide_eq_true_eq, decide_eq_false_iff_not, true_or, or_true, true_and, and_true, Int.reduceEq, Int.reduceNeg, eq_self, reduceIte, if_true, if_false] at *; done), ?_⟩
      refine ⟨by first | exact told_shr hjn (by assumption) | exact told_and (by assumption), ?_⟩
      refine ⟨by first | exact told_shr hjn (by assumption) | exact told_and (by assumption), ?_⟩
      refine ⟨acall_hit (c := c75.to) (p, kf b s k j, (j : Int), ((k / 2 ^ j % 2 : Nat) : Int)) _ rfl z, ?_⟩
      refine ⟨by first | exact wr _ (by omega) (by omega) | (refine wr _ ?_ ?_ <;> (simp only [small, tiny, rng, decide_eq_true_eq, decide_eq_false_iff_not, true_or, or_true, true_and, and_true, Int.reduceEq, Int.reduceNeg, eq_self, reduceIte, if_true, if_false] at *; omega)), ?_⟩
      refine ⟨by first | assumption | omega | (simp only [small, tiny, rng, decide_eq_true_eq, decide_eq_false_iff_not, true_or, or_true, true_and, and_true, Int.reduceEq, Int.reduceNeg, eq_self, reduceIte, if_true, if_false] at *; omega) | (simp [small, tiny, rng, decide_eq_true_eq, decide_eq_false_iff_not, true_or, or_true, true_and, and_true, Int.reduceEq, Int.reduceNeg, eq_self, reduceIte, if_true, if_false] at *; done), ?_⟩
      refine ⟨by first | assumption | omega | (simp only [small, tiny, rng, decide_eq_true_eq, decide_eq_false_iff_not, true_or, or_true, true_and, and_true, Int.reduceEq, Int.reduceNeg, eq_self, reduceIte, if_true, if_false] at *; omega) | (simp [small, tiny, rng, decide_eq_true_eq, decide_eq_false_iff_not, true_or, or_true, true_and, and_true, Int.reduceEq, Int.reduceNeg, eq_self, reduceIte, if_true, if_false] at *; done), ?_⟩
      exact ⟨by rw [e], rfl, hle2⟩
    · have e : kf b s k (j + 1) = kf b s k j := by simp only [kf]; rw [if_neg (by omega)]
      replace hb : ((s / 2 ^ j % 2 : Nat) : Int) ≠ 1 := hb
      refine ⟨[Ans.o (Orc.b true), Ans.o (Orc.val 15 (I (↑(s / (2 : Nat) ^ j) : Int)) (H.mk [[I p, AV.int IntKind.u32 (↑(kf b s k j).toNat : Int)]] [] [])), Ans.o (Orc.val 16 (I (↑(s / (2 : Nat) ^ j % (2 : Nat)) : Int)) (H.mk [[I p, AV.int IntKind.u32 (↑(kf b s k j).toNat : Int)]] [] [])), Ans.o (Orc.b false)], fun u => of_eq ((↑j : Int) < p ∧ aBin Tryd.prog BinOp.shr (3 : Nat) (I (↑s : Int)) (I (↑j : Int)) = some (I (↑(s / (2 : Nat) ^ j) : Int)) ∧ aBin Tryd.prog BinOp.and (3 : Nat) (I (↑(s / (2 : Nat) ^ j) : Int)) (I 1) = some (I (↑(s / (2 : Nat) ^ j % (2 : Nat)) : Int)) ∧ (↑(s / (2 : Nat) ^ j % (2 : Nat)) : Int) ≠ (1 : Int) ∧ IntKind.i64.wrap ((↑j : Int) + (1 : Int)) = (↑j : Int) + (1 : Int) ∧ (29 : Nat) = (29 : Nat) ∧ j < p.toNat ∧ Keep (H.mk [[I p, AV.int IntKind.u32 (↑(kf b s k j).toNat : Int)]] [] [] = H.mk [[I p, AV.int IntKind.u32 (↑(kf b s k (j + (1 : Nat))).toNat : Int)]] [] [] ∧ [I (↑s : Int), I (↑k : Int), AV.ptr 0 0, I p, I ((↑j : Int) + (1 : Int))] = [I (↑s : Int), I (↑k : Int), AV.ptr 0 0, I p, I (↑(j + (1 : Nat)) : Int)] ∧ (↑(j + (1 : Nat)) : Int) ≤ p)) (by kernel_rfl) ?_⟩
      refine ⟨by first | assumption | omega | (simp only [small, tiny, rng, decide_eq_true_eq, decide_eq_false_iff_not, true_or, or_true, true_and, and_true, Int.reduceEq, Int.reduceNeg, eq_self, reduceIte, if_true, if_false] at *; omega) | (simp [small, tiny, rng, decide_eq_true_eq, decide_eq_false_iff_not, true_or, or_true, true_and, and_true, Int.reduceEq, Int.reduceNeg, eq_self, reduceIte, if_true, if_false] at *; done), ?_⟩
      refine ⟨by first | exact told_shr hjn (by assumption) | exact told_and (by assumption), ?_⟩
      refine ⟨by first | exact told_shr hjn (by assumption) | exact told_and (by assumption), ?_⟩
      refine ⟨by first | assumption | omega | (simp only [small, tiny, rng, decide_eq_true_eq, decide_eq_false_iff_not, true_or, or_true, true_and, and_true, Int.reduceEq, Int.reduceNeg, eq_self, reduceIte, if_true, if_false] at *; omega) | (simp [small, tiny, rng, decide_eq_true_eq, decide_eq_false_iff_not, true_or, or_true, true_and, and_true, Int.reduceEq, Int.reduceNeg, eq_self, reduceIte, if_true, if_false] at *; done), ?_⟩
      refine ⟨by first | exact wr _ (by omega) (by omega) | (refine wr _ ?_ ?_ <;> (simp only [small, tiny, rng, decide_eq_true_eq, decide_eq_false_iff_not, true_or, or_true, true_and, and_true, Int.reduceEq, Int.reduceNeg, eq_self, reduceIte, if_true, if_false] at *; omega)), ?_⟩
      refine ⟨by first | assumption | omega | (simp only [small, tiny, rng, decide_eq_true_eq, decide_eq_false_iff_not, true_or, or_true, true_and, and_true, Int.reduceEq, Int.reduceNeg, eq_self, reduceIte, if_true, if_false] at *; omega) | (simp [small, tiny, rng, decide_eq_true_eq, decide_eq_false_iff_not, true_or, or_true, true_and, and_true, Int.reduceEq, Int.reduceNeg, eq_self, reduceIte, if_true, if_false] at *; done), ?_⟩
      refine ⟨by first | assumption | omega | (simp only [small, tiny, rng, decide_eq_true_eq, decide_eq_false_iff_not, true_or, or_true, true_and, and_true, Int.reduceEq, Int.reduceNeg, eq_self, reduceIte, if_true, if_false] at *; omega) | (simp [small, tiny, rng, decide_eq_true_eq, decide_eq_false_iff_not, true_or, or_true, true_and, and_true, Int.reduceEq, Int.reduceNeg, eq_self, reduceIte, if_true, if_false] at *; done), ?_⟩
      exact ⟨by rw [e], rfl, hle2⟩
  · have hz : p ≤ (j : Int) := by omega
    have e : j = p.toNat := by omega
    subst e
    refine ⟨[Ans.o (Orc.b false)], fun u => of_eq (p ≤ (↑p.toNat : Int) ∧ (29 : Nat) = (29 : Nat) ∧ hits [Out.mk Unit (AX.exit (0 : Nat)) [(3 : Nat)] (fun x => True) (fun x => [AV.ptr 0 0]) (fun x => b83 p (kf b s k p.toNat)) fun x => []] (AX.exit (0 : Nat)) [u (0 : Nat), I (↑s : Int), I (↑k : Int), AV.ptr 0 0, u (4 : Nat), u (5 : Nat), u (6 : Nat), u (7 : Nat), u (8 : Nat), I p, I (↑p.toNat : Int), AV.bool false, u (12 : Nat), u (13 : Nat), u (14 : Nat), u (15 : Nat), u (16 : Nat), u (17 : Nat), u (18 : Nat), u (19 : Nat), u (20 : Nat), u (21 : Nat), u (22 : Nat), u (23 : Nat), u (24 : Nat), u (25 : Nat), u (26 : Nat), u (27 : Nat), u (28 : Nat)] (H.mk [[I p, AV.int IntKind.u32 (↑(kf b s k p.toNat).toNat : Int)]] [] [])) (by kernel_rfl) ?_⟩
    refine ⟨by first | assumption | omega | (simp only [small, tiny, rng, decide_eq_true_eq, decide_eq_false_iff_not, true_or, or_true, true_and, and_true, Int.reduceEq, Int.reduceNeg, eq_self, reduceIte, if_true, if_false] at *; omega) | (simp [small, tiny, rng, decide_eq_true_eq, decide_eq_false_iff_not, true_or, or_true, true_and, and_true, Int.reduceEq, Int.reduceNeg, eq_self, reduceIte, if_true, if_false] at *; done), ?_⟩
    refine ⟨by first | assumption | omega | (simp only [small, tiny, rng, decide_eq_true_eq, decide_eq_false_iff_not, true_or, or_true, true_and, and_true, Int.reduceEq, Int.reduceNeg, eq_self, reduceIte, if_true, if_false] at *; omega) | (simp [small, tiny, rng, decide_eq_true_eq, decide_eq_false_iff_not, true_or, or_true, true_and, and_true, Int.reduceEq, Int.reduceNeg, eq_self, reduceIte, if_true, if_false] at *; done), ?_⟩
    exact .inl ⟨(), trivial, rfl, rfl, rfl⟩
theorem ok83 : FokM Tryd.prog none1 83 Tryd.f83 := ⟨mixed, by kernel_rfl, by kernel_rfl, by kernel_rfl, by kernel_rfl⟩
theorem r83 (p : Int) (b : BitVec 32) (s : Int) (k : Int) (hp : pre83 p s k) : Body ⟨Tryd.prog, Sof (P := Tryd.prog) [c75.to, c85.to], Pof (P := Tryd.prog) [], H.nil.base, 300⟩ none1 Tryd.f83 [cA p b, I s, I k] .nil (.bool (isk p b s k), .nil) := by
  obtain ⟨q0, ⟨q1, q2⟩, q3, q4⟩ := hp
  obtain ⟨s', rfl⟩ : ∃ n : Nat, s = n := ⟨s.toNat, by omega⟩
  obtain ⟨k', rfl⟩ : ∃ n : Nat, k = n := ⟨k.toNat, by omega⟩
  refine body_s ([Ans.loop [(1 : Nat), (2 : Nat), (3 : Nat), (9 : Nat), (10 : Nat)] [Out.mk Unit (AX.exit (0 : Nat)) [(3 : Nat)] (fun x => True) (fun x => [AV.ptr 0 0]) (fun x => b83 p (kf b s' k' p.toNat)) fun y => [Ans.o (Orc.val 27 (I (↑(pc (kf b s' k' p.toNat)) : Int)) (H.mk [[I p, AV.int IntKind.u32 (↑(kf b s' k' p.toNat).toNat : Int)]] [] [])), Ans.fork [] []]]]) (LoopS (Env.mk Tryd.prog (Sof [c75.to, c85.to]) (Pof (P := Tryd.prog) []) H.nil.base (300 : Nat)) (loopAt Tryd.f83 (0 : Nat)) (29 : Nat) [(1 : Nat), (2 : Nat), (3 : Nat), (9 : Nat), (10 : Nat)] [I (↑s' : Int), I (↑k' : Int), AV.ptr 0 0, I p, I 0] (H.mk [[I p, AV.int IntKind.u32 (↑b.toNat : Int)]] [] []) [Out.mk Unit (AX.exit (0 : Nat)) [(3 : Nat)] (fun x => True) (fun x => [AV.ptr 0 0]) (fun x => b83 p (kf b s' k' p.toNat)) fun y => [Ans.o (Orc.val 27 (I (↑(pc (kf b s' k' p.toNat)) : Int)) (H.mk [[I p, AV.int IntKind.u32 (↑(kf b s' k' p.toNat).toNat : Int)]] [] [])), Ans.fork [] []]] ∧ (∀ (y : Unit), True → ∀ (u : Nat → AV), aCall (Sof [c75.to, c85.to]) (AV.fn (Fn.func (85 : Nat)) [] []) [AV.agg [I p, AV.int IntKind.u32 (↑(kf b s' k' p.toNat).toNat : Int)]] (H.mk [[I p, AV.int IntKind.u32 (↑(kf b s' k' p.toNat).toNat : Int)]] [] []) = some (I (↑(pc (kf b s' k' p.toNat)) : Int), H.mk [[I p, AV.int IntKind.u32 (↑(kf b s' k' p.toNat).toNat : Int)]] [] []) ∧ ((↑(pc (kf b s' k' p.toNat)) : Int) = (1 : Int) → (AV.bool true, H.mk [] [] []) = (AV.bool (isk p b (↑s' : Int) (↑k' : Int)), H.mk [] [] [])) ∧ ((↑(pc (kf b s' k' p.toNat)) : Int) ≠ (1 : Int) → (AV.bool false, H.mk [] [] []) = (AV.bool (isk p b (↑s' : Int) (↑k' : Int)), H.mk [] [] []))) ∧ True) (by kernel_rfl) ?_
  refine ⟨lp83 p b s' k' q0 (by omega) (by omega), ?_⟩
  refine And.intro ?_ ?_
  · skip
    intro y
    intro w1
    intro u
    refine ⟨by first | (refine acall_hit (c := c85.to) ((p, kf b s' k' p.toNat)) _ rfl ?_; first | exact True.intro | exact hp | exact hp' | (simp only [c85, PCtr.to, pctr, lctr, small, tiny, rng, decide_eq_true_eq, decide_eq_false_iff_not, true_or, or_true, true_and, and_true, Int.reduceEq, Int.reduceNeg, eq_self, reduceIte, if_true, if_false]; first | assumption | omega) | (simp only [c85, PCtr.to, pctr, lctr, small, tiny, rng, decide_eq_true_eq, decide_eq_false_iff_not, true_or, or_true, true_and, and_true, Int.reduceEq, Int.reduceNeg, eq_self, reduceIte, if_true, if_false] at *; first | assumption | omega)) | (refine acall_b (acall_hit (c := c85.to) ((p, kf b s' k' p.toNat)) _ rfl ?_) (by assumption); first | exact True.intro | exact hp | exact hp' | (simp only [c85, PCtr.to, pctr, lctr, small, tiny, rng, decide_eq_true_eq, decide_eq_false_iff_not, true_or, or_true, true_and, and_true, Int.reduceEq, Int.reduceNeg, eq_self, reduceIte, if_true, if_false]; first | assumption | omega) | (simp only [c85, PCtr.to, pctr, lctr, small, tiny, rng, decide_eq_true_eq, decide_eq_false_iff_not, true_or, or_true, true_and, and_true, Int.reduceEq, Int.reduceNeg, eq_self, reduceIte, if_true, if_false] at *; first | assumption | omega)), ?_⟩
    refine And.intro ?_ ?_
    · skip
      intro w3
      first | (refine bleaf_t ?_; assumption) | (refine bleaf_f ?_; assumption)
    · skip
      intro w3
      first | (refine bleaf_t ?_; assumption) | (refine bleaf_f ?_; assumption)
  · skip
    trivial
noncomputable def c83 : PCtr Tryd.prog := sctr ok83 (X := Int × BitVec 32 × Int × Int) (fun x => [cA x.1 x.2.1, I x.2.2.1, I x.2.2.2]) (fun x => pre83 x.1 x.2.2.1 x.2.2.2) (fun x => .bool (isk x.1 x.2.1 x.2.2.1 x.2.2.2)) (by intro x y e _ _; simp at e; simp [e]) (fun x => by simp [AV.bnds, AV.bnd, AV.wk, rm_wk_bnd]) (fun x => by first | rfl | (simp [AV.bnd, rm_wk_bnd]; done) | simp [AV.bnd, AV.bnds, Room.bnd, rm_wk_bnd]) (fun x hx => ⟨_, _, _, .pure c75 (.pure c85 (.nil)), r83 (x.1) (x.2.1) (x.2.2.1) (x.2.2.2) hx⟩)
end Go.Proofs.Lrn

