/- Layer 8: what spreads, by the program. -/
import Derived.Test.YtjobibaeklbkmaaDoorEdBc
import Derived.Test.YtjobibaeklbkmaaDoorEdH
import Derived.KernelRfl
set_option linter.unusedSimpArgs false
set_option linter.unusedVariables false
set_option linter.unnecessarySimpa false
set_option maxHeartbeats 4000000
set_option maxRecDepth 100000
namespace Go.Proofs.Evd
open Go Go.VM
open Go.Proofs.Sur (W w_wrap w_nat w_inj w_eq0 w_and w_or w_andn w_shl w_shr neg_nat sub_nat tz tz_ok cl bits_cons bits_0 bits_len andn andn_bit andn_le i_wrap i_and i_or i_andn i_shl i_shr bit_01)

abbrev h97b (m r : Nat) (G : W) (i : Nat) : H := ⟨[[I r, u64A G], z76, [I r, u64A (xmJ m G i)]], [], []⟩
abbrev o97b (m r : Nat) (G : W) : List Out := [.mk Unit (.exit 2) [1, 2, 4, 5] (fun _ => True) (fun _ => [I m, .ptr 0 0, .ptr 1 0, .ptr 2 0]) (fun _ => h97b m r G (m - 1)) (fun _ => [])]
theorem simp97b : allSimpleM none1 (loopAt Tryd.f97 1) = true := by kernel_rfl
theorem simp97 : allSimpleM none1 (loopAt Tryd.f97 0) = true := by kernel_rfl
theorem rest97 : Rests (En6 [c123.to, c66.to]) none1 := rests mixed (.pure _ (.pure _ .nil))
theorem lp97b (m r : Nat) (G : W) (hm : 2 ≤ m ∧ m ≤ 4) :
    LoopS (En6 [c123.to, c66.to]) (loopAt Tryd.f97 1) 29 [1, 2, 4, 5, 9, 10] [I m, .ptr 0 0, .ptr 1 0, .ptr 2 0, I (m - 1 : Nat), I 0] (h97b m r G 0) (o97b m r G) := by
  refine loop_s rest97 simp97b none (by intro _ h; cases h) (fun i vs h => h = h97b m r G i ∧ vs = [I m, .ptr 0 0, .ptr 1 0, .ptr 2 0, I (m - 1 : Nat), I i]) (m - 1) ⟨rfl, rfl⟩ (by intro _ h; cases h) ?_
  rintro i vs h hj ⟨rfl, rfl⟩
  by_cases hz : (i : Int) < (m - 1 : Nat)
  · have hz' : i < m - 1 := by omega
    have hk : nk m i := ⟨hm.1, hm.2, by omega⟩
    have ev0 := w_or (xmJ m G i) (exW (plB m i) (xmJ m G i))
    have ev1 : IntKind.i64.wrap ((i : Int) + 1) = ((i + 1 : Nat) : Int) := by rw [wr _ (by omega) (by omega)]; omega
    refine ⟨[Ans.o (Orc.b true), Ans.o (Orc.val 18 (AV.agg [I (↑r : Int), AV.int IntKind.u64 (↑(BitVec.toNat (exW (plB m i) (xmJ m G i))) : Int)]) (H.mk [[I (↑r : Int), u64A G], [I 0, AV.int IntKind.u64 (0 : Int)], [I (↑r : Int), u64A (xmJ m G i)]] [] [])), Ans.o (Orc.val 20 (AV.int IntKind.u64 (↑(BitVec.toNat (xmJ m G i ||| exW (plB m i) (xmJ m G i))) : Int)) H.nil), Ans.o (Orc.val 22 (I (↑(i + (1 : Nat)) : Int)) H.nil)], fun u => of_eq ((↑i : Int) < (↑(m - (1 : Nat)) : Int) ∧ aCall (Sof [c123.to, c66.to]) (AV.fn (Fn.func (123 : Nat)) [] []) [AV.agg [I (↑r : Int), u64A (xmJ m G i)], I (↑m : Int), I (↑i : Int)] (H.mk [[I (↑r : Int), u64A G], [I 0, AV.int IntKind.u64 (0 : Int)], [I (↑r : Int), u64A (xmJ m G i)]] [] []) = some (AV.agg [I (↑r : Int), AV.int IntKind.u64 (↑(BitVec.toNat (exW (plB m i) (xmJ m G i))) : Int)], H.mk [[I (↑r : Int), u64A G], [I 0, AV.int IntKind.u64 (0 : Int)], [I (↑r : Int), u64A (xmJ m G i)]] [] []) ∧ aBin Tryd.prog BinOp.or (74 : Nat) (u64A (xmJ m G i)) (AV.int IntKind.u64 (↑(BitVec.toNat (exW (plB m i) (xmJ m G i))) : Int)) = some (AV.int IntKind.u64 (↑(BitVec.toNat (xmJ m G i ||| exW (plB m i) (xmJ m G i))) : Int)) ∧ aBin Tryd.prog BinOp.add (3 : Nat) (I (↑i : Int)) (I 1) = some (I (↑(i + (1 : Nat)) : Int)) ∧ (29 : Nat) = (29 : Nat) ∧ i < m - (1 : Nat) ∧ Keep (H.mk [[I (↑r : Int), u64A G], [I 0, AV.int IntKind.u64 (0 : Int)], [I (↑r : Int), AV.int IntKind.u64 (↑(BitVec.toNat (xmJ m G i ||| exW (plB m i) (xmJ m G i))) : Int)]] [] [] = H.mk [[I (↑r : Int), u64A G], [I 0, AV.int IntKind.u64 (0 : Int)], [I (↑r : Int), AV.int IntKind.u64 (↑(BitVec.toNat (xmJ m G (i + (1 : Nat)))) : Int)]] [] [] ∧ [I (↑m : Int), AV.ptr 0 0, AV.ptr 1 0, AV.ptr 2 0, I (↑(m - (1 : Nat)) : Int), I (↑(i + (1 : Nat)) : Int)] = [I (↑m : Int), AV.ptr 0 0, AV.ptr 1 0, AV.ptr 2 0, I (↑(m - (1 : Nat)) : Int), I (↑(i + (1 : Nat)) : Int)])) (by kernel_rfl) ?_⟩
    refine ⟨by first | with_reducible assumption | omega | assumption, ?_⟩
    refine ⟨acall_hit (c := c123.to) (r, xmJ m G i, m, i) _ rfl hk, ?_⟩
    refine ⟨told_or (by with_reducible assumption), ?_⟩
    refine ⟨told_add (by with_reducible assumption), ?_⟩
    refine ⟨by first | with_reducible assumption | omega | assumption, ?_⟩
    refine ⟨by first | with_reducible assumption | omega | assumption, ?_⟩
    exact ⟨rfl, rfl⟩
  · have hz : ((m - 1 : Nat) : Int) ≤ i := by omega
    have hj' : i = m - 1 := by omega
    subst hj'
    refine ⟨[Ans.o (Orc.b false)], fun u => of_eq ((↑(m - (1 : Nat)) : Int) ≤ (↑(m - (1 : Nat)) : Int) ∧ (29 : Nat) = (29 : Nat) ∧ hits [Out.mk Unit (AX.exit (2 : Nat)) [(1 : Nat), (2 : Nat), (4 : Nat), (5 : Nat)] (fun x => True) (fun x => [I (↑m : Int), AV.ptr 0 0, AV.ptr 1 0, AV.ptr 2 0]) (fun x => h97b m r G (m - (1 : Nat))) fun x => []] (AX.exit (2 : Nat)) [u (0 : Nat), I (↑m : Int), AV.ptr 0 0, u (3 : Nat), AV.ptr 1 0, AV.ptr 2 0, u (6 : Nat), u (7 : Nat), u (8 : Nat), I (↑(m - (1 : Nat)) : Int), I (↑(m - (1 : Nat)) : Int), AV.bool false, u (12 : Nat), u (13 : Nat), u (14 : Nat), u (15 : Nat), u (16 : Nat), u (17 : Nat), u (18 : Nat), u (19 : Nat), u (20 : Nat), u (21 : Nat), u (22 : Nat), u (23 : Nat), u (24 : Nat), u (25 : Nat), u (26 : Nat), u (27 : Nat), u (28 : Nat)] (H.mk [[I (↑r : Int), u64A G], [I 0, AV.int IntKind.u64 (0 : Int)], [I (↑r : Int), AV.int IntKind.u64 (↑(BitVec.toNat (xmJ m G (m - (1 : Nat)))) : Int)]] [] [])) (by kernel_rfl) ?_⟩
    refine ⟨by first | with_reducible assumption | omega | assumption, ?_⟩
    refine ⟨by first | with_reducible assumption | omega | assumption, ?_⟩
    exact .inl ⟨(), trivial, rfl, rfl, rfl⟩
abbrev h97 (r : Nat) (G : W) : H := ⟨[[I r, u64A G], z76], [], []⟩
abbrev o97 (m r : Nat) (F : W) : List Out := [.mk Unit .ret [4] (fun _ => True) (fun _ => [.ptr 1 0]) (fun _ => ⟨[[I r, u64A (fix m F)], [I r, u64A (cls (fix m F))], [I r, u64A (fix m F)]], [], []⟩) (fun _ => [])]
theorem lp97 (m r : Nat) (F : W) (hm : 2 ≤ m ∧ m ≤ 4) (hr : r < 64) :
    LoopS (En6 [c123.to, c66.to]) (loopAt Tryd.f97 0) 29 [1, 2, 4] [I m, .ptr 0 0, .ptr 1 0] (h97 r F) (o97 m r F) := by
  refine loop_s rest97 simp97 (some 2) (by intro nb h; cases h; exact ⟨Nat.zero_le _, Nat.le_refl 2⟩) (fun j vs h => h = h97 r (itr m F j) ∧ vs = [I m, .ptr 0 0, .ptr 1 0] ∧ j ≤ (elts (itr m F j)).length) 65 ⟨rfl, rfl, Nat.zero_le _⟩ (by rintro nb h j vs h' ⟨rfl, _, _⟩; cases h; exact Nat.le_refl 2) ?_
  rintro j vs h hj ⟨rfl, rfl, hI⟩
  have hl64 := len_64 (itr m F j)
  have hj65 : j < 65 := by omega
  have hin := lp97b m r (itr m F j) hm
  have ev0 : IntKind.i64.wrap ((m : Int) - 1) = ((m - 1 : Nat) : Int) := by rw [wr _ (by omega) (by omega)]; omega
  have hrd : xmJ m (itr m F j) (m - 1) = itr m F (j + 1) := rfl
  by_cases hq : itr m F (j + 1) = itr m F j
  · have hfx : fix m F = itr m F j := fix_of (by omega) hq
    have heq : aBin Tryd.prog .eql 76 (fA r (xmJ m (itr m F j) (m - 1))) (fA r (itr m F j)) = some (.bool true) := by
      have h1 : Tryd.prog.eqGuardType Tryd.prog.depth 76 = false := by kernel_rfl
      have hne : decide ((r, xmJ m (itr m F j) (m - 1)) = (r, itr m F j)) = true := decide_eq_true (by rw [hrd, hq])
      simp only [aBin, h1, fA_eq, hne, eqOnly]; rfl
    have hF : (((xmJ m (itr m F j) (m - 1)).toNat : Nat) : Int) = (((itr m F j).toNat : Nat) : Int) := by rw [hrd, hq]
    have hx : xmJ m (itr m F j) (m - 1) = fix m F := by rw [hrd, hq, hfx]
    rw [← hfx] at hin heq hF hx ⊢
    refine ⟨[Ans.o (Orc.val 9 (I (↑(m - (1 : Nat)) : Int)) H.nil), Ans.loop [(1 : Nat), (2 : Nat), (4 : Nat), (5 : Nat), (9 : Nat), (10 : Nat)] [Out.mk Unit (AX.exit (2 : Nat)) [(1 : Nat), (2 : Nat), (4 : Nat), (5 : Nat)] (fun x => True) (fun x => [I (↑m : Int), AV.ptr 0 0, AV.ptr 1 0, AV.ptr 2 0]) (fun x => h97b m r (fix m F) (m - (1 : Nat))) fun y => [Ans.bfork (25 : Nat) [Ans.o (Orc.val 27 (AV.agg [I (↑r : Int), AV.int IntKind.u64 (↑(BitVec.toNat (cls (fix m F))) : Int)]) (H.mk [[I (↑r : Int), u64A (fix m F)], [I 0, AV.int IntKind.u64 (0 : Int)], [I (↑r : Int), AV.int IntKind.u64 (↑(BitVec.toNat (xmJ m (fix m F) (m - (1 : Nat)))) : Int)]] [] []))] []]]], fun u => of_eq (aBin Tryd.prog BinOp.sub (3 : Nat) (I (↑m : Int)) (I 1) = some (I (↑(m - (1 : Nat)) : Int)) ∧ LoopS (Env.mk Tryd.prog (Sof [c123.to, c66.to]) (Pof (P := Tryd.prog) []) H.nil.base (300 : Nat)) (loopAt Tryd.f97 (1 : Nat)) (29 : Nat) [(1 : Nat), (2 : Nat), (4 : Nat), (5 : Nat), (9 : Nat), (10 : Nat)] [I (↑m : Int), AV.ptr 0 0, AV.ptr 1 0, AV.ptr 2 0, I (↑(m - (1 : Nat)) : Int), I 0] (H.mk [[I (↑r : Int), u64A (fix m F)], [I 0, AV.int IntKind.u64 (0 : Int)], [I (↑r : Int), u64A (fix m F)]] [] []) [Out.mk Unit (AX.exit (2 : Nat)) [(1 : Nat), (2 : Nat), (4 : Nat), (5 : Nat)] (fun x => True) (fun x => [I (↑m : Int), AV.ptr 0 0, AV.ptr 1 0, AV.ptr 2 0]) (fun x => h97b m r (fix m F) (m - (1 : Nat))) fun y => [Ans.bfork (25 : Nat) [Ans.o (Orc.val 27 (AV.agg [I (↑r : Int), AV.int IntKind.u64 (↑(BitVec.toNat (cls (fix m F))) : Int)]) (H.mk [[I (↑r : Int), u64A (fix m F)], [I 0, AV.int IntKind.u64 (0 : Int)], [I (↑r : Int), AV.int IntKind.u64 (↑(BitVec.toNat (xmJ m (fix m F) (m - (1 : Nat)))) : Int)]] [] []))] []]] ∧ (∀ (y : Unit), True → ∀ (u : Nat → AV), (((↑r : Int) == (↑r : Int) && ((↑(BitVec.toNat (xmJ m (fix m F) (m - (1 : Nat)))) : Int) == (↑(BitVec.toNat (fix m F)) : Int) && true)) = true → aCall (Sof [c123.to, c66.to]) (AV.fn (Fn.func (66 : Nat)) [] []) [AV.agg [I (↑r : Int), u64A (fix m F)]] (H.mk [[I (↑r : Int), u64A (fix m F)], [I 0, AV.int IntKind.u64 (0 : Int)], [I (↑r : Int), AV.int IntKind.u64 (↑(BitVec.toNat (xmJ m (fix m F) (m - (1 : Nat)))) : Int)]] [] []) = some (AV.agg [I (↑r : Int), AV.int IntKind.u64 (↑(BitVec.toNat (cls (fix m F))) : Int)], H.mk [[I (↑r : Int), u64A (fix m F)], [I 0, AV.int IntKind.u64 (0 : Int)], [I (↑r : Int), AV.int IntKind.u64 (↑(BitVec.toNat (xmJ m (fix m F) (m - (1 : Nat)))) : Int)]] [] []) ∧ (29 : Nat) = (29 : Nat) ∧ hits [Out.mk Unit AX.ret [(4 : Nat)] (fun x => True) (fun x => [AV.ptr 1 0]) (fun x => H.mk [[I (↑r : Int), u64A (fix m F)], [I (↑r : Int), u64A (cls (fix m F))], [I (↑r : Int), u64A (fix m F)]] [] []) fun x => []] AX.ret [u (0 : Nat), I (↑m : Int), AV.ptr 0 0, u (3 : Nat), AV.ptr 1 0, AV.ptr 2 0, u (6 : Nat), u (7 : Nat), u (8 : Nat), u (9 : Nat), u (10 : Nat), u (11 : Nat), u (12 : Nat), u (13 : Nat), u (14 : Nat), u (15 : Nat), u (16 : Nat), u (17 : Nat), u (18 : Nat), u (19 : Nat), u (20 : Nat), u (21 : Nat), u (22 : Nat), AV.agg [I (↑r : Int), AV.int IntKind.u64 (↑(BitVec.toNat (xmJ m (fix m F) (m - (1 : Nat)))) : Int)], AV.agg [I (↑r : Int), u64A (fix m F)], AV.bool true, AV.agg [I (↑r : Int), u64A (fix m F)], AV.agg [I (↑r : Int), AV.int IntKind.u64 (↑(BitVec.toNat (cls (fix m F))) : Int)], u (28 : Nat)] (H.mk [[I (↑r : Int), u64A (fix m F)], [I (↑r : Int), AV.int IntKind.u64 (↑(BitVec.toNat (cls (fix m F))) : Int)], [I (↑r : Int), AV.int IntKind.u64 (↑(BitVec.toNat (xmJ m (fix m F) (m - (1 : Nat)))) : Int)]] [] [])) ∧ (((↑r : Int) == (↑r : Int) && ((↑(BitVec.toNat (xmJ m (fix m F) (m - (1 : Nat)))) : Int) == (↑(BitVec.toNat (fix m F)) : Int) && true)) = false → (29 : Nat) = (29 : Nat) ∧ j < (65 : Nat) ∧ Keep (AV.bnds (2 : Nat) (0 : Nat) (0 : Nat) [I (↑m : Int), AV.ptr 0 0, AV.ptr 1 0] = true ∧ (H.mk [[I (↑r : Int), AV.int IntKind.u64 (↑(BitVec.toNat (xmJ m (fix m F) (m - (1 : Nat)))) : Int)], [I 0, AV.int IntKind.u64 (0 : Int)], [I (↑r : Int), AV.int IntKind.u64 (↑(BitVec.toNat (xmJ m (fix m F) (m - (1 : Nat)))) : Int)]] [] []).clean (2 : Nat) ∧ H.mk [[I (↑r : Int), AV.int IntKind.u64 (↑(BitVec.toNat (xmJ m (fix m F) (m - (1 : Nat)))) : Int)], [I 0, AV.int IntKind.u64 (0 : Int)]] [] [] = H.mk [[I (↑r : Int), AV.int IntKind.u64 (↑(BitVec.toNat (itr m F (j + (1 : Nat)))) : Int)], [I 0, AV.int IntKind.u64 (0 : Int)]] [] [] ∧ [I (↑m : Int), AV.ptr 0 0, AV.ptr 1 0] = [I (↑m : Int), AV.ptr 0 0, AV.ptr 1 0] ∧ j + (1 : Nat) ≤ (elts (itr m F (j + (1 : Nat)))).length))) ∧ True) (by kernel_rfl) ?_⟩
    refine ⟨by first | exact heq | exact told_sub ev0, ?_⟩
    refine ⟨hin, ?_⟩
    refine And.intro ?_ ?_
    · skip
      intro y
      intro w1
      intro u
      refine And.intro ?_ ?_
      · skip
        intro w3
        refine ⟨acall_hit (c := c66.to) (r, fix m F) _ rfl hr, ?_⟩
        refine ⟨by first | with_reducible assumption | omega | assumption, ?_⟩
        exact .inl ⟨(), trivial, rfl, rfl, by rw [hx]⟩
      · skip
        intro w3
        refine ⟨by first | with_reducible assumption | omega | assumption, ?_⟩
        refine ⟨by first | with_reducible assumption | omega | assumption, ?_⟩
        (exfalso; simp [hx] at w3)
    · skip
      trivial
  · have heq : aBin Tryd.prog .eql 76 (fA r (xmJ m (itr m F j) (m - 1))) (fA r (itr m F j)) = some (.bool false) := by
      have h1 : Tryd.prog.eqGuardType Tryd.prog.depth 76 = false := by kernel_rfl
      have hne : decide ((r, xmJ m (itr m F j) (m - 1)) = (r, itr m F j)) = false := decide_eq_false (fun e => hq (by rw [← hrd, (Prod.mk.inj e).2]))
      simp only [aBin, h1, fA_eq, hne, eqOnly]; rfl
    have hlt := len_lt (rnd_le m (itr m F j)) hq
    have hlen : j + 1 ≤ (elts (itr m F (j + 1))).length := by
      show j + 1 ≤ (elts (rnd m (itr m F j))).length
      omega
    have h64 := len_64 (itr m F (j + 1))
    refine ⟨[Ans.o (Orc.val 9 (I (↑(m - (1 : Nat)) : Int)) H.nil), Ans.loop [(1 : Nat), (2 : Nat), (4 : Nat), (5 : Nat), (9 : Nat), (10 : Nat)] [Out.mk Unit (AX.exit (2 : Nat)) [(1 : Nat), (2 : Nat), (4 : Nat), (5 : Nat)] (fun x => True) (fun x => [I (↑m : Int), AV.ptr 0 0, AV.ptr 1 0, AV.ptr 2 0]) (fun x => h97b m r (itr m F j) (m - (1 : Nat))) fun y => [Ans.bfork (25 : Nat) [Ans.o (Orc.val 27 (AV.agg [I (↑r : Int), AV.int IntKind.u64 (↑(BitVec.toNat (cls (itr m F j))) : Int)]) (H.mk [[I (↑r : Int), u64A (itr m F j)], [I 0, AV.int IntKind.u64 (0 : Int)], [I (↑r : Int), AV.int IntKind.u64 (↑(BitVec.toNat (xmJ m (itr m F j) (m - (1 : Nat)))) : Int)]] [] []))] []]]], fun u => of_eq (aBin Tryd.prog BinOp.sub (3 : Nat) (I (↑m : Int)) (I 1) = some (I (↑(m - (1 : Nat)) : Int)) ∧ LoopS (Env.mk Tryd.prog (Sof [c123.to, c66.to]) (Pof (P := Tryd.prog) []) H.nil.base (300 : Nat)) (loopAt Tryd.f97 (1 : Nat)) (29 : Nat) [(1 : Nat), (2 : Nat), (4 : Nat), (5 : Nat), (9 : Nat), (10 : Nat)] [I (↑m : Int), AV.ptr 0 0, AV.ptr 1 0, AV.ptr 2 0, I (↑(m - (1 : Nat)) : Int), I 0] (H.mk [[I (↑r : Int), u64A (itr m F j)], [I 0, AV.int IntKind.u64 (0 : Int)], [I (↑r : Int), u64A (itr m F j)]] [] []) [Out.mk Unit (AX.exit (2 : Nat)) [(1 : Nat), (2 : Nat), (4 : Nat), (5 : Nat)] (fun x => True) (fun x => [I (↑m : Int), AV.ptr 0 0, AV.ptr 1 0, AV.ptr 2 0]) (fun x => h97b m r (itr m F j) (m - (1 : Nat))) fun y => [Ans.bfork (25 : Nat) [Ans.o (Orc.val 27 (AV.agg [I (↑r : Int), AV.int IntKind.u64 (↑(BitVec.toNat (cls (itr m F j))) : Int)]) (H.mk [[I (↑r : Int), u64A (itr m F j)], [I 0, AV.int IntKind.u64 (0 : Int)], [I (↑r : Int), AV.int IntKind.u64 (↑(BitVec.toNat (xmJ m (itr m F j) (m - (1 : Nat)))) : Int)]] [] []))] []]] ∧ (∀ (y : Unit), True → ∀ (u : Nat → AV), (((↑r : Int) == (↑r : Int) && ((↑(BitVec.toNat (xmJ m (itr m F j) (m - (1 : Nat)))) : Int) == (↑(BitVec.toNat (itr m F j)) : Int) && true)) = true → aCall (Sof [c123.to, c66.to]) (AV.fn (Fn.func (66 : Nat)) [] []) [AV.agg [I (↑r : Int), u64A (itr m F j)]] (H.mk [[I (↑r : Int), u64A (itr m F j)], [I 0, AV.int IntKind.u64 (0 : Int)], [I (↑r : Int), AV.int IntKind.u64 (↑(BitVec.toNat (xmJ m (itr m F j) (m - (1 : Nat)))) : Int)]] [] []) = some (AV.agg [I (↑r : Int), AV.int IntKind.u64 (↑(BitVec.toNat (cls (itr m F j))) : Int)], H.mk [[I (↑r : Int), u64A (itr m F j)], [I 0, AV.int IntKind.u64 (0 : Int)], [I (↑r : Int), AV.int IntKind.u64 (↑(BitVec.toNat (xmJ m (itr m F j) (m - (1 : Nat)))) : Int)]] [] []) ∧ (29 : Nat) = (29 : Nat) ∧ hits [Out.mk Unit AX.ret [(4 : Nat)] (fun x => True) (fun x => [AV.ptr 1 0]) (fun x => H.mk [[I (↑r : Int), u64A (fix m F)], [I (↑r : Int), u64A (cls (fix m F))], [I (↑r : Int), u64A (fix m F)]] [] []) fun x => []] AX.ret [u (0 : Nat), I (↑m : Int), AV.ptr 0 0, u (3 : Nat), AV.ptr 1 0, AV.ptr 2 0, u (6 : Nat), u (7 : Nat), u (8 : Nat), u (9 : Nat), u (10 : Nat), u (11 : Nat), u (12 : Nat), u (13 : Nat), u (14 : Nat), u (15 : Nat), u (16 : Nat), u (17 : Nat), u (18 : Nat), u (19 : Nat), u (20 : Nat), u (21 : Nat), u (22 : Nat), AV.agg [I (↑r : Int), AV.int IntKind.u64 (↑(BitVec.toNat (xmJ m (itr m F j) (m - (1 : Nat)))) : Int)], AV.agg [I (↑r : Int), u64A (itr m F j)], AV.bool true, AV.agg [I (↑r : Int), u64A (itr m F j)], AV.agg [I (↑r : Int), AV.int IntKind.u64 (↑(BitVec.toNat (cls (itr m F j))) : Int)], u (28 : Nat)] (H.mk [[I (↑r : Int), u64A (itr m F j)], [I (↑r : Int), AV.int IntKind.u64 (↑(BitVec.toNat (cls (itr m F j))) : Int)], [I (↑r : Int), AV.int IntKind.u64 (↑(BitVec.toNat (xmJ m (itr m F j) (m - (1 : Nat)))) : Int)]] [] [])) ∧ (((↑r : Int) == (↑r : Int) && ((↑(BitVec.toNat (xmJ m (itr m F j) (m - (1 : Nat)))) : Int) == (↑(BitVec.toNat (itr m F j)) : Int) && true)) = false → (29 : Nat) = (29 : Nat) ∧ j < (65 : Nat) ∧ Keep (AV.bnds (2 : Nat) (0 : Nat) (0 : Nat) [I (↑m : Int), AV.ptr 0 0, AV.ptr 1 0] = true ∧ (H.mk [[I (↑r : Int), AV.int IntKind.u64 (↑(BitVec.toNat (xmJ m (itr m F j) (m - (1 : Nat)))) : Int)], [I 0, AV.int IntKind.u64 (0 : Int)], [I (↑r : Int), AV.int IntKind.u64 (↑(BitVec.toNat (xmJ m (itr m F j) (m - (1 : Nat)))) : Int)]] [] []).clean (2 : Nat) ∧ H.mk [[I (↑r : Int), AV.int IntKind.u64 (↑(BitVec.toNat (xmJ m (itr m F j) (m - (1 : Nat)))) : Int)], [I 0, AV.int IntKind.u64 (0 : Int)]] [] [] = H.mk [[I (↑r : Int), AV.int IntKind.u64 (↑(BitVec.toNat (itr m F (j + (1 : Nat)))) : Int)], [I 0, AV.int IntKind.u64 (0 : Int)]] [] [] ∧ [I (↑m : Int), AV.ptr 0 0, AV.ptr 1 0] = [I (↑m : Int), AV.ptr 0 0, AV.ptr 1 0] ∧ j + (1 : Nat) ≤ (elts (itr m F (j + (1 : Nat)))).length))) ∧ True) (by kernel_rfl) ?_⟩
    refine ⟨by first | exact heq | exact told_sub ev0, ?_⟩
    refine ⟨hin, ?_⟩
    refine And.intro ?_ ?_
    · skip
      intro y
      intro w1
      intro u
      refine And.intro ?_ ?_
      · skip
        intro w3
        refine ⟨by first | (refine acall_hit (c := c66.to) ((r, itr m F j)) _ rfl ?_; first | exact True.intro | exact hp | exact hp' | (simp only [c66, PCtr.to, pctr, lctr, small, tiny, rng, decide_eq_true_eq, decide_eq_false_iff_not, true_or, or_true, true_and, and_true, Int.reduceEq, Int.reduceNeg, eq_self, reduceIte, if_true, if_false]; first | assumption | omega) | (simp only [c66, PCtr.to, pctr, lctr, small, tiny, rng, decide_eq_true_eq, decide_eq_false_iff_not, true_or, or_true, true_and, and_true, Int.reduceEq, Int.reduceNeg, eq_self, reduceIte, if_true, if_false] at *; first | assumption | omega)) | (refine acall_b (acall_hit (c := c66.to) ((r, itr m F j)) _ rfl ?_) (by assumption); first | exact True.intro | exact hp | exact hp' | (simp only [c66, PCtr.to, pctr, lctr, small, tiny, rng, decide_eq_true_eq, decide_eq_false_iff_not, true_or, or_true, true_and, and_true, Int.reduceEq, Int.reduceNeg, eq_self, reduceIte, if_true, if_false]; first | assumption | omega) | (simp only [c66, PCtr.to, pctr, lctr, small, tiny, rng, decide_eq_true_eq, decide_eq_false_iff_not, true_or, or_true, true_and, and_true, Int.reduceEq, Int.reduceNeg, eq_self, reduceIte, if_true, if_false] at *; first | assumption | omega)), ?_⟩
        refine ⟨by first | with_reducible assumption | omega | assumption, ?_⟩
        (exfalso; simp at w3; exact hq w3)
      · skip
        intro w3
        refine ⟨by first | with_reducible assumption | omega | assumption, ?_⟩
        refine ⟨by first | with_reducible assumption | omega | assumption, ?_⟩
        exact ⟨rfl, by simp [H.clean, AV.bnds, AV.bnd], rfl, rfl, hlen⟩
    · skip
      trivial
theorem ok97 : FokM Tryd.prog none1 97 Tryd.f97 := ⟨mixed, by kernel_rfl, by kernel_rfl, by kernel_rfl, by kernel_rfl⟩
theorem r97 (r : Nat) (F : W) (m : Nat) (hp : (2 ≤ m ∧ m ≤ 4) ∧ r < 64) : Body ⟨Tryd.prog, Sof (P := Tryd.prog) [c123.to, c66.to], Pof (P := Tryd.prog) [], H.nil.base, 300⟩ none1 Tryd.f97 [fA r F, I m] .nil (fA r (cls (fix m F)), .nil) := by
  have hl := lp97 m r F hp.1 hp.2
  refine body_s ([Ans.loop [(1 : Nat), (2 : Nat), (4 : Nat)] [Out.mk Unit AX.ret [(4 : Nat)] (fun x => True) (fun x => [AV.ptr 1 0]) (fun x => H.mk [[I (↑r : Int), u64A (fix m F)], [I (↑r : Int), u64A (cls (fix m F))], [I (↑r : Int), u64A (fix m F)]] [] []) fun y => []]]) (LoopS (Env.mk Tryd.prog (Sof [c123.to, c66.to]) (Pof (P := Tryd.prog) []) H.nil.base (300 : Nat)) (loopAt Tryd.f97 (0 : Nat)) (29 : Nat) [(1 : Nat), (2 : Nat), (4 : Nat)] [I (↑m : Int), AV.ptr 0 0, AV.ptr 1 0] (H.mk [[I (↑r : Int), u64A F], [I 0, AV.int IntKind.u64 (0 : Int)]] [] []) [Out.mk Unit AX.ret [(4 : Nat)] (fun x => True) (fun x => [AV.ptr 1 0]) (fun x => H.mk [[I (↑r : Int), u64A (fix m F)], [I (↑r : Int), u64A (cls (fix m F))], [I (↑r : Int), u64A (fix m F)]] [] []) fun y => []] ∧ (∀ (y : Unit), True → ∀ (u : Nat → AV), (AV.agg [I (↑r : Int), AV.int IntKind.u64 (↑(BitVec.toNat (cls (fix m F))) : Int)], H.mk [] [] []) = (AV.agg [I (↑r : Int), AV.int IntKind.u64 (↑(BitVec.toNat (cls (fix m F))) : Int)], H.mk [] [] [])) ∧ True) (by kernel_rfl) ?_
  refine ⟨hl, ?_⟩
  refine And.intro ?_ ?_
  · skip
    intro y
    intro w1
    intro u
    rfl
  · skip
    trivial
noncomputable def c97 : PCtr Tryd.prog := sctr ok97 (X := Nat × W × Nat) (fun x => [fA x.1 x.2.1, I x.2.2]) (fun x => (2 ≤ x.2.2 ∧ x.2.2 ≤ 4) ∧ x.1 < 64) (fun x => fA x.1 (cls (fix x.2.2 x.2.1))) (by intro x y e _ _; simp [Int.natCast_inj] at e; simp [e]) (fun x => by simp [AV.bnds, AV.bnd, AV.wk, rm_wk_bnd]) (fun x => by first | rfl | (simp [AV.bnd, rm_wk_bnd]; done)  | (simp [AV.bnd, AV.bnds, rm_wk_bnd]; done) | simp [AV.bnd, AV.bnds, Room.bnd, rm_wk_bnd]) (fun x hx => ⟨_, _, _, .pure c123 (.pure c66 (.nil)), r97 (x.1) (x.2.1) (x.2.2) hx⟩)
end Go.Proofs.Evd

