/- Layer 8: duals. -/
import Derived.Test.YtjobibaeklbkmaaDoorEdR
import Derived.KernelRfl
set_option linter.unusedSimpArgs false
set_option linter.unusedVariables false
set_option linter.unnecessarySimpa false
set_option maxHeartbeats 4000000
set_option maxRecDepth 100000
namespace Go.Proofs.Evd
open Go Go.VM
open Go.Proofs.Sur (W w_wrap w_nat w_inj w_eq0 w_and w_or w_andn w_shl w_shr neg_nat sub_nat tz tz_ok cl bits_cons bits_0 bits_len andn andn_bit andn_le i_wrap i_and i_or i_andn i_shl i_shr bit_01)

theorem andn_tab : ∀ k, k ≤ 6 → ∀ j, j < 64 → j < 2 ^ k → andn (2 ^ k - 1) j = 2 ^ k - 1 - j := by decide +kernel
theorem andn_full {k j : Nat} (hk : k ≤ 6) (h : j < 2 ^ k) : andn (2 ^ k - 1) j = 2 ^ k - 1 - j := andn_tab k hk j (by have := p64 hk; omega) h
/-- the sets whose complement is not in the family -/
abbrev pD (k : Nat) (F : W) (s : Nat) : Bool := !hs F (andn (2 ^ k - 1) s)
abbrev dJ (k : Nat) (F : W) (j : Nat) : List Nat := (List.range j).filter (pD k F)
theorem dJ_succ (k : Nat) (F : W) (j : Nat) : dJ k F (j + 1) = if pD k F j = true then dJ k F j ++ [j] else dJ k F j := by
  simp only [dJ, List.range_succ, List.filter_append, List.filter_cons, List.filter_nil]
  split
  · rfl
  · simp
def dF (k : Nat) (F : W) : W := fm (dJ k F (2 ^ k))
abbrev h39 (k : Nat) (F : W) (j : Nat) : H := ⟨[[I (2 ^ k - 1 : Nat), u64A F], [I (2 ^ k - 1 : Nat), u64A (fm (dJ k F j))]], [], []⟩
abbrev o39 (k : Nat) (F : W) : List Out := [.mk Unit (.exit 0) [8] (fun _ => True) (fun _ => [.ptr 1 0]) (fun _ => h39 k F (2 ^ k)) (fun _ => [])]
theorem simp39 : allSimpleM none1 (loopAt Tryd.f39 0) = true := by kernel_rfl
theorem lp39 (k : Nat) (F : W) (hk : k ≤ 6) :
    LoopS (En6 [c74g.to, c85.to, c86.to, c67.to]) (loopAt Tryd.f39 0) 42 [6, 8, 22, 23] [.ptr 0 0, .ptr 1 0, I (2 ^ k : Nat), I 0] (h39 k F 0) (o39 k F) := by
  have hR : Rests (En6 [c74g.to, c85.to, c86.to, c67.to]) none1 := rests mixed (.pure _ (.pure _ (.pure _ (.pure _ .nil))))
  refine loop_s hR simp39 none (by intro _ h; cases h) (fun j vs h => h = h39 k F j ∧ vs = [.ptr 0 0, .ptr 1 0, I (2 ^ k : Nat), I j]) (2 ^ k) ⟨rfl, rfl⟩ (by intro _ h; cases h) ?_
  rintro j vs h hj ⟨rfl, rfl⟩
  have hp := p64 hk
  by_cases hz : (j : Int) < (2 ^ k : Nat)
  · have hz' : j < 2 ^ k := by omega
    have ev0 := i_andn (a := 2 ^ k - 1) (b := j) (by omega)
    have hal : andn (2 ^ k - 1) j < 64 := Nat.lt_of_le_of_lt (andn_le (by omega)) (by omega)
    have hj64 : j < 64 := by omega
    have ev1 := w_or (fm (dJ k F j)) (1#64 <<< j)
    have ev2 : IntKind.i64.wrap ((j : Int) + 1) = ((j + 1 : Nat) : Int) := by rw [wr _ (by omega) (by omega)]; omega
    have hsu := dJ_succ k F j
    cases hb : hs F (andn (2 ^ k - 1) j)
    · have hs2 : fm (dJ k F (j + 1)) = fm (dJ k F j) ||| (1#64 <<< j) := by rw [hsu, if_pos (by rw [pD, hb]; rfl), fm_app]
      refine ⟨[Ans.o (Orc.b true), Ans.o (Orc.val 30 (I (↑(andn ((2 : Nat) ^ k - (1 : Nat)) j) : Int)) H.nil), Ans.o (Orc.val 31 (AV.bool false) (H.mk [[I (↑((2 : Nat) ^ k - (1 : Nat)) : Int), u64A F], [I (↑((2 : Nat) ^ k - (1 : Nat)) : Int), AV.int IntKind.u64 (↑(BitVec.toNat (fm (dJ k F j))) : Int)]] [] [])), Ans.o (Orc.val 36 (AV.int IntKind.u64 (↑(BitVec.ofNat (64 : Nat) (1 : Nat) <<< j).toNat : Int)) (H.mk [[I (↑((2 : Nat) ^ k - (1 : Nat)) : Int), u64A F], [I (↑((2 : Nat) ^ k - (1 : Nat)) : Int), AV.int IntKind.u64 (↑(BitVec.toNat (fm (dJ k F j))) : Int)]] [] [])), Ans.o (Orc.val 37 (AV.int IntKind.u64 (↑(BitVec.toNat (fm (dJ k F j) ||| BitVec.ofNat (64 : Nat) (1 : Nat) <<< j)) : Int)) H.nil), Ans.o (Orc.val 39 (I (↑(j + (1 : Nat)) : Int)) H.nil)], fun u => of_eq ((↑j : Int) < (↑((2 : Nat) ^ k) : Int) ∧ aBin Tryd.prog BinOp.andNot (3 : Nat) (I (↑((2 : Nat) ^ k - (1 : Nat)) : Int)) (I (↑j : Int)) = some (I (↑(andn ((2 : Nat) ^ k - (1 : Nat)) j) : Int)) ∧ aCall (Sof [c74g.to, c85.to, c86.to, c67.to]) (AV.fn (Fn.func (85 : Nat)) [] []) [AV.agg [I (↑((2 : Nat) ^ k - (1 : Nat)) : Int), u64A F], I (↑(andn ((2 : Nat) ^ k - (1 : Nat)) j) : Int)] (H.mk [[I (↑((2 : Nat) ^ k - (1 : Nat)) : Int), u64A F], [I (↑((2 : Nat) ^ k - (1 : Nat)) : Int), AV.int IntKind.u64 (↑(BitVec.toNat (fm (dJ k F j))) : Int)]] [] []) = some (AV.bool false, H.mk [[I (↑((2 : Nat) ^ k - (1 : Nat)) : Int), u64A F], [I (↑((2 : Nat) ^ k - (1 : Nat)) : Int), AV.int IntKind.u64 (↑(BitVec.toNat (fm (dJ k F j))) : Int)]] [] []) ∧ aCall (Sof [c74g.to, c85.to, c86.to, c67.to]) (AV.fn (Fn.func (86 : Nat)) [] []) [I (↑j : Int)] (H.mk [[I (↑((2 : Nat) ^ k - (1 : Nat)) : Int), u64A F], [I (↑((2 : Nat) ^ k - (1 : Nat)) : Int), AV.int IntKind.u64 (↑(BitVec.toNat (fm (dJ k F j))) : Int)]] [] []) = some (AV.int IntKind.u64 (↑(BitVec.ofNat (64 : Nat) (1 : Nat) <<< j).toNat : Int), H.mk [[I (↑((2 : Nat) ^ k - (1 : Nat)) : Int), u64A F], [I (↑((2 : Nat) ^ k - (1 : Nat)) : Int), AV.int IntKind.u64 (↑(BitVec.toNat (fm (dJ k F j))) : Int)]] [] []) ∧ aBin Tryd.prog BinOp.or (74 : Nat) (AV.int IntKind.u64 (↑(BitVec.toNat (fm (dJ k F j))) : Int)) (AV.int IntKind.u64 (↑(BitVec.ofNat (64 : Nat) (1 : Nat) <<< j).toNat : Int)) = some (AV.int IntKind.u64 (↑(BitVec.toNat (fm (dJ k F j) ||| BitVec.ofNat (64 : Nat) (1 : Nat) <<< j)) : Int)) ∧ aBin Tryd.prog BinOp.add (3 : Nat) (I (↑j : Int)) (I 1) = some (I (↑(j + (1 : Nat)) : Int)) ∧ (42 : Nat) = (42 : Nat) ∧ j < (2 : Nat) ^ k ∧ Keep (H.mk [[I (↑((2 : Nat) ^ k - (1 : Nat)) : Int), u64A F], [I (↑((2 : Nat) ^ k - (1 : Nat)) : Int), AV.int IntKind.u64 (↑(BitVec.toNat (fm (dJ k F j) ||| BitVec.ofNat (64 : Nat) (1 : Nat) <<< j)) : Int)]] [] [] = H.mk [[I (↑((2 : Nat) ^ k - (1 : Nat)) : Int), u64A F], [I (↑((2 : Nat) ^ k - (1 : Nat)) : Int), AV.int IntKind.u64 (↑(BitVec.toNat (fm (dJ k F (j + (1 : Nat))))) : Int)]] [] [] ∧ [AV.ptr 0 0, AV.ptr 1 0, I (↑((2 : Nat) ^ k) : Int), I (↑(j + (1 : Nat)) : Int)] = [AV.ptr 0 0, AV.ptr 1 0, I (↑((2 : Nat) ^ k) : Int), I (↑(j + (1 : Nat)) : Int)])) (by kernel_rfl) ?_⟩
      refine ⟨by first | with_reducible assumption | omega | assumption, ?_⟩
      refine ⟨told_andn (by with_reducible assumption), ?_⟩
      refine ⟨acall_b (acall_hit (c := c85.to) (2 ^ k - 1, F, andn (2 ^ k - 1) j) _ rfl hal) hb, ?_⟩
      refine ⟨acall_hit (c := c86.to) j _ rfl hj64, ?_⟩
      refine ⟨told_or (by with_reducible assumption), ?_⟩
      refine ⟨told_add (by with_reducible assumption), ?_⟩
      refine ⟨by first | with_reducible assumption | omega | assumption, ?_⟩
      refine ⟨by first | with_reducible assumption | omega | assumption, ?_⟩
      exact ⟨by rw [hs2], rfl⟩
    · have hs2 : dJ k F (j + 1) = dJ k F j := by rw [hsu, if_neg (by rw [pD, hb]; decide)]
      refine ⟨[Ans.o (Orc.b true), Ans.o (Orc.val 30 (I (↑(andn ((2 : Nat) ^ k - (1 : Nat)) j) : Int)) H.nil), Ans.o (Orc.val 31 (AV.bool true) (H.mk [[I (↑((2 : Nat) ^ k - (1 : Nat)) : Int), u64A F], [I (↑((2 : Nat) ^ k - (1 : Nat)) : Int), AV.int IntKind.u64 (↑(BitVec.toNat (fm (dJ k F j))) : Int)]] [] [])), Ans.o (Orc.val 39 (I (↑(j + (1 : Nat)) : Int)) H.nil)], fun u => of_eq ((↑j : Int) < (↑((2 : Nat) ^ k) : Int) ∧ aBin Tryd.prog BinOp.andNot (3 : Nat) (I (↑((2 : Nat) ^ k - (1 : Nat)) : Int)) (I (↑j : Int)) = some (I (↑(andn ((2 : Nat) ^ k - (1 : Nat)) j) : Int)) ∧ aCall (Sof [c74g.to, c85.to, c86.to, c67.to]) (AV.fn (Fn.func (85 : Nat)) [] []) [AV.agg [I (↑((2 : Nat) ^ k - (1 : Nat)) : Int), u64A F], I (↑(andn ((2 : Nat) ^ k - (1 : Nat)) j) : Int)] (H.mk [[I (↑((2 : Nat) ^ k - (1 : Nat)) : Int), u64A F], [I (↑((2 : Nat) ^ k - (1 : Nat)) : Int), AV.int IntKind.u64 (↑(BitVec.toNat (fm (dJ k F j))) : Int)]] [] []) = some (AV.bool true, H.mk [[I (↑((2 : Nat) ^ k - (1 : Nat)) : Int), u64A F], [I (↑((2 : Nat) ^ k - (1 : Nat)) : Int), AV.int IntKind.u64 (↑(BitVec.toNat (fm (dJ k F j))) : Int)]] [] []) ∧ aBin Tryd.prog BinOp.add (3 : Nat) (I (↑j : Int)) (I 1) = some (I (↑(j + (1 : Nat)) : Int)) ∧ (42 : Nat) = (42 : Nat) ∧ j < (2 : Nat) ^ k ∧ Keep (H.mk [[I (↑((2 : Nat) ^ k - (1 : Nat)) : Int), u64A F], [I (↑((2 : Nat) ^ k - (1 : Nat)) : Int), AV.int IntKind.u64 (↑(BitVec.toNat (fm (dJ k F j))) : Int)]] [] [] = H.mk [[I (↑((2 : Nat) ^ k - (1 : Nat)) : Int), u64A F], [I (↑((2 : Nat) ^ k - (1 : Nat)) : Int), AV.int IntKind.u64 (↑(BitVec.toNat (fm (dJ k F (j + (1 : Nat))))) : Int)]] [] [] ∧ [AV.ptr 0 0, AV.ptr 1 0, I (↑((2 : Nat) ^ k) : Int), I (↑(j + (1 : Nat)) : Int)] = [AV.ptr 0 0, AV.ptr 1 0, I (↑((2 : Nat) ^ k) : Int), I (↑(j + (1 : Nat)) : Int)])) (by kernel_rfl) ?_⟩
      refine ⟨by first | with_reducible assumption | omega | assumption, ?_⟩
      refine ⟨told_andn (by with_reducible assumption), ?_⟩
      refine ⟨acall_b (acall_hit (c := c85.to) (2 ^ k - 1, F, andn (2 ^ k - 1) j) _ rfl hal) hb, ?_⟩
      refine ⟨told_add (by with_reducible assumption), ?_⟩
      refine ⟨by first | with_reducible assumption | omega | assumption, ?_⟩
      refine ⟨by first | with_reducible assumption | omega | assumption, ?_⟩
      exact ⟨by rw [hs2], rfl⟩
  · have hz : ((2 ^ k : Nat) : Int) ≤ j := by omega
    have hj' : j = 2 ^ k := by omega
    subst hj'
    refine ⟨[Ans.o (Orc.b false)], fun u => of_eq ((↑((2 : Nat) ^ k) : Int) ≤ (↑((2 : Nat) ^ k) : Int) ∧ (42 : Nat) = (42 : Nat) ∧ hits [Out.mk Unit (AX.exit (0 : Nat)) [(8 : Nat)] (fun x => True) (fun x => [AV.ptr 1 0]) (fun x => h39 k F ((2 : Nat) ^ k)) fun x => []] (AX.exit (0 : Nat)) [u (0 : Nat), u (1 : Nat), u (2 : Nat), u (3 : Nat), u (4 : Nat), u (5 : Nat), AV.ptr 0 0, u (7 : Nat), AV.ptr 1 0, u (9 : Nat), u (10 : Nat), u (11 : Nat), u (12 : Nat), u (13 : Nat), u (14 : Nat), u (15 : Nat), u (16 : Nat), u (17 : Nat), u (18 : Nat), u (19 : Nat), u (20 : Nat), u (21 : Nat), I (↑((2 : Nat) ^ k) : Int), I (↑((2 : Nat) ^ k) : Int), AV.bool false, u (25 : Nat), u (26 : Nat), u (27 : Nat), u (28 : Nat), u (29 : Nat), u (30 : Nat), u (31 : Nat), u (32 : Nat), u (33 : Nat), u (34 : Nat), u (35 : Nat), u (36 : Nat), u (37 : Nat), u (38 : Nat), u (39 : Nat), u (40 : Nat), u (41 : Nat)] (H.mk [[I (↑((2 : Nat) ^ k - (1 : Nat)) : Int), u64A F], [I (↑((2 : Nat) ^ k - (1 : Nat)) : Int), AV.int IntKind.u64 (↑(BitVec.toNat (fm (dJ k F ((2 : Nat) ^ k)))) : Int)]] [] [])) (by kernel_rfl) ?_⟩
    refine ⟨by first | with_reducible assumption | omega | assumption, ?_⟩
    refine ⟨by first | with_reducible assumption | omega | assumption, ?_⟩
    exact .inl ⟨(), trivial, rfl, rfl, rfl⟩
theorem ok39g : FokM Tryd.prog none1 39 Tryd.f39 := ⟨mixed, by kernel_rfl, by kernel_rfl, by kernel_rfl, by kernel_rfl⟩
theorem r39g (k : Nat) (F : W) (r : Room) (hp : Fm k (lst F) F ∧ rok (lst F) r) : Body ⟨Tryd.prog, Sof (P := Tryd.prog) [c74g.to, c85.to, c86.to, c67.to], Pof (P := Tryd.prog) [], H.nil.base, 300⟩ none1 Tryd.f39 [I k, ls (lst F) r] .nil (.tup [ls (lst (dF k F)) (rn (lst (dF k F))), I 0], .nil) := by
  have hk : k ≤ 6 := by have := hp.1.n6; omega
  have hl := lp39 k F hk
  have ev0 := pw_shl (n := k) (by omega)
  refine body_s ([Ans.o (Orc.val 13 (AV.tup [AV.agg [I (↑((2 : Nat) ^ (↑k : Int).toNat - (1 : Nat)) : Int), u64A F], AV.bool true]) (H.mk [] [] [])), Ans.o (Orc.val 22 (I (↑((2 : Nat) ^ k) : Int)) H.nil), Ans.loop [(6 : Nat), (8 : Nat), (22 : Nat), (23 : Nat)] [Out.mk Unit (AX.exit (0 : Nat)) [(8 : Nat)] (fun x => True) (fun x => [AV.ptr 1 0]) (fun x => h39 k F ((2 : Nat) ^ k)) fun y => [Ans.o (Orc.val 41 (AV.sl (ints (lst (fm (dJ k F ((2 : Nat) ^ k))))) (lst (fm (dJ k F ((2 : Nat) ^ k)))).length (rn (lst (fm (dJ k F ((2 : Nat) ^ k)))))) (H.mk [[I (↑((2 : Nat) ^ k - (1 : Nat)) : Int), u64A F], [I (↑((2 : Nat) ^ k - (1 : Nat)) : Int), AV.int IntKind.u64 (↑(BitVec.toNat (fm (dJ k F ((2 : Nat) ^ k)))) : Int)]] [] []))]]]) (aCall (Sof [c74g.to, c85.to, c86.to, c67.to]) (AV.fn (Fn.func (74 : Nat)) [] []) [I (↑k : Int), AV.sl (ints (lst F)) (lst F).length r] (H.mk [] [] []) = some (AV.tup [AV.agg [I (↑((2 : Nat) ^ (↑k : Int).toNat - (1 : Nat)) : Int), u64A F], AV.bool true], H.mk [] [] []) ∧ aBin Tryd.prog BinOp.shl (3 : Nat) (I 1) (I (↑k : Int)) = some (I (↑((2 : Nat) ^ k) : Int)) ∧ LoopS (Env.mk Tryd.prog (Sof [c74g.to, c85.to, c86.to, c67.to]) (Pof (P := Tryd.prog) []) H.nil.base (300 : Nat)) (loopAt Tryd.f39 (0 : Nat)) (42 : Nat) [(6 : Nat), (8 : Nat), (22 : Nat), (23 : Nat)] [AV.ptr 0 0, AV.ptr 1 0, I (↑((2 : Nat) ^ k) : Int), I 0] (H.mk [[I (↑((2 : Nat) ^ (↑k : Int).toNat - (1 : Nat)) : Int), u64A F], [I (↑((2 : Nat) ^ (↑k : Int).toNat - (1 : Nat)) : Int), AV.int IntKind.u64 (0 : Int)]] [] []) [Out.mk Unit (AX.exit (0 : Nat)) [(8 : Nat)] (fun x => True) (fun x => [AV.ptr 1 0]) (fun x => h39 k F ((2 : Nat) ^ k)) fun y => [Ans.o (Orc.val 41 (AV.sl (ints (lst (fm (dJ k F ((2 : Nat) ^ k))))) (lst (fm (dJ k F ((2 : Nat) ^ k)))).length (rn (lst (fm (dJ k F ((2 : Nat) ^ k)))))) (H.mk [[I (↑((2 : Nat) ^ k - (1 : Nat)) : Int), u64A F], [I (↑((2 : Nat) ^ k - (1 : Nat)) : Int), AV.int IntKind.u64 (↑(BitVec.toNat (fm (dJ k F ((2 : Nat) ^ k)))) : Int)]] [] []))]] ∧ (∀ (y : Unit), True → ∀ (u : Nat → AV), aCall (Sof [c74g.to, c85.to, c86.to, c67.to]) (AV.fn (Fn.func (67 : Nat)) [] []) [AV.agg [I (↑((2 : Nat) ^ k - (1 : Nat)) : Int), AV.int IntKind.u64 (↑(BitVec.toNat (fm (dJ k F ((2 : Nat) ^ k)))) : Int)]] (H.mk [[I (↑((2 : Nat) ^ k - (1 : Nat)) : Int), u64A F], [I (↑((2 : Nat) ^ k - (1 : Nat)) : Int), AV.int IntKind.u64 (↑(BitVec.toNat (fm (dJ k F ((2 : Nat) ^ k)))) : Int)]] [] []) = some (AV.sl (ints (lst (fm (dJ k F ((2 : Nat) ^ k))))) (lst (fm (dJ k F ((2 : Nat) ^ k)))).length (rn (lst (fm (dJ k F ((2 : Nat) ^ k))))), H.mk [[I (↑((2 : Nat) ^ k - (1 : Nat)) : Int), u64A F], [I (↑((2 : Nat) ^ k - (1 : Nat)) : Int), AV.int IntKind.u64 (↑(BitVec.toNat (fm (dJ k F ((2 : Nat) ^ k)))) : Int)]] [] []) ∧ leave (Base.mk H.nil.blk.length H.nil.toks.length H.nil.maps.length) (AV.tup [AV.sl (ints (lst (fm (dJ k F ((2 : Nat) ^ k))))) (lst (fm (dJ k F ((2 : Nat) ^ k)))).length (rn (lst (fm (dJ k F ((2 : Nat) ^ k))))), I 0]) (H.mk [[I (↑((2 : Nat) ^ k - (1 : Nat)) : Int), u64A F], [I (↑((2 : Nat) ^ k - (1 : Nat)) : Int), AV.int IntKind.u64 (↑(BitVec.toNat (fm (dJ k F ((2 : Nat) ^ k)))) : Int)]] [] []) = (AV.tup [AV.sl (ints (lst (dF k F))) (lst (dF k F)).length (rn (lst (dF k F))), I 0], H.mk [] [] [])) ∧ True) (by kernel_rfl) ?_
  refine ⟨acall_hit (c := c74g.to) (k, F, r) _ rfl hp, ?_⟩
  refine ⟨by first | exact told_shl (by first | exact Int.natCast_nonneg _ | omega) (by with_reducible assumption) | exact told_shl (by omega) rfl, ?_⟩
  refine ⟨hl, ?_⟩
  refine And.intro ?_ ?_
  · skip
    intro y
    intro w1
    intro u
    refine ⟨acall_hit (c := c67.to) (2 ^ k - 1, dF k F) _ rfl trivial, ?_⟩
    first | rfl | exact leave_bs _ (by simp [AV.bnd, AV.bnds, rm_wk_bnd])
  · skip
    trivial
noncomputable def c39g : PCtr Tryd.prog := sctr ok39g (X := Nat × W × Room) (fun x => [I x.1, ls (lst x.2.1) x.2.2]) (fun x => Fm x.1 (lst x.2.1) x.2.1 ∧ rok (lst x.2.1) x.2.2) (fun x => .tup [ls (lst (dF x.1 x.2.1)) (rn (lst (dF x.1 x.2.1))), I 0]) (by intro x y e _ _; simp [Int.natCast_inj] at e; simp [e]) (fun x => by simp [AV.bnds, AV.bnd, AV.wk, rm_wk_bnd]) (fun x => by first | rfl | (simp [AV.bnd, rm_wk_bnd]; done)  | (simp [AV.bnd, AV.bnds, rm_wk_bnd]; done) | simp [AV.bnd, AV.bnds, Room.bnd, rm_wk_bnd]) (fun x hx => ⟨_, _, _, .pure c74g (.pure c85 (.pure c86 (.pure c67 (.nil)))), r39g (x.1) (x.2.1) (x.2.2).wk (by first | exact hx | (simp only [rok_wk]; exact hx) | (simp only [rok_wk, lst_wk]; exact hx) | (simp only [rok_wk, lst_wk, lsn_wk]; exact hx))⟩)
/-! ### by the reference -/
end Go.Proofs.Evd

