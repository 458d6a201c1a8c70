/- Layer 8: graphs with two nodes exchanged. -/
import Derived.Test.YtjobibaeklbkmaaDoorEdBa
import Derived.Test.YtjobibaeklbkmaaDoorEdJ
import Derived.KernelRfl
set_option linter.unusedSimpArgs false
set_option linter.unusedVariables false
set_option linter.unnecessarySimpa false
set_option maxHeartbeats 4000000
set_option maxRecDepth 100000
namespace Go.Proofs.Evd
open Go Go.VM
open Go.Proofs.Sur (W w_wrap w_nat w_inj w_eq0 w_and w_or w_andn w_shl w_shr neg_nat sub_nat tz tz_ok cl bits_cons bits_0 bits_len andn andn_bit andn_le i_wrap i_and i_or i_andn i_shl i_shr bit_01)

/-- nodes and one that has a next one -/
abbrev nk (m k : Nat) : Prop := 2 ≤ m ∧ m ≤ 4 ∧ k + 1 < m
theorem nk_cases {m k : Nat} (h : nk m k) : (m = 2 ∧ k = 0) ∨ (m = 3 ∧ k = 0) ∨ (m = 3 ∧ k = 1) ∨ (m = 4 ∧ k = 0) ∨ (m = 4 ∧ k = 1) ∨ (m = 4 ∧ k = 2) := by
  obtain ⟨h1, h2, h3⟩ := h; omega
noncomputable def c150 : PCtr Tryd.prog where
  f := 150
  X := Nat × Nat
  args x := [I x.1, I x.2]
  pre x := nk x.1 x.2
  v x := ls (ic (plB x.1 x.2)) .no
  det := by
    rintro ⟨m, k⟩ ⟨m', k'⟩ e _ _
    simp at e
    obtain ⟨h1, h2⟩ := e
    have h1 : m = m' := by omega
    have h2 : k = k' := by omega
    subst h1; subst h2; rfl
  ok := by
    rintro ⟨m, k⟩ h
    refine ⟨by kernel_rfl, fun H => ?_⟩
    rcases nk_cases h with ⟨rfl, rfl⟩ | ⟨rfl, rfl⟩ | ⟨rfl, rfl⟩ | ⟨rfl, rfl⟩ | ⟨rfl, rfl⟩ | ⟨rfl, rfl⟩
    · exact pure_call (CallOk.drop (ts := []) a150_2_0 (by kernel_rfl)) rfl rfl H
    · exact pure_call (CallOk.drop (ts := []) a150_3_0 (by kernel_rfl)) rfl rfl H
    · exact pure_call (CallOk.drop (ts := []) a150_3_1 (by kernel_rfl)) rfl rfl H
    · exact pure_call (CallOk.drop (ts := []) a150_4_0 (by kernel_rfl)) rfl rfl H
    · exact pure_call (CallOk.drop (ts := []) a150_4_1 (by kernel_rfl)) rfl rfl H
    · exact pure_call (CallOk.drop (ts := []) a150_4_2 (by kernel_rfl)) rfl rfl H
theorem plB_ok {m k : Nat} (h : nk m k) : (plB m k).length ≤ 6 ∧ ∀ i, i < (plB m k).length → (plB m k).getD i 0 < 6 := by
  rcases nk_cases h with ⟨rfl, rfl⟩ | ⟨rfl, rfl⟩ | ⟨rfl, rfl⟩ | ⟨rfl, rfl⟩ | ⟨rfl, rfl⟩ | ⟨rfl, rfl⟩ <;> decide
/-- a graph's pairs at their new places -/
def mvJ (B : List Nat) (g : Nat) : Nat → Nat
  | 0 => 0
  | i + 1 => mvJ B g i ||| (g.testBit i).toNat * 2 ^ B.getD i 0
abbrev mv (B : List Nat) (g : Nat) : Nat := mvJ B g B.length
abbrev okB (B : List Nat) : Prop := B.length ≤ 6 ∧ ∀ i, i < B.length → B.getD i 0 < 6
theorem tb_lt {B : List Nat} (hB : okB B) (g : Nat) {i : Nat} (h : i < B.length) : (g.testBit i).toNat * 2 ^ B.getD i 0 < 64 := by
  have h1 : (g.testBit i).toNat ≤ 1 := by cases g.testBit i <;> decide
  have h2 : 2 ^ B.getD i 0 < 2 ^ 6 := Nat.pow_lt_pow_right (by decide) (hB.2 i h)
  have := Nat.mul_le_mul_right (2 ^ B.getD i 0) h1
  omega
theorem mvJ_lt {B : List Nat} (hB : okB B) (g : Nat) : ∀ i, i ≤ B.length → mvJ B g i < 64
  | 0, _ => by show 0 < 64; decide
  | i + 1, h => Nat.or_lt_two_pow (n := 6) (mvJ_lt hB g i (by omega)) (tb_lt hB g (by omega))
def exW (B : List Nat) (F : W) : W := fm ((elts F).map (mv B))
abbrev h123 (r : Nat) (F : W) (B : List Nat) (j : Nat) : H := ⟨[[I r, u64A F], z76, [I r, u64A (fm (((elts F).take j).map (mv B)))]], [], []⟩
abbrev v123 (F : W) (B : List Nat) (j : Nat) : List AV := [.ptr 1 0, ls (ic B) .no, .ptr 2 0, ls (lst F) (rn (lst F)), I (lst F).length, I j]
abbrev o123b (r : Nat) (F : W) (B : List Nat) (j : Nat) (g : Nat) : List Out := [.mk Unit (.exit 2) [6, 7, 8, 11, 21, 22, 23] (fun _ => True) (fun _ => [.ptr 1 0, ls (ic B) .no, .ptr 2 0, I (mv B g), ls (lst F) (rn (lst F)), I (lst F).length, I j]) (fun _ => h123 r F B j) (fun _ => [])]
theorem simp123b : allSimpleM none1 (loopAt Tryd.f123 1) = true := by kernel_rfl
theorem simp123 : allSimpleM none1 (loopAt Tryd.f123 0) = true := by kernel_rfl
theorem rest123 : Rests (En6 [c150.to, c67.to, c86.to]) none1 := rests mixed (.pure _ (.pure _ (.pure _ .nil)))
theorem lp123b (r : Nat) (F : W) (B : List Nat) (j : Nat) (s : Int) (g : Nat) (hB : okB B) (hs' : s = g) (hg : g < 64) :
    LoopS (En6 [c150.to, c67.to, c86.to]) (loopAt Tryd.f123 1) 51 [6, 7, 8, 10, 11, 21, 22, 23, 27, 28, 29] [.ptr 1 0, ls (ic B) .no, .ptr 2 0, I s, I 0, ls (lst F) (rn (lst F)), I (lst F).length, I j, ls (ic B) .no, I (ic B).length, I 0] (h123 r F B j) (o123b r F B j g) := by
  have hle : (ic B).length = B.length := ic_len _
  refine loop_s rest123 simp123b none (by intro _ h; cases h) (fun i vs h => h = h123 r F B j ∧ vs = [.ptr 1 0, ls (ic B) .no, .ptr 2 0, I s, I (mvJ B g i), ls (lst F) (rn (lst F)), I (lst F).length, I j, ls (ic B) .no, I (ic B).length, I i]) B.length ⟨rfl, rfl⟩ (by intro _ h; cases h) ?_
  rintro i vs h hj ⟨rfl, rfl⟩
  by_cases hz : (i : Int) < (ic B).length
  · have hz' : i < B.length := by omega
    have hzl : i < (ic B).length := by omega
    have hb6 := hB.2 i hz'
    have hl6 := hB.1
    have ha := ia_ic hz'
    have hb0 : 0 ≤ ia (ic B) i := by rw [ha]; omega
    have hm := mvJ_lt hB g i (by omega)
    have htb := tb_lt hB g hz'
    have ev0 : s.fdiv (2 ^ min ((i : Int)).toNat IntKind.i64.bits) = ((g >>> i : Nat) : Int) := by rw [hs']; exact i_shr (by omega)
    have ev1 := i_bit (a := g) (n := i) (by omega)
    have ev2 : IntKind.i64.wrap (((g.testBit i).toNat : Int) * 2 ^ min (ia (ic B) i).toNat IntKind.i64.bits) = (((g.testBit i).toNat * 2 ^ B.getD i 0 : Nat) : Int) := by rw [ha]; exact i_shl (by omega) (by omega)
    have ev3 := i_or (a := mvJ B g i) (b := (g.testBit i).toNat * 2 ^ B.getD i 0) (by omega) (by omega)
    have ev4 : IntKind.i64.wrap ((i : Int) + 1) = ((i + 1 : Nat) : Int) := by rw [wr _ (by omega) (by omega)]; omega
    refine ⟨[Ans.o (Orc.b true), Ans.o (Orc.val 32 (AV.cptr (ints (List.drop i (ic B)))) H.nil), Ans.o (Orc.val 33 (I ((ic B).getD i i0)) H.nil), Ans.o (Orc.val 37 (I (↑(g >>> i) : Int)) H.nil), Ans.o (Orc.val 38 (I (↑(g.testBit i).toNat : Int)) H.nil), Ans.o (Orc.val 40 (I (↑((g.testBit i).toNat * (2 : Nat) ^ B.getD i (0 : Nat)) : Int)) H.nil), Ans.o (Orc.val 41 (I (↑(mvJ B g i ||| (g.testBit i).toNat * (2 : Nat) ^ B.getD i (0 : Nat)) : Int)) H.nil), Ans.o (Orc.val 42 (I (↑(i + (1 : Nat)) : Int)) H.nil)], fun u => of_eq ((↑i : Int) < (↑(ic B).length : Int) ∧ aIndexAddr Tryd.prog (22 : Nat) (AV.sl (ints (ic B)) (ic B).length Room.no) (I (↑i : Int)) = some (AV.cptr (ints (List.drop i (ic B)))) ∧ aLoad Tryd.prog (3 : Nat) (ints (List.drop i (ic B))) = some (I ((ic B).getD i i0)) ∧ aBin Tryd.prog BinOp.shr (3 : Nat) (I s) (I (↑i : Int)) = some (I (↑(g >>> i) : Int)) ∧ aBin Tryd.prog BinOp.and (3 : Nat) (I (↑(g >>> i) : Int)) (I 1) = some (I (↑(g.testBit i).toNat : Int)) ∧ aBin Tryd.prog BinOp.shl (3 : Nat) (I (↑(g.testBit i).toNat : Int)) (I ((ic B).getD i i0)) = some (I (↑((g.testBit i).toNat * (2 : Nat) ^ B.getD i (0 : Nat)) : Int)) ∧ aBin Tryd.prog BinOp.or (3 : Nat) (I (↑(mvJ B g i) : Int)) (I (↑((g.testBit i).toNat * (2 : Nat) ^ B.getD i (0 : Nat)) : Int)) = some (I (↑(mvJ B g i ||| (g.testBit i).toNat * (2 : Nat) ^ B.getD i (0 : Nat)) : Int)) ∧ aBin Tryd.prog BinOp.add (3 : Nat) (I (↑i : Int)) (I 1) = some (I (↑(i + (1 : Nat)) : Int)) ∧ (51 : Nat) = (51 : Nat) ∧ i < B.length ∧ Keep (H.mk [[I (↑r : Int), u64A F], [I 0, AV.int IntKind.u64 (0 : Int)], [I (↑r : Int), AV.int IntKind.u64 (↑(BitVec.toNat (fm (List.map (mv B) (List.take j (elts F))))) : Int)]] [] [] = H.mk [[I (↑r : Int), u64A F], [I 0, AV.int IntKind.u64 (0 : Int)], [I (↑r : Int), AV.int IntKind.u64 (↑(BitVec.toNat (fm (List.map (mv B) (List.take j (elts F))))) : Int)]] [] [] ∧ [AV.ptr 1 0, AV.sl (ints (ic B)) (ic B).length Room.no, AV.ptr 2 0, I s, I (↑(mvJ B g i ||| (g.testBit i).toNat * (2 : Nat) ^ B.getD i (0 : Nat)) : Int), AV.sl (ints (lst F)) (lst F).length (rn (lst F)), I (↑(lst F).length : Int), I (↑j : Int), AV.sl (ints (ic B)) (ic B).length Room.no, I (↑(ic B).length : Int), I (↑(i + (1 : Nat)) : Int)] = [AV.ptr 1 0, AV.sl (ints (ic B)) (ic B).length Room.no, AV.ptr 2 0, I s, I (↑(mvJ B g (i + (1 : Nat))) : Int), AV.sl (ints (lst F)) (lst F).length (rn (lst F)), I (↑(lst F).length : Int), I (↑j : Int), AV.sl (ints (ic B)) (ic B).length Room.no, I (↑(ic B).length : Int), I (↑(i + (1 : Nat)) : Int)])) (by kernel_rfl) ?_⟩
    refine ⟨by first | with_reducible assumption | omega | assumption, ?_⟩
    refine ⟨ix_ints (by kernel_rfl) hzl no_ne, ?_⟩
    refine ⟨by first | exact ld_ints (by kernel_rfl) (by kernel_rfl) (by omega) | exact ldm_ints (by kernel_rfl) (by kernel_rfl) (by first | omega | (simp; omega)), ?_⟩
    refine ⟨by first | exact told_shr (by first | exact Int.natCast_nonneg _ | omega) (by with_reducible assumption) | exact told_shr (by omega) rfl, ?_⟩
    refine ⟨told_and (by with_reducible assumption), ?_⟩
    refine ⟨by first | exact told_shl (by first | exact Int.natCast_nonneg _ | omega) (by with_reducible assumption) | exact told_shl (by omega) rfl, ?_⟩
    refine ⟨told_or (by with_reducible assumption), ?_⟩
    refine ⟨told_add (by with_reducible assumption), ?_⟩
    refine ⟨by first | with_reducible assumption | omega | assumption, ?_⟩
    refine ⟨by first | with_reducible assumption | omega | assumption, ?_⟩
    exact ⟨rfl, rfl⟩
  · have hz : ((ic B).length : Int) ≤ i := by omega
    have hj' : i = B.length := by omega
    subst hj'
    refine ⟨[Ans.o (Orc.b false)], fun u => of_eq ((↑(ic B).length : Int) ≤ (↑B.length : Int) ∧ (51 : Nat) = (51 : Nat) ∧ hits [Out.mk Unit (AX.exit (2 : Nat)) [(6 : Nat), (7 : Nat), (8 : Nat), (11 : Nat), (21 : Nat), (22 : Nat), (23 : Nat)] (fun x => True) (fun x => [AV.ptr 1 0, ls (ic B) Room.no, AV.ptr 2 0, I (↑(mv B g) : Int), ls (lst F) (rn (lst F)), I (↑(lst F).length : Int), I (↑j : Int)]) (fun x => h123 r F B j) fun x => []] (AX.exit (2 : Nat)) [u (0 : Nat), u (1 : Nat), u (2 : Nat), u (3 : Nat), u (4 : Nat), u (5 : Nat), AV.ptr 1 0, AV.sl (ints (ic B)) (ic B).length Room.no, AV.ptr 2 0, u (9 : Nat), I s, I (↑(mvJ B g B.length) : Int), u (12 : Nat), u (13 : Nat), u (14 : Nat), u (15 : Nat), u (16 : Nat), u (17 : Nat), u (18 : Nat), u (19 : Nat), u (20 : Nat), AV.sl (ints (lst F)) (lst F).length (rn (lst F)), I (↑(lst F).length : Int), I (↑j : Int), u (24 : Nat), u (25 : Nat), u (26 : Nat), AV.sl (ints (ic B)) (ic B).length Room.no, I (↑(ic B).length : Int), I (↑B.length : Int), AV.bool false, u (31 : Nat), u (32 : Nat), u (33 : Nat), u (34 : Nat), u (35 : Nat), u (36 : Nat), u (37 : Nat), u (38 : Nat), u (39 : Nat), u (40 : Nat), u (41 : Nat), u (42 : Nat), u (43 : Nat), u (44 : Nat), u (45 : Nat), u (46 : Nat), u (47 : Nat), u (48 : Nat), u (49 : Nat), u (50 : Nat)] (H.mk [[I (↑r : Int), u64A F], [I 0, AV.int IntKind.u64 (0 : Int)], [I (↑r : Int), AV.int IntKind.u64 (↑(BitVec.toNat (fm (List.map (mv B) (List.take j (elts F))))) : Int)]] [] [])) (by kernel_rfl) ?_⟩
    refine ⟨by first | with_reducible assumption | omega | assumption, ?_⟩
    refine ⟨by first | with_reducible assumption | omega | assumption, ?_⟩
    exact .inl ⟨(), trivial, rfl, rfl, rfl⟩
abbrev o123 (r : Nat) (F : W) (B : List Nat) : List Out := [.mk Unit (.exit 0) [6, 8] (fun _ => True) (fun _ => [.ptr 1 0, .ptr 2 0]) (fun _ => h123 r F B (elts F).length) (fun _ => [])]
theorem lp123 (r : Nat) (F : W) (B : List Nat) (hB : okB B) :
    LoopS (En6 [c150.to, c67.to, c86.to]) (loopAt Tryd.f123 0) 51 [6, 7, 8, 21, 22, 23] (v123 F B 0) (h123 r F B 0) (o123 r F B) := by
  have hle : (lst F).length = (elts F).length := ic_len _
  have h64 := lst_len F
  refine loop_s rest123 simp123 none (by intro _ h; cases h) (fun j vs h => h = h123 r F B j ∧ vs = v123 F B j) (elts F).length ⟨rfl, rfl⟩ (by intro _ h; cases h) ?_
  rintro j vs h hj ⟨rfl, rfl⟩
  by_cases hz : (j : Int) < (lst F).length
  · have hz' : j < (elts F).length := by omega
    have hzl : j < (lst F).length := by omega
    have hr := rok_idx (rn_rok (lst F)) hzl
    have g1 := ia_ic hz'
    have g2 := elts_sml F j hz'
    have hin := lp123b r F B j (ia (lst F) j) ((elts F).getD j 0) hB g1 g2
    have hm := mvJ_lt hB ((elts F).getD j 0) B.length (Nat.le_refl _)
    have hst : fm (((elts F).take (j + 1)).map (mv B)) = fm (((elts F).take j).map (mv B)) ||| (1#64 <<< mv B ((elts F).getD j 0)) := by
      rw [take_s hz', List.map_append, List.map_cons, List.map_nil, fm_app]
    have ev0 := w_or (fm (((elts F).take j).map (mv B))) (1#64 <<< mv B ((elts F).getD j 0))
    have ev1 : IntKind.i64.wrap ((j : Int) + 1) = ((j + 1 : Nat) : Int) := by rw [wr _ (by omega) (by omega)]; omega
    refine ⟨[Ans.o (Orc.b true), Ans.o (Orc.val 25 (AV.cptr (ints (List.drop j (lst F)))) H.nil), Ans.o (Orc.val 26 (I ((lst F).getD j i0)) H.nil), Ans.loop [(6 : Nat), (7 : Nat), (8 : Nat), (10 : Nat), (11 : Nat), (21 : Nat), (22 : Nat), (23 : Nat), (27 : Nat), (28 : Nat), (29 : Nat)] [Out.mk Unit (AX.exit (2 : Nat)) [(6 : Nat), (7 : Nat), (8 : Nat), (11 : Nat), (21 : Nat), (22 : Nat), (23 : Nat)] (fun x => True) (fun x => [AV.ptr 1 0, ls (ic B) Room.no, AV.ptr 2 0, I (↑(mv B ((elts F).getD j (0 : Nat))) : Int), ls (lst F) (rn (lst F)), I (↑(lst F).length : Int), I (↑j : Int)]) (fun x => h123 r F B j) fun y => [Ans.o (Orc.val 46 (AV.int IntKind.u64 (↑(BitVec.ofNat (64 : Nat) (1 : Nat) <<< mv B ((elts F).getD j (0 : Nat))).toNat : Int)) (H.mk [[I (↑r : Int), u64A F], [I 0, AV.int IntKind.u64 (0 : Int)], [I (↑r : Int), AV.int IntKind.u64 (↑(BitVec.toNat (fm (List.map (mv B) (List.take j (elts F))))) : Int)]] [] [])), Ans.o (Orc.val 47 (AV.int IntKind.u64 (↑(BitVec.toNat (fm (List.map (mv B) (List.take j (elts F))) ||| BitVec.ofNat (64 : Nat) (1 : Nat) <<< mv B ((elts F).getD j (0 : Nat)))) : Int)) H.nil), Ans.o (Orc.val 49 (I (↑(j + (1 : Nat)) : Int)) H.nil)]]], fun u => of_eq ((↑j : Int) < (↑(lst F).length : Int) ∧ aIndexAddr Tryd.prog (22 : Nat) (AV.sl (ints (lst F)) (lst F).length (rn (lst F))) (I (↑j : Int)) = some (AV.cptr (ints (List.drop j (lst F)))) ∧ aLoad Tryd.prog (3 : Nat) (ints (List.drop j (lst F))) = some (I ((lst F).getD j i0)) ∧ LoopS (Env.mk Tryd.prog (Sof [c150.to, c67.to, c86.to]) (Pof (P := Tryd.prog) []) H.nil.base (300 : Nat)) (loopAt Tryd.f123 (1 : Nat)) (51 : Nat) [(6 : Nat), (7 : Nat), (8 : Nat), (10 : Nat), (11 : Nat), (21 : Nat), (22 : Nat), (23 : Nat), (27 : Nat), (28 : Nat), (29 : Nat)] [AV.ptr 1 0, AV.sl (ints (ic B)) (ic B).length Room.no, AV.ptr 2 0, I ((lst F).getD j i0), I 0, AV.sl (ints (lst F)) (lst F).length (rn (lst F)), I (↑(lst F).length : Int), I (↑j : Int), AV.sl (ints (ic B)) (ic B).length Room.no, I (↑(ic B).length : Int), I 0] (H.mk [[I (↑r : Int), u64A F], [I 0, AV.int IntKind.u64 (0 : Int)], [I (↑r : Int), AV.int IntKind.u64 (↑(BitVec.toNat (fm (List.map (mv B) (List.take j (elts F))))) : Int)]] [] []) [Out.mk Unit (AX.exit (2 : Nat)) [(6 : Nat), (7 : Nat), (8 : Nat), (11 : Nat), (21 : Nat), (22 : Nat), (23 : Nat)] (fun x => True) (fun x => [AV.ptr 1 0, ls (ic B) Room.no, AV.ptr 2 0, I (↑(mv B ((elts F).getD j (0 : Nat))) : Int), ls (lst F) (rn (lst F)), I (↑(lst F).length : Int), I (↑j : Int)]) (fun x => h123 r F B j) fun y => [Ans.o (Orc.val 46 (AV.int IntKind.u64 (↑(BitVec.ofNat (64 : Nat) (1 : Nat) <<< mv B ((elts F).getD j (0 : Nat))).toNat : Int)) (H.mk [[I (↑r : Int), u64A F], [I 0, AV.int IntKind.u64 (0 : Int)], [I (↑r : Int), AV.int IntKind.u64 (↑(BitVec.toNat (fm (List.map (mv B) (List.take j (elts F))))) : Int)]] [] [])), Ans.o (Orc.val 47 (AV.int IntKind.u64 (↑(BitVec.toNat (fm (List.map (mv B) (List.take j (elts F))) ||| BitVec.ofNat (64 : Nat) (1 : Nat) <<< mv B ((elts F).getD j (0 : Nat)))) : Int)) H.nil), Ans.o (Orc.val 49 (I (↑(j + (1 : Nat)) : Int)) H.nil)]] ∧ (∀ (y : Unit), True → ∀ (u : Nat → AV), aCall (Sof [c150.to, c67.to, c86.to]) (AV.fn (Fn.func (86 : Nat)) [] []) [I (↑(mv B ((elts F).getD j (0 : Nat))) : Int)] (H.mk [[I (↑r : Int), u64A F], [I 0, AV.int IntKind.u64 (0 : Int)], [I (↑r : Int), AV.int IntKind.u64 (↑(BitVec.toNat (fm (List.map (mv B) (List.take j (elts F))))) : Int)]] [] []) = some (AV.int IntKind.u64 (↑(BitVec.ofNat (64 : Nat) (1 : Nat) <<< mv B ((elts F).getD j (0 : Nat))).toNat : Int), H.mk [[I (↑r : Int), u64A F], [I 0, AV.int IntKind.u64 (0 : Int)], [I (↑r : Int), AV.int IntKind.u64 (↑(BitVec.toNat (fm (List.map (mv B) (List.take j (elts F))))) : Int)]] [] []) ∧ aBin Tryd.prog BinOp.or (74 : Nat) (AV.int IntKind.u64 (↑(BitVec.toNat (fm (List.map (mv B) (List.take j (elts F))))) : Int)) (AV.int IntKind.u64 (↑(BitVec.ofNat (64 : Nat) (1 : Nat) <<< mv B ((elts F).getD j (0 : Nat))).toNat : Int)) = some (AV.int IntKind.u64 (↑(BitVec.toNat (fm (List.map (mv B) (List.take j (elts F))) ||| BitVec.ofNat (64 : Nat) (1 : Nat) <<< mv B ((elts F).getD j (0 : Nat)))) : Int)) ∧ aBin Tryd.prog BinOp.add (3 : Nat) (I (↑j : Int)) (I 1) = some (I (↑(j + (1 : Nat)) : Int)) ∧ (51 : Nat) = (51 : Nat) ∧ j < (elts F).length ∧ Keep (H.mk [[I (↑r : Int), u64A F], [I 0, AV.int IntKind.u64 (0 : Int)], [I (↑r : Int), AV.int IntKind.u64 (↑(BitVec.toNat (fm (List.map (mv B) (List.take j (elts F))) ||| BitVec.ofNat (64 : Nat) (1 : Nat) <<< mv B ((elts F).getD j (0 : Nat)))) : Int)]] [] [] = H.mk [[I (↑r : Int), u64A F], [I 0, AV.int IntKind.u64 (0 : Int)], [I (↑r : Int), AV.int IntKind.u64 (↑(BitVec.toNat (fm (List.map (mv B) (List.take (j + (1 : Nat)) (elts F))))) : Int)]] [] [] ∧ [AV.ptr 1 0, AV.sl (ints (ic B)) (ic B).length Room.no, AV.ptr 2 0, AV.sl (ints (lst F)) (lst F).length (rn (lst F)), I (↑(lst F).length : Int), I (↑(j + (1 : Nat)) : Int)] = [AV.ptr 1 0, AV.sl (ints (ic B)) (ic B).length Room.no, AV.ptr 2 0, AV.sl (ints (lst F)) (lst F).length (rn (lst F)), I (↑(lst F).length : Int), I (↑(j + (1 : Nat)) : Int)])) ∧ True) (by kernel_rfl) ?_⟩
    refine ⟨by first | with_reducible assumption | omega | assumption, ?_⟩
    refine ⟨ix_ints (by kernel_rfl) (by omega) hr, ?_⟩
    refine ⟨by first | exact ld_ints (by kernel_rfl) (by kernel_rfl) (by omega) | exact ldm_ints (by kernel_rfl) (by kernel_rfl) (by first | omega | (simp; omega)), ?_⟩
    refine ⟨hin, ?_⟩
    refine And.intro ?_ ?_
    · skip
      intro y
      intro w1
      intro u
      refine ⟨acall_hit (c := c86.to) (mv B ((elts F).getD j 0)) _ rfl hm, ?_⟩
      refine ⟨told_or (by with_reducible assumption), ?_⟩
      refine ⟨told_add (by with_reducible assumption), ?_⟩
      refine ⟨by first | with_reducible assumption | omega | assumption, ?_⟩
      refine ⟨by first | with_reducible assumption | omega | assumption, ?_⟩
      exact ⟨by rw [hst], rfl⟩
    · skip
      trivial
  · have hz : ((lst F).length : Int) ≤ j := by omega
    have hj' : j = (elts F).length := by omega
    subst hj'
    refine ⟨[Ans.o (Orc.b false)], fun u => of_eq ((↑(lst F).length : Int) ≤ (↑(elts F).length : Int) ∧ (51 : Nat) = (51 : Nat) ∧ hits [Out.mk Unit (AX.exit (0 : Nat)) [(6 : Nat), (8 : Nat)] (fun x => True) (fun x => [AV.ptr 1 0, AV.ptr 2 0]) (fun x => h123 r F B (elts F).length) fun x => []] (AX.exit (0 : Nat)) [u (0 : Nat), u (1 : Nat), u (2 : Nat), u (3 : Nat), u (4 : Nat), u (5 : Nat), AV.ptr 1 0, AV.sl (ints (ic B)) (ic B).length Room.no, AV.ptr 2 0, u (9 : Nat), u (10 : Nat), u (11 : Nat), u (12 : Nat), u (13 : Nat), u (14 : Nat), u (15 : Nat), u (16 : Nat), u (17 : Nat), u (18 : Nat), u (19 : Nat), u (20 : Nat), AV.sl (ints (lst F)) (lst F).length (rn (lst F)), I (↑(lst F).length : Int), I (↑(elts F).length : Int), AV.bool false, u (25 : Nat), u (26 : Nat), u (27 : Nat), u (28 : Nat), u (29 : Nat), u (30 : Nat), u (31 : Nat), u (32 : Nat), u (33 : Nat), u (34 : Nat), u (35 : Nat), u (36 : Nat), u (37 : Nat), u (38 : Nat), u (39 : Nat), u (40 : Nat), u (41 : Nat), u (42 : Nat), u (43 : Nat), u (44 : Nat), u (45 : Nat), u (46 : Nat), u (47 : Nat), u (48 : Nat), u (49 : Nat), u (50 : Nat)] (H.mk [[I (↑r : Int), u64A F], [I 0, AV.int IntKind.u64 (0 : Int)], [I (↑r : Int), AV.int IntKind.u64 (↑(BitVec.toNat (fm (List.map (mv B) (List.take (elts F).length (elts F))))) : Int)]] [] [])) (by kernel_rfl) ?_⟩
    refine ⟨by first | with_reducible assumption | omega | assumption, ?_⟩
    refine ⟨by first | with_reducible assumption | omega | assumption, ?_⟩
    exact .inl ⟨(), trivial, rfl, rfl, rfl⟩
theorem ok123 : FokM Tryd.prog none1 123 Tryd.f123 := ⟨mixed, by kernel_rfl, by kernel_rfl, by kernel_rfl, by kernel_rfl⟩
theorem r123 (r : Nat) (F : W) (m : Nat) (k : Nat) (hp : nk m k) : Body ⟨Tryd.prog, Sof (P := Tryd.prog) [c150.to, c67.to, c86.to], Pof (P := Tryd.prog) [], H.nil.base, 300⟩ none1 Tryd.f123 [fA r F, I m, I k] .nil (fA r (exW (plB m k) F), .nil) := by
  have hl := lp123 r F (plB m k) (plB_ok hp)
  have e : exW (plB m k) F = fm (((elts F).take (elts F).length).map (mv (plB m k))) := by rw [List.take_length]; rfl
  rw [e]
  refine body_s ([Ans.o (Orc.val 16 (AV.sl (ints (ic (plB m k))) (ic (plB m k)).length Room.no) (H.mk [[I (↑r : Int), u64A F], [I 0, AV.int IntKind.u64 (0 : Int)]] [] [])), Ans.o (Orc.val 21 (AV.sl (ints (lst F)) (lst F).length (rn (lst F))) (H.mk [[I (↑r : Int), u64A F], [I 0, AV.int IntKind.u64 (0 : Int)], [I (↑r : Int), AV.int IntKind.u64 (0 : Int)]] [] [])), Ans.loop [(6 : Nat), (7 : Nat), (8 : Nat), (21 : Nat), (22 : Nat), (23 : Nat)] [Out.mk Unit (AX.exit (0 : Nat)) [(6 : Nat), (8 : Nat)] (fun x => True) (fun x => [AV.ptr 1 0, AV.ptr 2 0]) (fun x => h123 r F (plB m k) (elts F).length) fun y => []]]) (aCall (Sof [c150.to, c67.to, c86.to]) (AV.fn (Fn.func (150 : Nat)) [] []) [I (↑m : Int), I (↑k : Int)] (H.mk [[I (↑r : Int), u64A F], [I 0, AV.int IntKind.u64 (0 : Int)]] [] []) = some (AV.sl (ints (ic (plB m k))) (ic (plB m k)).length Room.no, H.mk [[I (↑r : Int), u64A F], [I 0, AV.int IntKind.u64 (0 : Int)]] [] []) ∧ aCall (Sof [c150.to, c67.to, c86.to]) (AV.fn (Fn.func (67 : Nat)) [] []) [AV.agg [I (↑r : Int), u64A F]] (H.mk [[I (↑r : Int), u64A F], [I 0, AV.int IntKind.u64 (0 : Int)], [I (↑r : Int), AV.int IntKind.u64 (0 : Int)]] [] []) = some (AV.sl (ints (lst F)) (lst F).length (rn (lst F)), H.mk [[I (↑r : Int), u64A F], [I 0, AV.int IntKind.u64 (0 : Int)], [I (↑r : Int), AV.int IntKind.u64 (0 : Int)]] [] []) ∧ LoopS (Env.mk Tryd.prog (Sof [c150.to, c67.to, c86.to]) (Pof (P := Tryd.prog) []) H.nil.base (300 : Nat)) (loopAt Tryd.f123 (0 : Nat)) (51 : Nat) [(6 : Nat), (7 : Nat), (8 : Nat), (21 : Nat), (22 : Nat), (23 : Nat)] [AV.ptr 1 0, AV.sl (ints (ic (plB m k))) (ic (plB m k)).length Room.no, AV.ptr 2 0, AV.sl (ints (lst F)) (lst F).length (rn (lst F)), I (↑(lst F).length : Int), I 0] (H.mk [[I (↑r : Int), u64A F], [I 0, AV.int IntKind.u64 (0 : Int)], [I (↑r : Int), AV.int IntKind.u64 (0 : Int)]] [] []) [Out.mk Unit (AX.exit (0 : Nat)) [(6 : Nat), (8 : Nat)] (fun x => True) (fun x => [AV.ptr 1 0, AV.ptr 2 0]) (fun x => h123 r F (plB m k) (elts F).length) fun y => []] ∧ (∀ (y : Unit), True → ∀ (u : Nat → AV), (AV.agg [I (↑r : Int), AV.int IntKind.u64 (↑(BitVec.toNat (fm (List.map (mv (plB m k)) (List.take (elts F).length (elts F))))) : Int)], H.mk [] [] []) = (AV.agg [I (↑r : Int), AV.int IntKind.u64 (↑(BitVec.toNat (fm (List.map (mv (plB m k)) (List.take (elts F).length (elts F))))) : Int)], H.mk [] [] [])) ∧ True) (by kernel_rfl) ?_
  refine ⟨acall_hit (c := c150.to) (m, k) _ rfl hp, ?_⟩
  refine ⟨acall_hit (c := c67.to) (r, F) _ rfl trivial, ?_⟩
  refine ⟨hl, ?_⟩
  refine And.intro ?_ ?_
  · skip
    intro y
    intro w1
    intro u
    rfl
  · skip
    trivial
noncomputable def c123 : PCtr Tryd.prog := sctr ok123 (X := Nat × W × Nat × Nat) (fun x => [fA x.1 x.2.1, I x.2.2.1, I x.2.2.2]) (fun x => nk x.2.2.1 x.2.2.2) (fun x => fA x.1 (exW (plB x.2.2.1 x.2.2.2) x.2.1)) (by intro x y e _ _; simp [Int.natCast_inj] at e; simp [e]) (fun x => by simp [AV.bnds, AV.bnd, AV.wk, rm_wk_bnd]) (fun x => by first | rfl | (simp [AV.bnd, rm_wk_bnd]; done)  | (simp [AV.bnd, AV.bnds, rm_wk_bnd]; done) | simp [AV.bnd, AV.bnds, Room.bnd, rm_wk_bnd]) (fun x hx => ⟨_, _, _, .pure c150 (.pure c67 (.pure c86 (.nil))), r123 (x.1) (x.2.1) (x.2.2.1) (x.2.2.2) hx⟩)
end Go.Proofs.Evd

