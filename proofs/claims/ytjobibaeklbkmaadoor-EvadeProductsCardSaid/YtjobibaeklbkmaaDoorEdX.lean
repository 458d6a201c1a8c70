/- Layer 8: joins, by the program and by the reference. -/
import Derived.Test.YtjobibaeklbkmaaDoorEdW
import Derived.KernelRfl
set_option linter.unusedSimpArgs false
set_option linter.unusedVariables false
set_option linter.unnecessarySimpa false
set_option maxHeartbeats 4000000
set_option maxRecDepth 100000
namespace Go.Proofs.Evd
open Go Go.VM
open Go.Proofs.Sur (W w_wrap w_nat w_inj w_eq0 w_and w_or w_andn w_shl w_shr neg_nat sub_nat tz tz_ok cl bits_cons bits_0 bits_len andn andn_bit andn_le i_wrap i_and i_or i_andn i_shl i_shr bit_01)

/-- two pure contracts as one -/
noncomputable def orP (c d : PCtr Tryd.prog) (hf : d.f = c.f) (hd : ∀ x y, c.args x = d.args y → c.pre x → d.pre y → c.v x = d.v y) : PCtr Tryd.prog where
  f := c.f
  X := c.X ⊕ d.X
  args := Sum.elim c.args d.args
  pre := Sum.elim c.pre d.pre
  v := Sum.elim c.v d.v
  det x y e p q := by
    cases x <;> cases y
    · exact c.det _ _ e p q
    · exact hd _ _ e p q
    · exact (hd _ _ e.symm q p).symm
    · exact d.det _ _ e p q
  ok x p := by
    cases x
    · exact c.ok _ p
    · rw [← hf]; exact d.ok _ p
theorem ls_inj {l m : List Int} {r q : Room} (h : ls l r = ls m q) : l = m := by
  simp at h; exact h.1
noncomputable def c74o : PCtr Tryd.prog := orP c74g c74b rfl (by
  rintro ⟨n, F, r⟩ ⟨n', l, q⟩ e ⟨h1, _⟩ ⟨_, h2⟩
  simp only [c74g, c74b, List.cons.injEq, AV.int.injEq, true_and, and_true] at e
  obtain ⟨e1, e2⟩ := e
  have e3 := ls_inj e2
  simp only at e1 h1 h2
  exact absurd ⟨F, by rw [← e1, ← e3]; exact h1⟩ h2)
theorem ia_elts {F : W} {i : Nat} (h : i < (elts F).length) : ia (lst F) i = (((elts F).getD i 0 : Nat) : Int) ∧ (elts F).getD i 0 < 64 ∧ hs F ((elts F).getD i 0) = true := by
  refine ⟨ia_ic h, elts_sml F i h, ?_⟩
  have := Go.Proofs.Sur.mem_bits.1 (List.getElem_mem h)
  simpa [List.getD_eq_getElem?_getD, h] using this
abbrev rJ (n m : Nat) : Nat := (2 ^ n - 1) ||| (2 ^ m - 1) * 2 ^ n
abbrev h53 (n m : Nat) (F G : W) (i j : Nat) : H := ⟨[[I (2 ^ n - 1 : Nat), u64A F], [I (2 ^ m - 1 : Nat), u64A G], [I (rJ n m : Nat), u64A (fm (jJ n (elts F) (elts G) i j))]], [], []⟩
abbrev v53 (n : Nat) (F : W) (i : Nat) : List AV := [I n, .ptr 1 0, .ptr 2 0, ls (lst F) (rn (lst F)), I (lst F).length, I i]

abbrev o53b (n m : Nat) (F G : W) (i : Nat) : List Out := [.mk Unit (.exit 2) [0, 12, 14, 52, 53, 54] (fun _ => True) (fun _ => v53 n F i) (fun _ => h53 n m F G (i + 1) 0) (fun _ => [])]
theorem simp53b : allSimpleM none1 (loopAt Tryd.f53 1) = true := by kernel_rfl
theorem simp53 : allSimpleM none1 (loopAt Tryd.f53 0) = true := by kernel_rfl
theorem rest53 : Rests (En6 [c74o.to, c67.to, c86.to]) none1 := rests mixed (.pure _ (.pure _ (.pure _ .nil)))
theorem lp53b (n m : Nat) (F G : W) (i : Nat) (s : Int) (hn : n + m ≤ 6) (hF : Rg n F) (hG : Rg m G) (hi : i < (elts F).length) (he : s = (((elts F).getD i 0 : Nat) : Int)) :
    LoopS (En6 [c74o.to, c67.to, c86.to]) (loopAt Tryd.f53 1) 79 [0, 12, 14, 16, 52, 53, 54, 59, 60, 61] [I n, .ptr 1 0, .ptr 2 0, I s, ls (lst F) (rn (lst F)), I (lst F).length, I i, ls (lst G) (rn (lst G)), I (lst G).length, I 0] (h53 n m F G i 0) (o53b n m F G i) := by
  have hle : (lst G).length = (elts G).length := ic_len _
  have h64 := lst_len G
  obtain ⟨_, f2, f3⟩ := ia_elts hi
  refine loop_s rest53 simp53b none (by intro _ h; cases h) (fun j vs h => h = h53 n m F G i j ∧ vs = [I n, .ptr 1 0, .ptr 2 0, I s, ls (lst F) (rn (lst F)), I (lst F).length, I i, ls (lst G) (rn (lst G)), I (lst G).length, I j]) (elts G).length ⟨rfl, rfl⟩ (by intro _ h; cases h) ?_
  rintro j vs h hj ⟨rfl, rfl⟩
  by_cases hz : (j : Int) < (lst G).length
  · have hz' : j < (elts G).length := by omega
    have hzl : j < (lst G).length := by omega
    have hr := rok_idx (rn_rok (lst G)) hzl
    obtain ⟨g1, g2, g3⟩ := ia_elts hz'
    have hst := jJ_step n (elts F) (elts G) hi hz'
    have hpl := pl_lt (hF _ f3) (hG _ g3)
    have hp64 : pl n ((elts F).getD i 0) ((elts G).getD j 0) < 64 := Nat.lt_of_lt_of_le hpl (p64 hn)
    have hmul : (elts G).getD j 0 * 2 ^ n < 9223372036854775808 := by
      have := Nat.mul_le_mul (Nat.le_of_lt g2) (p64 (n := n) (by omega))
      omega
    have ev0 : IntKind.i64.wrap (ia (lst G) j * 2 ^ min ((n : Int)).toNat IntKind.i64.bits) = (((elts G).getD j 0 * 2 ^ n : Nat) : Int) := by rw [g1]; exact shl_n g2 (by omega)
    have ev1 : IntKind.i64.wrap ((BitVec.ofInt IntKind.i64.bits s ||| BitVec.ofInt IntKind.i64.bits (((elts G).getD j 0 * 2 ^ n : Nat) : Int)).toNat : Int) = ((pl n ((elts F).getD i 0) ((elts G).getD j 0) : Nat) : Int) := by rw [he]; exact i_or (by omega) hmul
    have ev2 := w_or (fm (jJ n (elts F) (elts G) i j)) (1#64 <<< pl n ((elts F).getD i 0) ((elts G).getD j 0))
    have ev3 : IntKind.i64.wrap ((j : Int) + 1) = ((j + 1 : Nat) : Int) := by rw [wr _ (by omega) (by omega)]; omega
    have hs2 : fm (jJ n (elts F) (elts G) i (j + 1)) = fm (jJ n (elts F) (elts G) i j) ||| (1#64 <<< pl n ((elts F).getD i 0) ((elts G).getD j 0)) := by rw [hst, fm_app]
    clear hst
    generalize pl n ((elts F).getD i 0) ((elts G).getD j 0) = w at hp64 ev1 ev2 hs2
    refine ⟨[Ans.o (Orc.b true), Ans.o (Orc.val 63 (AV.cptr (ints (List.drop j (lst G)))) H.nil), Ans.o (Orc.val 64 (I ((lst G).getD j i0)) H.nil), Ans.o (Orc.val 70 (I (↑((elts G).getD j (0 : Nat) * (2 : Nat) ^ n) : Int)) H.nil), Ans.o (Orc.val 71 (I (↑w : Int)) H.nil), Ans.o (Orc.val 72 (AV.int IntKind.u64 (↑(BitVec.ofNat (64 : Nat) (1 : Nat) <<< w).toNat : Int)) (H.mk [[I (↑((2 : Nat) ^ n - (1 : Nat)) : Int), u64A F], [I (↑((2 : Nat) ^ m - (1 : Nat)) : Int), u64A G], [I (↑(rJ n m) : Int), AV.int IntKind.u64 (↑(BitVec.toNat (fm (jJ n (elts F) (elts G) i j))) : Int)]] [] [])), Ans.o (Orc.val 73 (AV.int IntKind.u64 (↑(BitVec.toNat (fm (jJ n (elts F) (elts G) i j) ||| BitVec.ofNat (64 : Nat) (1 : Nat) <<< w)) : Int)) H.nil), Ans.o (Orc.val 75 (I (↑(j + (1 : Nat)) : Int)) H.nil)], fun u => of_eq ((↑j : Int) < (↑(lst G).length : Int) ∧ aIndexAddr Tryd.prog (22 : Nat) (AV.sl (ints (lst G)) (lst G).length (rn (lst G))) (I (↑j : Int)) = some (AV.cptr (ints (List.drop j (lst G)))) ∧ aLoad Tryd.prog (3 : Nat) (ints (List.drop j (lst G))) = some (I ((lst G).getD j i0)) ∧ aBin Tryd.prog BinOp.shl (3 : Nat) (I ((lst G).getD j i0)) (I (↑n : Int)) = some (I (↑((elts G).getD j (0 : Nat) * (2 : Nat) ^ n) : Int)) ∧ aBin Tryd.prog BinOp.or (3 : Nat) (I s) (I (↑((elts G).getD j (0 : Nat) * (2 : Nat) ^ n) : Int)) = some (I (↑w : Int)) ∧ aCall (Sof [c74o.to, c67.to, c86.to]) (AV.fn (Fn.func (86 : Nat)) [] []) [I (↑w : Int)] (H.mk [[I (↑((2 : Nat) ^ n - (1 : Nat)) : Int), u64A F], [I (↑((2 : Nat) ^ m - (1 : Nat)) : Int), u64A G], [I (↑(rJ n m) : Int), AV.int IntKind.u64 (↑(BitVec.toNat (fm (jJ n (elts F) (elts G) i j))) : Int)]] [] []) = some (AV.int IntKind.u64 (↑(BitVec.ofNat (64 : Nat) (1 : Nat) <<< w).toNat : Int), H.mk [[I (↑((2 : Nat) ^ n - (1 : Nat)) : Int), u64A F], [I (↑((2 : Nat) ^ m - (1 : Nat)) : Int), u64A G], [I (↑(rJ n m) : Int), AV.int IntKind.u64 (↑(BitVec.toNat (fm (jJ n (elts F) (elts G) i j))) : Int)]] [] []) ∧ aBin Tryd.prog BinOp.or (74 : Nat) (AV.int IntKind.u64 (↑(BitVec.toNat (fm (jJ n (elts F) (elts G) i j))) : Int)) (AV.int IntKind.u64 (↑(BitVec.ofNat (64 : Nat) (1 : Nat) <<< w).toNat : Int)) = some (AV.int IntKind.u64 (↑(BitVec.toNat (fm (jJ n (elts F) (elts G) i j) ||| BitVec.ofNat (64 : Nat) (1 : Nat) <<< w)) : Int)) ∧ aBin Tryd.prog BinOp.add (3 : Nat) (I (↑j : Int)) (I 1) = some (I (↑(j + (1 : Nat)) : Int)) ∧ (79 : Nat) = (79 : Nat) ∧ j < (elts G).length ∧ Keep (H.mk [[I (↑((2 : Nat) ^ n - (1 : Nat)) : Int), u64A F], [I (↑((2 : Nat) ^ m - (1 : Nat)) : Int), u64A G], [I (↑(rJ n m) : Int), AV.int IntKind.u64 (↑(BitVec.toNat (fm (jJ n (elts F) (elts G) i j) ||| BitVec.ofNat (64 : Nat) (1 : Nat) <<< w)) : Int)]] [] [] = H.mk [[I (↑((2 : Nat) ^ n - (1 : Nat)) : Int), u64A F], [I (↑((2 : Nat) ^ m - (1 : Nat)) : Int), u64A G], [I (↑(rJ n m) : Int), AV.int IntKind.u64 (↑(BitVec.toNat (fm (jJ n (elts F) (elts G) i (j + (1 : Nat))))) : Int)]] [] [] ∧ [I (↑n : Int), AV.ptr 1 0, AV.ptr 2 0, I s, AV.sl (ints (lst F)) (lst F).length (rn (lst F)), I (↑(lst F).length : Int), I (↑i : Int), AV.sl (ints (lst G)) (lst G).length (rn (lst G)), I (↑(lst G).length : Int), I (↑(j + (1 : Nat)) : Int)] = [I (↑n : Int), AV.ptr 1 0, AV.ptr 2 0, I s, AV.sl (ints (lst F)) (lst F).length (rn (lst F)), I (↑(lst F).length : Int), I (↑i : Int), AV.sl (ints (lst G)) (lst G).length (rn (lst G)), I (↑(lst G).length : Int), I (↑(j + (1 : Nat)) : Int)])) (by kernel_rfl) ?_⟩
    refine ⟨by first | with_reducible assumption | omega | assumption, ?_⟩
    refine ⟨ix_ints (by kernel_rfl) (by omega) hr, ?_⟩
    refine ⟨by first | exact ld_ints (by kernel_rfl) (by kernel_rfl) (by omega) | exact ldm_ints (by kernel_rfl) (by kernel_rfl) (by first | omega | (simp; omega)), ?_⟩
    refine ⟨by first | exact told_shl (by first | exact Int.natCast_nonneg _ | omega) (by with_reducible assumption) | exact told_shl (by omega) rfl, ?_⟩
    refine ⟨told_or (by with_reducible assumption), ?_⟩
    refine ⟨acall_hit (c := c86.to) w _ rfl hp64, ?_⟩
    refine ⟨told_or (by with_reducible assumption), ?_⟩
    refine ⟨told_add (by with_reducible assumption), ?_⟩
    refine ⟨by first | with_reducible assumption | omega | assumption, ?_⟩
    refine ⟨by first | with_reducible assumption | omega | assumption, ?_⟩
    exact ⟨by rw [hs2], rfl⟩
  · have hz : ((lst G).length : Int) ≤ j := by omega
    have hj' : j = (elts G).length := by omega
    subst hj'
    have hnx := jJ_next n (elts F) (elts G) hi
    refine ⟨[Ans.o (Orc.b false)], fun u => of_eq ((↑(lst G).length : Int) ≤ (↑(elts G).length : Int) ∧ (79 : Nat) = (79 : Nat) ∧ hits [Out.mk Unit (AX.exit (2 : Nat)) [(0 : Nat), (12 : Nat), (14 : Nat), (52 : Nat), (53 : Nat), (54 : Nat)] (fun x => True) (fun x => v53 n F i) (fun x => h53 n m F G (i + (1 : Nat)) (0 : Nat)) fun x => []] (AX.exit (2 : Nat)) [I (↑n : Int), u (1 : Nat), u (2 : Nat), u (3 : Nat), u (4 : Nat), u (5 : Nat), u (6 : Nat), u (7 : Nat), u (8 : Nat), u (9 : Nat), u (10 : Nat), u (11 : Nat), AV.ptr 1 0, u (13 : Nat), AV.ptr 2 0, u (15 : Nat), I s, u (17 : Nat), u (18 : Nat), u (19 : Nat), u (20 : Nat), u (21 : Nat), u (22 : Nat), u (23 : Nat), u (24 : Nat), u (25 : Nat), u (26 : Nat), u (27 : Nat), u (28 : Nat), u (29 : Nat), u (30 : Nat), u (31 : Nat), u (32 : Nat), u (33 : Nat), u (34 : Nat), u (35 : Nat), u (36 : Nat), u (37 : Nat), u (38 : Nat), u (39 : Nat), u (40 : Nat), u (41 : Nat), u (42 : Nat), u (43 : Nat), u (44 : Nat), u (45 : Nat), u (46 : Nat), u (47 : Nat), u (48 : Nat), u (49 : Nat), u (50 : Nat), u (51 : Nat), AV.sl (ints (lst F)) (lst F).length (rn (lst F)), I (↑(lst F).length : Int), I (↑i : Int), u (55 : Nat), u (56 : Nat), u (57 : Nat), u (58 : Nat), AV.sl (ints (lst G)) (lst G).length (rn (lst G)), I (↑(lst G).length : Int), I (↑(elts G).length : Int), AV.bool false, u (63 : Nat), u (64 : Nat), u (65 : Nat), u (66 : Nat), u (67 : Nat), u (68 : Nat), u (69 : Nat), u (70 : Nat), u (71 : Nat), u (72 : Nat), u (73 : Nat), u (74 : Nat), u (75 : Nat), u (76 : Nat), u (77 : Nat), u (78 : Nat)] (H.mk [[I (↑((2 : Nat) ^ n - (1 : Nat)) : Int), u64A F], [I (↑((2 : Nat) ^ m - (1 : Nat)) : Int), u64A G], [I (↑(rJ n m) : Int), AV.int IntKind.u64 (↑(BitVec.toNat (fm (jJ n (elts F) (elts G) i (elts G).length))) : Int)]] [] [])) (by kernel_rfl) ?_⟩
    refine ⟨by first | with_reducible assumption | omega | assumption, ?_⟩
    refine ⟨by first | with_reducible assumption | omega | assumption, ?_⟩
    exact .inl ⟨(), trivial, rfl, rfl, by rw [hnx]⟩
abbrev o53 (n m : Nat) (F G : W) : List Out := [.mk Unit (.exit 0) [14] (fun _ => True) (fun _ => [.ptr 2 0]) (fun _ => h53 n m F G (elts F).length 0) (fun _ => [])]
theorem lp53 (n m : Nat) (F G : W) (hn : n + m ≤ 6) (hF : Rg n F) (hG : Rg m G) :
    LoopS (En6 [c74o.to, c67.to, c86.to]) (loopAt Tryd.f53 0) 79 [0, 12, 14, 52, 53, 54] [I n, .ptr 1 0, .ptr 2 0, ls (lst F) (rn (lst F)), I (lst F).length, I 0] (h53 n m F G 0 0) (o53 n m F G) := by
  have hle : (lst F).length = (elts F).length := ic_len _
  have h64 := lst_len F
  refine loop_s rest53 simp53 none (by intro _ h; cases h) (fun i vs h => h = h53 n m F G i 0 ∧ vs = v53 n F i) (elts F).length ⟨rfl, rfl⟩ (by intro _ h; cases h) ?_
  rintro i vs h hj ⟨rfl, rfl⟩
  by_cases hz : (i : Int) < (lst F).length
  · have hz' : i < (elts F).length := by omega
    have hzl : i < (lst F).length := by omega
    have hr := rok_idx (rn_rok (lst F)) hzl
    obtain ⟨f1, f2, f3⟩ := ia_elts hz'
    have hin := lp53b n m F G i (ia (lst F) i) hn hF hG hz' f1
    have ev3 : IntKind.i64.wrap ((i : Int) + 1) = ((i + 1 : Nat) : Int) := by rw [wr _ (by omega) (by omega)]; omega
    refine ⟨[Ans.o (Orc.b true), Ans.o (Orc.val 56 (AV.cptr (ints (List.drop i (lst F)))) H.nil), Ans.o (Orc.val 57 (I ((lst F).getD i i0)) H.nil), Ans.o (Orc.val 59 (AV.sl (ints (lst G)) (lst G).length (rn (lst G))) (H.mk [[I (↑((2 : Nat) ^ n - (1 : Nat)) : Int), u64A F], [I (↑((2 : Nat) ^ m - (1 : Nat)) : Int), u64A G], [I (↑(rJ n m) : Int), AV.int IntKind.u64 (↑(BitVec.toNat (fm (jJ n (elts F) (elts G) i (0 : Nat)))) : Int)]] [] [])), Ans.loop [(0 : Nat), (12 : Nat), (14 : Nat), (16 : Nat), (52 : Nat), (53 : Nat), (54 : Nat), (59 : Nat), (60 : Nat), (61 : Nat)] [Out.mk Unit (AX.exit (2 : Nat)) [(0 : Nat), (12 : Nat), (14 : Nat), (52 : Nat), (53 : Nat), (54 : Nat)] (fun x => True) (fun x => v53 n F i) (fun x => h53 n m F G (i + (1 : Nat)) (0 : Nat)) fun y => [Ans.o (Orc.val 76 (I (↑(i + (1 : Nat)) : Int)) H.nil)]]], fun u => of_eq ((↑i : Int) < (↑(lst F).length : Int) ∧ aIndexAddr Tryd.prog (22 : Nat) (AV.sl (ints (lst F)) (lst F).length (rn (lst F))) (I (↑i : Int)) = some (AV.cptr (ints (List.drop i (lst F)))) ∧ aLoad Tryd.prog (3 : Nat) (ints (List.drop i (lst F))) = some (I ((lst F).getD i i0)) ∧ aCall (Sof [c74o.to, c67.to, c86.to]) (AV.fn (Fn.func (67 : Nat)) [] []) [AV.agg [I (↑((2 : Nat) ^ m - (1 : Nat)) : Int), u64A G]] (H.mk [[I (↑((2 : Nat) ^ n - (1 : Nat)) : Int), u64A F], [I (↑((2 : Nat) ^ m - (1 : Nat)) : Int), u64A G], [I (↑(rJ n m) : Int), AV.int IntKind.u64 (↑(BitVec.toNat (fm (jJ n (elts F) (elts G) i (0 : Nat)))) : Int)]] [] []) = some (AV.sl (ints (lst G)) (lst G).length (rn (lst G)), H.mk [[I (↑((2 : Nat) ^ n - (1 : Nat)) : Int), u64A F], [I (↑((2 : Nat) ^ m - (1 : Nat)) : Int), u64A G], [I (↑(rJ n m) : Int), AV.int IntKind.u64 (↑(BitVec.toNat (fm (jJ n (elts F) (elts G) i (0 : Nat)))) : Int)]] [] []) ∧ LoopS (Env.mk Tryd.prog (Sof [c74o.to, c67.to, c86.to]) (Pof (P := Tryd.prog) []) H.nil.base (300 : Nat)) (loopAt Tryd.f53 (1 : Nat)) (79 : Nat) [(0 : Nat), (12 : Nat), (14 : Nat), (16 : Nat), (52 : Nat), (53 : Nat), (54 : Nat), (59 : Nat), (60 : Nat), (61 : Nat)] [I (↑n : Int), AV.ptr 1 0, AV.ptr 2 0, I ((lst F).getD i i0), AV.sl (ints (lst F)) (lst F).length (rn (lst F)), I (↑(lst F).length : Int), I (↑i : Int), AV.sl (ints (lst G)) (lst G).length (rn (lst G)), I (↑(lst G).length : Int), I 0] (H.mk [[I (↑((2 : Nat) ^ n - (1 : Nat)) : Int), u64A F], [I (↑((2 : Nat) ^ m - (1 : Nat)) : Int), u64A G], [I (↑(rJ n m) : Int), AV.int IntKind.u64 (↑(BitVec.toNat (fm (jJ n (elts F) (elts G) i (0 : Nat)))) : Int)]] [] []) [Out.mk Unit (AX.exit (2 : Nat)) [(0 : Nat), (12 : Nat), (14 : Nat), (52 : Nat), (53 : Nat), (54 : Nat)] (fun x => True) (fun x => v53 n F i) (fun x => h53 n m F G (i + (1 : Nat)) (0 : Nat)) fun y => [Ans.o (Orc.val 76 (I (↑(i + (1 : Nat)) : Int)) H.nil)]] ∧ (∀ (y : Unit), True → ∀ (u : Nat → AV), aBin Tryd.prog BinOp.add (3 : Nat) (I (↑i : Int)) (I 1) = some (I (↑(i + (1 : Nat)) : Int)) ∧ (79 : Nat) = (79 : Nat) ∧ i < (elts F).length ∧ Keep (H.mk [[I (↑((2 : Nat) ^ n - (1 : Nat)) : Int), u64A F], [I (↑((2 : Nat) ^ m - (1 : Nat)) : Int), u64A G], [I (↑(rJ n m) : Int), AV.int IntKind.u64 (↑(BitVec.toNat (fm (jJ n (elts F) (elts G) (i + (1 : Nat)) (0 : Nat)))) : Int)]] [] [] = H.mk [[I (↑((2 : Nat) ^ n - (1 : Nat)) : Int), u64A F], [I (↑((2 : Nat) ^ m - (1 : Nat)) : Int), u64A G], [I (↑(rJ n m) : Int), AV.int IntKind.u64 (↑(BitVec.toNat (fm (jJ n (elts F) (elts G) (i + (1 : Nat)) (0 : Nat)))) : Int)]] [] [] ∧ [I (↑n : Int), AV.ptr 1 0, AV.ptr 2 0, AV.sl (ints (lst F)) (lst F).length (rn (lst F)), I (↑(lst F).length : Int), I (↑(i + (1 : Nat)) : Int)] = [I (↑n : Int), AV.ptr 1 0, AV.ptr 2 0, AV.sl (ints (lst F)) (lst F).length (rn (lst F)), I (↑(lst F).length : Int), I (↑(i + (1 : Nat)) : Int)])) ∧ True) (by kernel_rfl) ?_⟩
    refine ⟨by first | with_reducible assumption | omega | assumption, ?_⟩
    refine ⟨ix_ints (by kernel_rfl) (by omega) hr, ?_⟩
    refine ⟨by first | exact ld_ints (by kernel_rfl) (by kernel_rfl) (by omega) | exact ldm_ints (by kernel_rfl) (by kernel_rfl) (by first | omega | (simp; omega)), ?_⟩
    refine ⟨acall_hit (c := c67.to) (2 ^ m - 1, G) _ rfl trivial, ?_⟩
    refine ⟨hin, ?_⟩
    refine And.intro ?_ ?_
    · skip
      intro y
      intro w1
      intro u
      refine ⟨told_add (by with_reducible assumption), ?_⟩
      refine ⟨by first | with_reducible assumption | omega | assumption, ?_⟩
      refine ⟨by first | with_reducible assumption | omega | assumption, ?_⟩
      exact ⟨rfl, rfl⟩
    · skip
      trivial
  · have hz : ((lst F).length : Int) ≤ i := by omega
    have hj' : i = (elts F).length := by omega
    subst hj'
    refine ⟨[Ans.o (Orc.b false)], fun u => of_eq ((↑(lst F).length : Int) ≤ (↑(elts F).length : Int) ∧ (79 : Nat) = (79 : Nat) ∧ hits [Out.mk Unit (AX.exit (0 : Nat)) [(14 : Nat)] (fun x => True) (fun x => [AV.ptr 2 0]) (fun x => h53 n m F G (elts F).length (0 : Nat)) fun x => []] (AX.exit (0 : Nat)) [I (↑n : Int), u (1 : Nat), u (2 : Nat), u (3 : Nat), u (4 : Nat), u (5 : Nat), u (6 : Nat), u (7 : Nat), u (8 : Nat), u (9 : Nat), u (10 : Nat), u (11 : Nat), AV.ptr 1 0, u (13 : Nat), AV.ptr 2 0, u (15 : Nat), u (16 : Nat), u (17 : Nat), u (18 : Nat), u (19 : Nat), u (20 : Nat), u (21 : Nat), u (22 : Nat), u (23 : Nat), u (24 : Nat), u (25 : Nat), u (26 : Nat), u (27 : Nat), u (28 : Nat), u (29 : Nat), u (30 : Nat), u (31 : Nat), u (32 : Nat), u (33 : Nat), u (34 : Nat), u (35 : Nat), u (36 : Nat), u (37 : Nat), u (38 : Nat), u (39 : Nat), u (40 : Nat), u (41 : Nat), u (42 : Nat), u (43 : Nat), u (44 : Nat), u (45 : Nat), u (46 : Nat), u (47 : Nat), u (48 : Nat), u (49 : Nat), u (50 : Nat), u (51 : Nat), AV.sl (ints (lst F)) (lst F).length (rn (lst F)), I (↑(lst F).length : Int), I (↑(elts F).length : Int), AV.bool false, u (56 : Nat), u (57 : Nat), u (58 : Nat), u (59 : Nat), u (60 : Nat), u (61 : Nat), u (62 : Nat), u (63 : Nat), u (64 : Nat), u (65 : Nat), u (66 : Nat), u (67 : Nat), u (68 : Nat), u (69 : Nat), u (70 : Nat), u (71 : Nat), u (72 : Nat), u (73 : Nat), u (74 : Nat), u (75 : Nat), u (76 : Nat), u (77 : Nat), u (78 : Nat)] (H.mk [[I (↑((2 : Nat) ^ n - (1 : Nat)) : Int), u64A F], [I (↑((2 : Nat) ^ m - (1 : Nat)) : Int), u64A G], [I (↑(rJ n m) : Int), AV.int IntKind.u64 (↑(BitVec.toNat (fm (jJ n (elts F) (elts G) (elts F).length (0 : Nat)))) : Int)]] [] [])) (by kernel_rfl) ?_⟩
    refine ⟨by first | with_reducible assumption | omega | assumption, ?_⟩
    refine ⟨by first | with_reducible assumption | omega | assumption, ?_⟩
    exact .inl ⟨(), trivial, rfl, rfl, rfl⟩
theorem ok53 : FokM Tryd.prog none1 53 Tryd.f53 := ⟨mixed, by kernel_rfl, by kernel_rfl, by kernel_rfl, by kernel_rfl⟩
theorem r53g (n m : Nat) (F G : W) (r q : Room) (hf : Fm n (lst F) F) (hg : Fm m (lst G) G) (hr : rok (lst F) r) (hq : rok (lst G) q) (hn : n + m ≤ 6) : Body (En6 [c74o.to, c67.to, c86.to]) none1 Tryd.f53 [I n, I m, ls (lst F) r, ls (lst G) q] .nil (.tup [ls (lst (jn n F G)) (rn (lst (jn n F G))), I 0], .nil) := by
  have hF : Rg n F := by have := hf.rg; simpa using this
  have hG : Rg m G := by have := hg.rg; simpa using this
  have hl := lp53 n m F G hn hF hG
  have h00 : jJ n (elts F) (elts G) 0 0 = [] := by rw [jJ_0]; rfl
  have e00 : h53 n m F G 0 0 = ⟨[[I (2 ^ n - 1 : Nat), u64A F], [I (2 ^ m - 1 : Nat), u64A G], [I (rJ n m : Nat), u64A (fm [])]], [], []⟩ := by rw [h53, h00]
  rw [e00] at hl
  have hj := jJ_all hn hF hG
  have p1 : Fm n (lst F) F ∧ rok (lst F) r := ⟨hf, hr⟩
  have p2 : Fm m (lst G) G ∧ rok (lst G) q := ⟨hg, hq⟩
  have hm6 : 2 ^ m - 1 < 64 := by have := p64 (n := m) (by omega); have := Nat.two_pow_pos m; omega
  have hn6 : 2 ^ n - 1 < 64 := by have := p64 (n := n) (by omega); have := Nat.two_pow_pos n; omega
  have ev0 : IntKind.i64.wrap (((2 ^ ((m : Nat) : Int).toNat - 1 : Nat) : Int) * 2 ^ min ((n : Int)).toNat IntKind.i64.bits) = (((2 ^ m - 1) * 2 ^ n : Nat) : Int) := shl_n hm6 (by omega)
  have hmul : (2 ^ m - 1) * 2 ^ n < 9223372036854775808 := by
    have := Nat.mul_le_mul (Nat.le_of_lt hm6) (p64 (n := n) (by omega))
    omega
  have ev1 : IntKind.i64.wrap ((BitVec.ofInt IntKind.i64.bits ((2 ^ ((n : Nat) : Int).toNat - 1 : Nat) : Int) ||| BitVec.ofInt IntKind.i64.bits (((2 ^ m - 1) * 2 ^ n : Nat) : Int)).toNat : Int) = ((rJ n m : Nat) : Int) := i_or (a := 2 ^ n - 1) (by omega) hmul
  have ev2 : IntKind.i64.wrap ((n : Int) + (m : Int)) = ((n + m : Nat) : Int) := by rw [wr _ (by omega) (by omega)]; omega
  rw [← hj]
  refine body_s ([Ans.o (Orc.val 22 (AV.tup [AV.agg [I (↑((2 : Nat) ^ (↑n : Int).toNat - (1 : Nat)) : Int), u64A F], AV.bool true]) (H.mk [] [] [])), Ans.o (Orc.val 28 (AV.tup [AV.agg [I (↑((2 : Nat) ^ (↑m : Int).toNat - (1 : Nat)) : Int), u64A G], AV.bool true]) (H.mk [[I (↑((2 : Nat) ^ (↑n : Int).toNat - (1 : Nat)) : Int), u64A F]] [] [])), Ans.o (Orc.val 40 (I (↑(n + m) : Int)) H.nil), Ans.fork [] [Ans.o (Orc.val 48 (I (↑(((2 : Nat) ^ m - (1 : Nat)) * (2 : Nat) ^ n) : Int)) H.nil), Ans.o (Orc.val 49 (I (↑(rJ n m) : Int)) H.nil), Ans.o (Orc.val 52 (AV.sl (ints (lst F)) (lst F).length (rn (lst F))) (H.mk [[I (↑((2 : Nat) ^ (↑n : Int).toNat - (1 : Nat)) : Int), u64A F], [I (↑((2 : Nat) ^ (↑m : Int).toNat - (1 : Nat)) : Int), u64A G], [I (↑(rJ n m) : Int), AV.int IntKind.u64 (0 : Int)]] [] [])), Ans.loop [(0 : Nat), (12 : Nat), (14 : Nat), (52 : Nat), (53 : Nat), (54 : Nat)] [Out.mk Unit (AX.exit (0 : Nat)) [(14 : Nat)] (fun x => True) (fun x => [AV.ptr 2 0]) (fun x => h53 n m F G (elts F).length (0 : Nat)) fun y => [Ans.o (Orc.val 78 (AV.sl (ints (lst (fm (jJ n (elts F) (elts G) (elts F).length (0 : Nat))))) (lst (fm (jJ n (elts F) (elts G) (elts F).length (0 : Nat)))).length (rn (lst (fm (jJ n (elts F) (elts G) (elts F).length (0 : Nat)))))) (H.mk [[I (↑((2 : Nat) ^ n - (1 : Nat)) : Int), u64A F], [I (↑((2 : Nat) ^ m - (1 : Nat)) : Int), u64A G], [I (↑(rJ n m) : Int), AV.int IntKind.u64 (↑(BitVec.toNat (fm (jJ n (elts F) (elts G) (elts F).length (0 : Nat)))) : Int)]] [] []))]]]]) (aCall (Sof [c74o.to, c67.to, c86.to]) (AV.fn (Fn.func (74 : Nat)) [] []) [I (↑n : Int), AV.sl (ints (lst F)) (lst F).length r] (H.mk [] [] []) = some (AV.tup [AV.agg [I (↑((2 : Nat) ^ (↑n : Int).toNat - (1 : Nat)) : Int), u64A F], AV.bool true], H.mk [] [] []) ∧ aCall (Sof [c74o.to, c67.to, c86.to]) (AV.fn (Fn.func (74 : Nat)) [] []) [I (↑m : Int), AV.sl (ints (lst G)) (lst G).length q] (H.mk [[I (↑((2 : Nat) ^ (↑n : Int).toNat - (1 : Nat)) : Int), u64A F]] [] []) = some (AV.tup [AV.agg [I (↑((2 : Nat) ^ (↑m : Int).toNat - (1 : Nat)) : Int), u64A G], AV.bool true], H.mk [[I (↑((2 : Nat) ^ (↑n : Int).toNat - (1 : Nat)) : Int), u64A F]] [] []) ∧ aBin Tryd.prog BinOp.add (3 : Nat) (I (↑n : Int)) (I (↑m : Int)) = some (I (↑(n + m) : Int)) ∧ ((6 : Int) < (↑(n + m) : Int) → (AV.tup [AV.sl [] (0 : Nat) Room.nil, I 2], H.mk [] [] []) = (AV.tup [AV.sl (ints (lst (fm (jJ n (elts F) (elts G) (elts F).length (0 : Nat))))) (lst (fm (jJ n (elts F) (elts G) (elts F).length (0 : Nat)))).length (rn (lst (fm (jJ n (elts F) (elts G) (elts F).length (0 : Nat))))), I 0], H.mk [] [] [])) ∧ ((↑(n + m) : Int) ≤ (6 : Int) → aBin Tryd.prog BinOp.shl (3 : Nat) (I (↑((2 : Nat) ^ (↑m : Int).toNat - (1 : Nat)) : Int)) (I (↑n : Int)) = some (I (↑(((2 : Nat) ^ m - (1 : Nat)) * (2 : Nat) ^ n) : Int)) ∧ aBin Tryd.prog BinOp.or (3 : Nat) (I (↑((2 : Nat) ^ (↑n : Int).toNat - (1 : Nat)) : Int)) (I (↑(((2 : Nat) ^ m - (1 : Nat)) * (2 : Nat) ^ n) : Int)) = some (I (↑(rJ n m) : Int)) ∧ aCall (Sof [c74o.to, c67.to, c86.to]) (AV.fn (Fn.func (67 : Nat)) [] []) [AV.agg [I (↑((2 : Nat) ^ (↑n : Int).toNat - (1 : Nat)) : Int), u64A F]] (H.mk [[I (↑((2 : Nat) ^ (↑n : Int).toNat - (1 : Nat)) : Int), u64A F], [I (↑((2 : Nat) ^ (↑m : Int).toNat - (1 : Nat)) : Int), u64A G], [I (↑(rJ n m) : Int), AV.int IntKind.u64 (0 : Int)]] [] []) = some (AV.sl (ints (lst F)) (lst F).length (rn (lst F)), H.mk [[I (↑((2 : Nat) ^ (↑n : Int).toNat - (1 : Nat)) : Int), u64A F], [I (↑((2 : Nat) ^ (↑m : Int).toNat - (1 : Nat)) : Int), u64A G], [I (↑(rJ n m) : Int), AV.int IntKind.u64 (0 : Int)]] [] []) ∧ LoopS (Env.mk Tryd.prog (Sof [c74o.to, c67.to, c86.to]) (Pof (P := Tryd.prog) []) H.nil.base (300 : Nat)) (loopAt Tryd.f53 (0 : Nat)) (79 : Nat) [(0 : Nat), (12 : Nat), (14 : Nat), (52 : Nat), (53 : Nat), (54 : Nat)] [I (↑n : Int), AV.ptr 1 0, AV.ptr 2 0, AV.sl (ints (lst F)) (lst F).length (rn (lst F)), I (↑(lst F).length : Int), I 0] (H.mk [[I (↑((2 : Nat) ^ (↑n : Int).toNat - (1 : Nat)) : Int), u64A F], [I (↑((2 : Nat) ^ (↑m : Int).toNat - (1 : Nat)) : Int), u64A G], [I (↑(rJ n m) : Int), AV.int IntKind.u64 (0 : Int)]] [] []) [Out.mk Unit (AX.exit (0 : Nat)) [(14 : Nat)] (fun x => True) (fun x => [AV.ptr 2 0]) (fun x => h53 n m F G (elts F).length (0 : Nat)) fun y => [Ans.o (Orc.val 78 (AV.sl (ints (lst (fm (jJ n (elts F) (elts G) (elts F).length (0 : Nat))))) (lst (fm (jJ n (elts F) (elts G) (elts F).length (0 : Nat)))).length (rn (lst (fm (jJ n (elts F) (elts G) (elts F).length (0 : Nat)))))) (H.mk [[I (↑((2 : Nat) ^ n - (1 : Nat)) : Int), u64A F], [I (↑((2 : Nat) ^ m - (1 : Nat)) : Int), u64A G], [I (↑(rJ n m) : Int), AV.int IntKind.u64 (↑(BitVec.toNat (fm (jJ n (elts F) (elts G) (elts F).length (0 : Nat)))) : Int)]] [] []))]] ∧ (∀ (y : Unit), True → ∀ (u : Nat → AV), aCall (Sof [c74o.to, c67.to, c86.to]) (AV.fn (Fn.func (67 : Nat)) [] []) [AV.agg [I (↑(rJ n m) : Int), AV.int IntKind.u64 (↑(BitVec.toNat (fm (jJ n (elts F) (elts G) (elts F).length (0 : Nat)))) : Int)]] (H.mk [[I (↑((2 : Nat) ^ n - (1 : Nat)) : Int), u64A F], [I (↑((2 : Nat) ^ m - (1 : Nat)) : Int), u64A G], [I (↑(rJ n m) : Int), AV.int IntKind.u64 (↑(BitVec.toNat (fm (jJ n (elts F) (elts G) (elts F).length (0 : Nat)))) : Int)]] [] []) = some (AV.sl (ints (lst (fm (jJ n (elts F) (elts G) (elts F).length (0 : Nat))))) (lst (fm (jJ n (elts F) (elts G) (elts F).length (0 : Nat)))).length (rn (lst (fm (jJ n (elts F) (elts G) (elts F).length (0 : Nat))))), H.mk [[I (↑((2 : Nat) ^ n - (1 : Nat)) : Int), u64A F], [I (↑((2 : Nat) ^ m - (1 : Nat)) : Int), u64A G], [I (↑(rJ n m) : Int), AV.int IntKind.u64 (↑(BitVec.toNat (fm (jJ n (elts F) (elts G) (elts F).length (0 : Nat)))) : Int)]] [] []) ∧ leave (Base.mk H.nil.blk.length H.nil.toks.length H.nil.maps.length) (AV.tup [AV.sl (ints (lst (fm (jJ n (elts F) (elts G) (elts F).length (0 : Nat))))) (lst (fm (jJ n (elts F) (elts G) (elts F).length (0 : Nat)))).length (rn (lst (fm (jJ n (elts F) (elts G) (elts F).length (0 : Nat))))), I 0]) (H.mk [[I (↑((2 : Nat) ^ n - (1 : Nat)) : Int), u64A F], [I (↑((2 : Nat) ^ m - (1 : Nat)) : Int), u64A G], [I (↑(rJ n m) : Int), AV.int IntKind.u64 (↑(BitVec.toNat (fm (jJ n (elts F) (elts G) (elts F).length (0 : Nat)))) : Int)]] [] []) = (AV.tup [AV.sl (ints (lst (fm (jJ n (elts F) (elts G) (elts F).length (0 : Nat))))) (lst (fm (jJ n (elts F) (elts G) (elts F).length (0 : Nat)))).length (rn (lst (fm (jJ n (elts F) (elts G) (elts F).length (0 : Nat))))), I 0], H.mk [] [] [])) ∧ True)) (by kernel_rfl) ?_
  refine ⟨by first | exact acall_hit (c := c74o.to) (.inl ((n : Int), F, r)) _ rfl p1 | exact acall_hit (c := c74o.to) (.inl ((m : Int), G, q)) _ rfl p2, ?_⟩
  refine ⟨by first | exact acall_hit (c := c74o.to) (.inl ((n : Int), F, r)) _ rfl p1 | exact acall_hit (c := c74o.to) (.inl ((m : Int), G, q)) _ rfl p2, ?_⟩
  refine ⟨told_add (by with_reducible assumption), ?_⟩
  refine And.intro ?_ ?_
  · skip
    intro w0
    first | rfl | (exfalso; omega) | exact leave_bs _ (by simp [AV.bnd, AV.bnds, rm_wk_bnd])
  · skip
    intro w0
    refine ⟨by first | exact told_shl (by first | exact Int.natCast_nonneg _ | omega) (by with_reducible assumption) | exact told_shl (by omega) rfl, ?_⟩
    refine ⟨told_or (by with_reducible assumption), ?_⟩
    refine ⟨by first | exact acall_hit (c := c67.to) (2 ^ n - 1, F) _ rfl trivial | exact acall_hit (c := c67.to) (rJ n m, fm (jJ n (elts F) (elts G) (elts F).length 0)) _ rfl trivial, ?_⟩
    refine ⟨hl, ?_⟩
    refine And.intro ?_ ?_
    · skip
      intro y
      intro w2
      intro u
      refine ⟨by first | exact acall_hit (c := c67.to) (2 ^ n - 1, F) _ rfl trivial | exact acall_hit (c := c67.to) (rJ n m, fm (jJ n (elts F) (elts G) (elts F).length 0)) _ rfl trivial, ?_⟩
      first | rfl | (exfalso; omega) | exact leave_bs _ (by simp [AV.bnd, AV.bnds, rm_wk_bnd])
    · skip
      trivial
noncomputable def c53g : PCtr Tryd.prog := sctr ok53 (X := Nat × Nat × W × W × Room × Room) (fun x => [I x.1, I x.2.1, ls (lst x.2.2.1) x.2.2.2.2.1, ls (lst x.2.2.2.1) x.2.2.2.2.2])
  (fun x => (Fm x.1 (lst x.2.2.1) x.2.2.1 ∧ Fm x.2.1 (lst x.2.2.2.1) x.2.2.2.1) ∧ (rok (lst x.2.2.1) x.2.2.2.2.1 ∧ rok (lst x.2.2.2.1) x.2.2.2.2.2) ∧ x.1 + x.2.1 ≤ 6) (fun x => .tup [ls (lst (jn x.1 x.2.2.1 x.2.2.2.1)) (rn (lst (jn x.1 x.2.2.1 x.2.2.2.1))), I 0])
  (by
    rintro ⟨n, m, F, G, r, q⟩ ⟨n', m', F', G', r', q'⟩ e _ _
    simp at e
    obtain ⟨h1, h2, ⟨h3, _⟩, h4, _⟩ := e
    have h1 : n = n' := by omega
    subst h1; subst h3; subst h4; rfl) (fun x => by simp [AV.bnds, AV.bnd, AV.wk, rm_wk_bnd]) (fun x => by simp [AV.bnd, AV.bnds, rm_wk_bnd])
  (fun x hx => ⟨_, _, _, .pure _ (.pure _ (.pure _ .nil)), r53g x.1 x.2.1 x.2.2.1 x.2.2.2.1 x.2.2.2.2.1.wk x.2.2.2.2.2.wk hx.1.1 hx.1.2 (by simpa using hx.2.1.1) (by simpa using hx.2.1.2) hx.2.2⟩)
/-- what is no family, or too much -/
def nojoin (n m : Int) (l k : List Int) : Prop := (¬ ∃ F, Fm n l F) ∨ (¬ ∃ F, Fm m k F) ∨ 6 < n + m
theorem r53b (n m : Int) (l k : List Int) (r q : Room) (hl : lim l.length ∧ rok l r ∧ rng l) (hk : lim k.length ∧ rok k q ∧ rng k) (h : nojoin n m l k) : Body (En6 [c74o.to]) none1 Tryd.f53 [I n, I m, ls l r, ls k q] .nil (.tup [.sl [] 0 .nil, I 2], .nil) := by
  by_cases h1 : ∃ F, Fm n l F
  · obtain ⟨F, hF⟩ := h1
    have e := hF.eq
    subst e
    have p1 : Fm n (lst F) F ∧ rok (lst F) r := ⟨hF, hl.2.1⟩
    by_cases h2 : ∃ G, Fm m k G
    · obtain ⟨G, hG⟩ := h2
      have e := hG.eq
      subst e
      have p2 : Fm m (lst G) G ∧ rok (lst G) q := ⟨hG, hk.2.1⟩
      have h6 : 6 < n + m := by
        rcases h with h | h | h
        · exact absurd ⟨F, hF⟩ h
        · exact absurd ⟨G, hG⟩ h
        · exact h
      have b1 := hF.n1; have b2 := hF.n6; have b3 := hG.n1; have b4 := hG.n6
      have ev0 : IntKind.i64.wrap (n + m) = n + m := wr _ (by omega) (by omega)
      refine body_s ([Ans.o (Orc.val 22 (AV.tup [AV.agg [I (↑((2 : Nat) ^ n.toNat - (1 : Nat)) : Int), u64A F], AV.bool true]) (H.mk [] [] [])), Ans.o (Orc.val 28 (AV.tup [AV.agg [I (↑((2 : Nat) ^ m.toNat - (1 : Nat)) : Int), u64A G], AV.bool true]) (H.mk [[I (↑((2 : Nat) ^ n.toNat - (1 : Nat)) : Int), u64A F]] [] [])), Ans.o (Orc.val 40 (I (n + m)) H.nil), Ans.o (Orc.b true)]) (aCall (Sof [c74o.to]) (AV.fn (Fn.func (74 : Nat)) [] []) [I n, AV.sl (ints (lst F)) (lst F).length r] (H.mk [] [] []) = some (AV.tup [AV.agg [I (↑((2 : Nat) ^ n.toNat - (1 : Nat)) : Int), u64A F], AV.bool true], H.mk [] [] []) ∧ aCall (Sof [c74o.to]) (AV.fn (Fn.func (74 : Nat)) [] []) [I m, AV.sl (ints (lst G)) (lst G).length q] (H.mk [[I (↑((2 : Nat) ^ n.toNat - (1 : Nat)) : Int), u64A F]] [] []) = some (AV.tup [AV.agg [I (↑((2 : Nat) ^ m.toNat - (1 : Nat)) : Int), u64A G], AV.bool true], H.mk [[I (↑((2 : Nat) ^ n.toNat - (1 : Nat)) : Int), u64A F]] [] []) ∧ aBin Tryd.prog BinOp.add (3 : Nat) (I n) (I m) = some (I (n + m)) ∧ (6 : Int) < n + m ∧ (AV.tup [AV.sl [] (0 : Nat) Room.nil, I 2], H.mk [] [] []) = (AV.tup [AV.sl [] (0 : Nat) Room.nil, I 2], H.mk [] [] [])) (by kernel_rfl) ?_
      refine ⟨by first | exact acall_hit (c := c74o.to) (.inl (n, F, r)) _ rfl p1 | exact acall_hit (c := c74o.to) (.inl (m, G, q)) _ rfl p2, ?_⟩
      refine ⟨by first | exact acall_hit (c := c74o.to) (.inl (n, F, r)) _ rfl p1 | exact acall_hit (c := c74o.to) (.inl (m, G, q)) _ rfl p2, ?_⟩
      refine ⟨told_add (by with_reducible assumption), ?_⟩
      refine ⟨by first | with_reducible assumption | omega | assumption, ?_⟩
      first | rfl | (exfalso; omega)
    · have p2 : (lim k.length ∧ rok k q ∧ rng k) ∧ ¬ ∃ F, Fm m k F := ⟨hk, h2⟩
      refine body_s ([Ans.o (Orc.val 22 (AV.tup [AV.agg [I (↑((2 : Nat) ^ n.toNat - (1 : Nat)) : Int), u64A F], AV.bool true]) (H.mk [] [] [])), Ans.o (Orc.val 28 (AV.tup [AV.agg [I (↑(gR m k) : Int), u64A (gF m k)], AV.bool false]) (H.mk [[I (↑((2 : Nat) ^ n.toNat - (1 : Nat)) : Int), u64A F]] [] []))]) (aCall (Sof [c74o.to]) (AV.fn (Fn.func (74 : Nat)) [] []) [I n, AV.sl (ints (lst F)) (lst F).length r] (H.mk [] [] []) = some (AV.tup [AV.agg [I (↑((2 : Nat) ^ n.toNat - (1 : Nat)) : Int), u64A F], AV.bool true], H.mk [] [] []) ∧ aCall (Sof [c74o.to]) (AV.fn (Fn.func (74 : Nat)) [] []) [I m, AV.sl (ints k) k.length q] (H.mk [[I (↑((2 : Nat) ^ n.toNat - (1 : Nat)) : Int), u64A F]] [] []) = some (AV.tup [AV.agg [I (↑(gR m k) : Int), u64A (gF m k)], AV.bool false], H.mk [[I (↑((2 : Nat) ^ n.toNat - (1 : Nat)) : Int), u64A F]] [] []) ∧ (AV.tup [AV.sl [] (0 : Nat) Room.nil, I 2], H.mk [] [] []) = (AV.tup [AV.sl [] (0 : Nat) Room.nil, I 2], H.mk [] [] [])) (by kernel_rfl) ?_
      refine ⟨by first | exact acall_hit (c := c74o.to) (.inl (n, F, r)) _ rfl p1 | exact acall_hit (c := c74o.to) (.inr (m, k, q)) _ rfl p2, ?_⟩
      refine ⟨by first | exact acall_hit (c := c74o.to) (.inl (n, F, r)) _ rfl p1 | exact acall_hit (c := c74o.to) (.inr (m, k, q)) _ rfl p2, ?_⟩
      first | rfl | (exfalso; omega)
  · have p1 : (lim l.length ∧ rok l r ∧ rng l) ∧ ¬ ∃ F, Fm n l F := ⟨hl, h1⟩
    by_cases h2 : ∃ G, Fm m k G
    · obtain ⟨G, hG⟩ := h2
      have e := hG.eq
      subst e
      have p2 : Fm m (lst G) G ∧ rok (lst G) q := ⟨hG, hk.2.1⟩
      refine body_s ([Ans.o (Orc.val 22 (AV.tup [AV.agg [I (↑(gR n l) : Int), u64A (gF n l)], AV.bool false]) (H.mk [] [] [])), Ans.o (Orc.val 28 (AV.tup [AV.agg [I (↑((2 : Nat) ^ m.toNat - (1 : Nat)) : Int), u64A G], AV.bool true]) (H.mk [[I (↑(gR n l) : Int), u64A (gF n l)]] [] []))]) (aCall (Sof [c74o.to]) (AV.fn (Fn.func (74 : Nat)) [] []) [I n, AV.sl (ints l) l.length r] (H.mk [] [] []) = some (AV.tup [AV.agg [I (↑(gR n l) : Int), u64A (gF n l)], AV.bool false], H.mk [] [] []) ∧ aCall (Sof [c74o.to]) (AV.fn (Fn.func (74 : Nat)) [] []) [I m, AV.sl (ints (lst G)) (lst G).length q] (H.mk [[I (↑(gR n l) : Int), u64A (gF n l)]] [] []) = some (AV.tup [AV.agg [I (↑((2 : Nat) ^ m.toNat - (1 : Nat)) : Int), u64A G], AV.bool true], H.mk [[I (↑(gR n l) : Int), u64A (gF n l)]] [] []) ∧ (AV.tup [AV.sl [] (0 : Nat) Room.nil, I 2], H.mk [] [] []) = (AV.tup [AV.sl [] (0 : Nat) Room.nil, I 2], H.mk [] [] [])) (by kernel_rfl) ?_
      refine ⟨by first | exact acall_hit (c := c74o.to) (.inr (n, l, r)) _ rfl p1 | exact acall_hit (c := c74o.to) (.inl (m, G, q)) _ rfl p2, ?_⟩
      refine ⟨by first | exact acall_hit (c := c74o.to) (.inr (n, l, r)) _ rfl p1 | exact acall_hit (c := c74o.to) (.inl (m, G, q)) _ rfl p2, ?_⟩
      first | rfl | (exfalso; omega)
    · have p2 : (lim k.length ∧ rok k q ∧ rng k) ∧ ¬ ∃ F, Fm m k F := ⟨hk, h2⟩
      refine body_s ([Ans.o (Orc.val 22 (AV.tup [AV.agg [I (↑(gR n l) : Int), u64A (gF n l)], AV.bool false]) (H.mk [] [] [])), Ans.o (Orc.val 28 (AV.tup [AV.agg [I (↑(gR m k) : Int), u64A (gF m k)], AV.bool false]) (H.mk [[I (↑(gR n l) : Int), u64A (gF n l)]] [] []))]) (aCall (Sof [c74o.to]) (AV.fn (Fn.func (74 : Nat)) [] []) [I n, AV.sl (ints l) l.length r] (H.mk [] [] []) = some (AV.tup [AV.agg [I (↑(gR n l) : Int), u64A (gF n l)], AV.bool false], H.mk [] [] []) ∧ aCall (Sof [c74o.to]) (AV.fn (Fn.func (74 : Nat)) [] []) [I m, AV.sl (ints k) k.length q] (H.mk [[I (↑(gR n l) : Int), u64A (gF n l)]] [] []) = some (AV.tup [AV.agg [I (↑(gR m k) : Int), u64A (gF m k)], AV.bool false], H.mk [[I (↑(gR n l) : Int), u64A (gF n l)]] [] []) ∧ (AV.tup [AV.sl [] (0 : Nat) Room.nil, I 2], H.mk [] [] []) = (AV.tup [AV.sl [] (0 : Nat) Room.nil, I 2], H.mk [] [] [])) (by kernel_rfl) ?_
      refine ⟨by first | exact acall_hit (c := c74o.to) (.inr (n, l, r)) _ rfl p1 | exact acall_hit (c := c74o.to) (.inr (m, k, q)) _ rfl p2, ?_⟩
      refine ⟨by first | exact acall_hit (c := c74o.to) (.inr (n, l, r)) _ rfl p1 | exact acall_hit (c := c74o.to) (.inr (m, k, q)) _ rfl p2, ?_⟩
      first | rfl | (exfalso; omega)
noncomputable def c53b : PCtr Tryd.prog := sctr ok53 (X := Int × Int × List Int × List Int × Room × Room) (fun x => [I x.1, I x.2.1, ls x.2.2.1 x.2.2.2.2.1, ls x.2.2.2.1 x.2.2.2.2.2])
  (fun x => ((lim x.2.2.1.length ∧ rok x.2.2.1 x.2.2.2.2.1 ∧ rng x.2.2.1) ∧ (lim x.2.2.2.1.length ∧ rok x.2.2.2.1 x.2.2.2.2.2 ∧ rng x.2.2.2.1)) ∧ nojoin x.1 x.2.1 x.2.2.1 x.2.2.2.1) (fun _ => .tup [.sl [] 0 .nil, I 2])
  (by intro x y e _ _; rfl) (fun x => by simp [AV.bnds, AV.bnd, AV.wk, rm_wk_bnd]) (fun x => rfl)
  (fun x hx => ⟨_, _, _, .pure _ .nil, r53b x.1 x.2.1 x.2.2.1 x.2.2.2.1 x.2.2.2.2.1.wk x.2.2.2.2.2.wk ⟨hx.1.1.1, by simpa using hx.1.1.2.1, hx.1.1.2.2⟩ ⟨hx.1.2.1, by simpa using hx.1.2.2.1, hx.1.2.2.2⟩ hx.2⟩)
end Go.Proofs.Evd

