/- Layer 5: the reference's first code. -/
import Derived.Test.YtlomlnkafakloaaDoorSuS
import Derived.KernelRfl
set_option linter.unusedSimpArgs false
set_option linter.unusedVariables false
set_option linter.unnecessarySimpa false
set_option maxHeartbeats 4000000
set_option maxRecDepth 100000
namespace Go.Proofs.Sur
open Go Go.VM

abbrev M66 : FuncId → Bool := (· == 66)
noncomputable def c66v (w : List W) (n : Nat) (hn : w.length = n) (hg : gsW w) : Ctr Tryd.prog where
  f := 66
  X := W
  args s := [.msl 0 0 n n 1, u64A s]
  pre s h := h.blk[0]? = some (u64s w) ∧ sub s w.length
  res s h := (I (msV w s : Nat), h)
  det := by
    intro x y h e _ _
    simp at e
    rw [e]
  ok s h hp := by
    subst hn
    obtain ⟨hb, hs⟩ := hp
    have hc := (C66_all 65) w .no s ⟨⟨⟨fun _ => no_ne, hg⟩, hs⟩, by have := bits_len s; omega⟩
    have hv : View h (.msl 0 0 w.length w.length 1) (ws w .no) := by
      have := View.msl (h := h) 0 0 w.length w.length 1 (u64s w) hb (by simp)
      have e : ((u64s w).drop 0).take (w.length * 1) = u64s w := by rw [List.drop_zero, Nat.mul_one, List.take_of_length_le (by simp)]
      rw [e] at this
      exact this
    exact ⟨ok66.call, hc.view rfl (.cons hv (.cons (.same _ rfl) .nil))⟩
theorem ct32 (w : List W) (n : Nat) (hn : w.length = n) (hg : gsW w) : Ctrs Tryd.prog M66 [c30.to, c65.to, c66v w n hn hg] := .pure _ (.pure _ (.eff _ rfl .nil))
/-- the sets under way -/
abbrev fw (w : List W) (n i : Nat) : List W := fil (fun i => wt_ w i) w0 n i
abbrev bl (l : List W) : H := ⟨[u64s l], [], []⟩
abbrev o32i (g : List Int) (r : Room) (k : Int) (w : List W) (n i : Nat) : List Out :=
  [.mk Unit (.exit 2) [0, 1, 5, 6, 7, 18, 19] (fun _ => True) (fun _ => [ls g r, I k, I (n : Int), .msl 0 0 n n 1, u64A (ful (i + 1)), I (n : Int), I (i : Int)]) (fun _ => bl (fw w n (i + 1))) (fun _ => [])]
theorem simp32i : allSimpleM M66 (loopAt Tryd.f32 1) = true := by kernel_rfl
theorem getD_set {l : List W} {i : Nat} (h : i < l.length) (x : W) : (l.set i x).getD i w0 = x := by
  simp [List.getD_eq_getElem?_getD, h]
theorem set_0 (w : List W) {n i : Nat} (h : i < n) : (fw w n i).set i (wt_ w i &&& ful 0) = fw w n i := by
  have e : wt_ w i &&& ful 0 = w0 := by
    apply BitVec.eq_of_getLsbD_eq; intro k _
    rw [BitVec.getLsbD_and, ful_bit (by omega)]; simp
  rw [e]
  apply List.ext_getElem
  · simp
  · intro m h1 h2
    simp only [fil, List.getElem_set, List.getElem_map, List.getElem_range]
    by_cases e : i = m
    · subst e; simp
    · rw [if_neg e]
theorem set_n (w : List W) {n i : Nat} (h : i < n) (hw : sub (wt_ w i) n) (h64 : n ≤ 64) : (fw w n i).set i (wt_ w i &&& ful n) = fw w n (i + 1) := by
  have e : wt_ w i &&& ful n = wt_ w i := by
    apply BitVec.eq_of_getLsbD_eq; intro k _
    rw [BitVec.getLsbD_and, ful_bit h64]
    cases hb : (wt_ w i).getLsbD k
    · rfl
    · have := hw k hb; simp [this]
  rw [e]; exact fil_set (fun i => wt_ w i) w0 h
theorem ful_or {x : W} {j : Nat} (h : j < 64) (b : Bool) (hb : x.getLsbD j = b) : x &&& ful (j + 1) = if b then (x &&& ful j) ||| (1#64 <<< j) else x &&& ful j := by
  apply BitVec.eq_of_getLsbD_eq; intro k _
  cases b
  · simp only [Bool.false_eq_true, if_false]
    rw [BitVec.getLsbD_and, BitVec.getLsbD_and, ful_bit (by omega), ful_bit (by omega)]
    by_cases e : k = j
    · subst e; rw [hb]; rfl
    · congr 1; simp only [decide_eq_decide]; omega
  · simp only [if_true]
    rw [BitVec.getLsbD_or, BitVec.getLsbD_and, BitVec.getLsbD_and, ful_bit (by omega), ful_bit (by omega), one_bit h]
    by_cases e : k = j
    · subst e; rw [hb]; simp
    · rw [decide_eq_false e, Bool.or_false]; congr 1; simp only [decide_eq_decide]; omega
theorem lp32i (g : List Int) (r : Room) (k : Int) (w : List W) (n : Nat) (hn : w.length = n) (hg : gsW w) (hgr : Gr g ∧ rok g r) (hk : 0 ≤ k ∧ k ≤ 64) (i : Nat) (hi : i < n) (hK : ∀ a b : Nat, a < n → b < n → nrK g k.toNat a b = (wt_ w a).getLsbD b) :
    LoopS (En6 [c30.to, c65.to, c66v w n hn hg]) (loopAt Tryd.f32 1) 92 [0, 1, 5, 6, 7, 8, 18, 19, 26, 27] [ls g r, I k, I (n : Int), .msl 0 0 n n 1, u64A (ful (i + 1)), I (i : Int), I (n : Int), I (i : Int), I (n : Int), I 0] (bl (fw w n i)) (o32i g r k w n i) := by
  have hR : Rests (En6 [c30.to, c65.to, c66v w n hn hg]) M66 := rests mixed (ct32 w n hn hg)
  have h64 := hg.1.1.2
  rw [← set_0 w hi]
  refine loop_s hR simp32i none (by intro _ h; cases h) (fun j vs h => h = bl ((fw w n i).set i (wt_ w i &&& ful j)) ∧ vs = [ls g r, I k, I (n : Int), .msl 0 0 n n 1, u64A (ful (i + 1)), I (i : Int), I (n : Int), I (i : Int), I (n : Int), I (j : Int)]) n ⟨rfl, rfl⟩ (by intro _ h; cases h) ?_
  rintro j vs h hj ⟨rfl, rfl⟩
  by_cases hz : (j : Int) < n
  · have hz' : j < n := by omega
    have p65 : (Gr g ∧ rok g r) ∧ (0 ≤ k ∧ k ≤ 64) ∧ (0 ≤ (i : Int) ∧ (i : Int) < 1000) ∧ 0 ≤ (j : Int) ∧ (j : Int) < 1000 := ⟨hgr, hk, by omega, by omega⟩
    have hl : i < ((fw w n i).set i (wt_ w i &&& ful j)).length := by simp; exact hi
    cases c : (wt_ w i).getLsbD j
    · have c' : nrK g k.toNat ((i : Int)).toNat ((j : Int)).toNat = false := by rw [Int.toNat_natCast, Int.toNat_natCast, hK i j hi hz']; exact c
      have e := ful_or (show j < 64 by omega) false c
      simp only [Bool.false_eq_true, if_false] at e
      refine ⟨[Ans.o (Orc.b true), Ans.o (Orc.val (34 : Nat) (AV.bool false) (H.mk [u64s ((fw w n i).set i (wt_ w i &&& ful j))] [] []))], fun u => of_eq ((↑j : Int) < (↑n : Int) ∧ aCall (Sof [c30.to, c65.to, c66v w n hn hg]) (AV.fn (Fn.func (65 : Nat)) [] []) [AV.sl (ints g) g.length r, I k, I (↑i : Int), I (↑j : Int)] (H.mk [u64s ((fw w n i).set i (wt_ w i &&& ful j))] [] []) = some (AV.bool false, H.mk [u64s ((fw w n i).set i (wt_ w i &&& ful j))] [] []) ∧ IntKind.i64.wrap ((↑j : Int) + (1 : Int)) = (↑j : Int) + (1 : Int) ∧ (92 : Nat) = (92 : Nat) ∧ j < n ∧ Keep (H.mk [u64s ((fw w n i).set i (wt_ w i &&& ful j))] [] [] = H.mk [u64s ((fw w n i).set i (wt_ w i &&& ful (j + (1 : Nat))))] [] [] ∧ [AV.sl (ints g) g.length r, I k, I (↑n : Int), AV.msl (0 : Nat) (0 : Nat) n n (1 : Nat), AV.int IntKind.u64 (↑(BitVec.toNat (ful (i + (1 : Nat)))) : Int), I (↑i : Int), I (↑n : Int), I (↑i : Int), I (↑n : Int), I ((↑j : Int) + (1 : Int))] = [AV.sl (ints g) g.length r, I k, I (↑n : Int), AV.msl (0 : Nat) (0 : Nat) n n (1 : Nat), AV.int IntKind.u64 (↑(BitVec.toNat (ful (i + (1 : Nat)))) : Int), I (↑i : Int), I (↑n : Int), I (↑i : Int), I (↑n : Int), I (↑(j + (1 : Nat)) : Int)])) (by kernel_rfl) ?_⟩
      refine And.intro (by first | with_reducible assumption | omega | assumption) ?_
      refine And.intro (by exact acall_b (acall_hit (c := c65.to) (g, r, k, (i : Int), (j : Int)) _ rfl p65) c') ?_
      refine And.intro (by exact wr _ (by omega) (by omega)) ?_
      refine And.intro (by first | with_reducible assumption | omega | assumption) ?_
      refine And.intro (by first | with_reducible assumption | omega | assumption) ?_
      exact ⟨by rw [e], rfl⟩
    · have c' : nrK g k.toNat ((i : Int)).toNat ((j : Int)).toNat = true := by rw [Int.toNat_natCast, Int.toNat_natCast, hK i j hi hz']; exact c
      have e := ful_or (show j < 64 by omega) true c
      simp only [if_true] at e
      have eg := getD_set (l := fw w n i) (i := i) (by simp; exact hi) (wt_ w i &&& ful j)
      have ev0 := w_one (n := j) (by omega)
      have ev1 := w_or (((fw w n i).set i (wt_ w i &&& ful j)).getD i w0) (1#64 <<< j)
      refine ⟨[Ans.o (Orc.b true), Ans.o (Orc.val (34 : Nat) (AV.bool true) (H.mk [u64s ((fw w n i).set i (wt_ w i &&& ful j))] [] [])), Ans.o (Orc.val (37 : Nat) (AV.ptr (0 : Nat) i) (H.mk [u64s ((fw w n i).set i (wt_ w i &&& ful j))] [] [])), Ans.o (Orc.val (38 : Nat) (AV.int IntKind.u64 (↑(BitVec.toNat (((fw w n i).set i (wt_ w i &&& ful j)).getD i w0)) : Int)) (H.mk [u64s ((fw w n i).set i (wt_ w i &&& ful j))] [] [])), Ans.o (Orc.val (40 : Nat) (AV.int IntKind.u64 (↑(BitVec.ofNat (64 : Nat) (1 : Nat) <<< j).toNat : Int)) (H.mk [u64s ((fw w n i).set i (wt_ w i &&& ful j))] [] [])), Ans.o (Orc.val (41 : Nat) (AV.int IntKind.u64 (↑(BitVec.toNat (((fw w n i).set i (wt_ w i &&& ful j)).getD i w0 ||| BitVec.ofNat (64 : Nat) (1 : Nat) <<< j)) : Int)) (H.mk [u64s ((fw w n i).set i (wt_ w i &&& ful j))] [] [])), Ans.o (Orc.val (42 : Nat) (AV.ptr (0 : Nat) i) (H.mk [u64s ((fw w n i).set i (wt_ w i &&& ful j))] [] [])), Ans.o (Orc.val (9999 : Nat) (AV.tup []) (H.mk [u64s (((fw w n i).set i (wt_ w i &&& ful j)).set i (((fw w n i).set i (wt_ w i &&& ful j)).getD i w0 ||| BitVec.ofNat (64 : Nat) (1 : Nat) <<< j))] [] []))], fun u => of_eq ((↑j : Int) < (↑n : Int) ∧ aCall (Sof [c30.to, c65.to, c66v w n hn hg]) (AV.fn (Fn.func (65 : Nat)) [] []) [AV.sl (ints g) g.length r, I k, I (↑i : Int), I (↑j : Int)] (H.mk [u64s ((fw w n i).set i (wt_ w i &&& ful j))] [] []) = some (AV.bool true, H.mk [u64s ((fw w n i).set i (wt_ w i &&& ful j))] [] []) ∧ aIndexAddr Tryd.prog (66 : Nat) (AV.msl (0 : Nat) (0 : Nat) n n (1 : Nat)) (I (↑i : Int)) = some (AV.ptr (0 : Nat) i) ∧ aLoad Tryd.prog (71 : Nat) (List.drop i (u64s ((fw w n i).set i (wt_ w i &&& ful j)))) = some (AV.int IntKind.u64 (↑(BitVec.toNat (((fw w n i).set i (wt_ w i &&& ful j)).getD i w0)) : Int)) ∧ aBin Tryd.prog BinOp.shl (71 : Nat) (AV.int IntKind.u64 (1 : Int)) (I (↑j : Int)) = some (AV.int IntKind.u64 (↑(BitVec.ofNat (64 : Nat) (1 : Nat) <<< j).toNat : Int)) ∧ aBin Tryd.prog BinOp.or (71 : Nat) (AV.int IntKind.u64 (↑(BitVec.toNat (((fw w n i).set i (wt_ w i &&& ful j)).getD i w0)) : Int)) (AV.int IntKind.u64 (↑(BitVec.ofNat (64 : Nat) (1 : Nat) <<< j).toNat : Int)) = some (AV.int IntKind.u64 (↑(BitVec.toNat (((fw w n i).set i (wt_ w i &&& ful j)).getD i w0 ||| BitVec.ofNat (64 : Nat) (1 : Nat) <<< j)) : Int)) ∧ aIndexAddr Tryd.prog (66 : Nat) (AV.msl (0 : Nat) (0 : Nat) n n (1 : Nat)) (I (↑i : Int)) = some (AV.ptr (0 : Nat) i) ∧ aStore Tryd.prog H.nil.base (71 : Nat) (AV.ptr (0 : Nat) i) (AV.int IntKind.u64 (↑(BitVec.toNat (((fw w n i).set i (wt_ w i &&& ful j)).getD i w0 ||| BitVec.ofNat (64 : Nat) (1 : Nat) <<< j)) : Int)) (H.mk [u64s ((fw w n i).set i (wt_ w i &&& ful j))] [] []) = some (H.mk [u64s (((fw w n i).set i (wt_ w i &&& ful j)).set i (((fw w n i).set i (wt_ w i &&& ful j)).getD i w0 ||| BitVec.ofNat (64 : Nat) (1 : Nat) <<< j))] [] []) ∧ IntKind.i64.wrap ((↑j : Int) + (1 : Int)) = (↑j : Int) + (1 : Int) ∧ (92 : Nat) = (92 : Nat) ∧ j < n ∧ Keep (H.mk [u64s (((fw w n i).set i (wt_ w i &&& ful j)).set i (((fw w n i).set i (wt_ w i &&& ful j)).getD i w0 ||| BitVec.ofNat (64 : Nat) (1 : Nat) <<< j))] [] [] = H.mk [u64s ((fw w n i).set i (wt_ w i &&& ful (j + (1 : Nat))))] [] [] ∧ [AV.sl (ints g) g.length r, I k, I (↑n : Int), AV.msl (0 : Nat) (0 : Nat) n n (1 : Nat), AV.int IntKind.u64 (↑(BitVec.toNat (ful (i + (1 : Nat)))) : Int), I (↑i : Int), I (↑n : Int), I (↑i : Int), I (↑n : Int), I ((↑j : Int) + (1 : Int))] = [AV.sl (ints g) g.length r, I k, I (↑n : Int), AV.msl (0 : Nat) (0 : Nat) n n (1 : Nat), AV.int IntKind.u64 (↑(BitVec.toNat (ful (i + (1 : Nat)))) : Int), I (↑i : Int), I (↑n : Int), I (↑i : Int), I (↑n : Int), I (↑(j + (1 : Nat)) : Int)])) (by kernel_rfl) ?_⟩
      refine And.intro (by first | with_reducible assumption | omega | assumption) ?_
      refine And.intro (by exact acall_b (acall_hit (c := c65.to) (g, r, k, (i : Int), (j : Int)) _ rfl p65) c') ?_
      refine And.intro (by first | exact ixm0 (by kernel_rfl) (by omega) | exact ixa0 (by kernel_rfl) (by omega)) ?_
      refine And.intro (by exact ldm_u64s (by kernel_rfl) (by kernel_rfl) hl) ?_
      refine And.intro (by first | exact told_shl (by omega) (by with_reducible assumption) | exact told_shl (by omega) rfl) ?_
      refine And.intro (by exact told_or (by with_reducible assumption)) ?_
      refine And.intro (by first | exact ixm0 (by kernel_rfl) (by omega) | exact ixa0 (by kernel_rfl) (by omega)) ?_
      refine And.intro (by exact st_u64s (by kernel_rfl) rfl hl) ?_
      refine And.intro (by exact wr _ (by omega) (by omega)) ?_
      refine And.intro (by first | with_reducible assumption | omega | assumption) ?_
      refine And.intro (by first | with_reducible assumption | omega | assumption) ?_
      exact ⟨by rw [eg, List.set_set, e], rfl⟩
  · have hz : (n : Int) ≤ j := by omega
    have hj' : j = n := by omega
    subst hj'
    have e := set_n w hi (by have := hg.1.2.1 i (by omega); rw [hn] at this; exact this) (by omega)
    rw [e]
    refine ⟨[Ans.o (Orc.b false)], fun u => of_eq ((↑j : Int) ≤ (↑j : Int) ∧ (92 : Nat) = (92 : Nat) ∧ hits [Out.mk Unit (AX.exit (2 : Nat)) [(0 : Nat), (1 : Nat), (5 : Nat), (6 : Nat), (7 : Nat), (18 : Nat), (19 : Nat)] (fun x => True) (fun x => [ls g r, I k, I (↑j : Int), AV.msl (0 : Nat) (0 : Nat) j j (1 : Nat), u64A (ful (i + (1 : Nat))), I (↑j : Int), I (↑i : Int)]) (fun x => bl (fw w j (i + (1 : Nat)))) fun x => []] (AX.exit (2 : Nat)) [AV.sl (ints g) g.length r, I k, u (2 : Nat), u (3 : Nat), u (4 : Nat), I (↑j : Int), AV.msl (0 : Nat) (0 : Nat) j j (1 : Nat), AV.int IntKind.u64 (↑(BitVec.toNat (ful (i + (1 : Nat)))) : Int), I (↑i : Int), u (9 : Nat), u (10 : Nat), u (11 : Nat), u (12 : Nat), u (13 : Nat), u (14 : Nat), u (15 : Nat), u (16 : Nat), u (17 : Nat), I (↑j : Int), I (↑i : Int), u (20 : Nat), u (21 : Nat), u (22 : Nat), u (23 : Nat), u (24 : Nat), u (25 : Nat), I (↑j : Int), I (↑j : Int), AV.bool false, u (29 : Nat), u (30 : Nat), u (31 : Nat), u (32 : Nat), u (33 : Nat), u (34 : Nat), u (35 : Nat), u (36 : Nat), u (37 : Nat), u (38 : Nat), u (39 : Nat), u (40 : Nat), u (41 : Nat), u (42 : Nat), u (43 : Nat), u (44 : Nat), u (45 : Nat), u (46 : Nat), u (47 : Nat), u (48 : Nat), u (49 : Nat), u (50 : Nat), u (51 : Nat), u (52 : Nat), u (53 : Nat), u (54 : Nat), u (55 : Nat), u (56 : Nat), u (57 : Nat), u (58 : Nat), u (59 : Nat), u (60 : Nat), u (61 : Nat), u (62 : Nat), u (63 : Nat), u (64 : Nat), u (65 : Nat), u (66 : Nat), u (67 : Nat), u (68 : Nat), u (69 : Nat), u (70 : Nat), u (71 : Nat), u (72 : Nat), u (73 : Nat), u (74 : Nat), u (75 : Nat), u (76 : Nat), u (77 : Nat), u (78 : Nat), u (79 : Nat), u (80 : Nat), u (81 : Nat), u (82 : Nat), u (83 : Nat), u (84 : Nat), u (85 : Nat), u (86 : Nat), u (87 : Nat), u (88 : Nat), u (89 : Nat), u (90 : Nat), u (91 : Nat)] (H.mk [u64s (fw w j (i + (1 : Nat)))] [] [])) (by kernel_rfl) ?_⟩
    refine And.intro (by first | with_reducible assumption | omega | assumption) ?_
    refine And.intro (by first | with_reducible assumption | omega | assumption) ?_
    exact .inl ⟨(), trivial, rfl, rfl, rfl⟩
abbrev o32a (g : List Int) (r : Room) (k : Int) (w : List W) (n : Nat) : List Out :=
  [.mk Unit (.exit 0) [5, 6, 7] (fun _ => True) (fun _ => [I (n : Int), .msl 0 0 n n 1, u64A (ful n)]) (fun _ => bl w) (fun _ => [])]
theorem simp32a : allSimpleM M66 (loopAt Tryd.f32 0) = true := by kernel_rfl
theorem fw_n (w : List W) : fw w w.length w.length = w := by
  rw [fw, fil_n]
  apply List.ext_getElem
  · simp
  · intro i h1 h2
    simp [wt_, List.getD_eq_getElem?_getD, h2]
theorem ful_suc {i : Nat} (h : i < 64) : ful (i + 1) = ful i ||| (1#64 <<< i) := by
  have := ful_or (x := BitVec.allOnes 64) h true (by rw [BitVec.getLsbD_allOnes]; exact decide_eq_true h)
  simp only [if_true, BitVec.allOnes_and] at this
  exact this
theorem ful_0 : ful 0 = 0#64 := by
  apply BitVec.eq_of_getLsbD_eq; intro k _
  rw [ful_bit (by omega)]; simp
theorem lp32a (g : List Int) (r : Room) (k : Int) (w : List W) (n : Nat) (hn : w.length = n) (hg : gsW w) (hgr : Gr g ∧ rok g r) (hk : 0 ≤ k ∧ k ≤ 64) (hK : ∀ a b : Nat, a < n → b < n → nrK g k.toNat a b = (wt_ w a).getLsbD b) :
    LoopS (En6 [c30.to, c65.to, c66v w n hn hg]) (loopAt Tryd.f32 0) 92 [0, 1, 5, 6, 7, 18, 19] [ls g r, I k, I (n : Int), .msl 0 0 n n 1, u64A 0#64, I (n : Int), I 0] (bl (List.replicate n w0)) (o32a g r k w n) := by
  have hR : Rests (En6 [c30.to, c65.to, c66v w n hn hg]) M66 := rests mixed (ct32 w n hn hg)
  have h64 := hg.1.1.2
  rw [← fil_0 (fun i => wt_ w i), ← ful_0]
  refine loop_s hR simp32a none (by intro _ h; cases h) (fun j vs h => h = bl (fw w n j) ∧ vs = [ls g r, I k, I (n : Int), .msl 0 0 n n 1, u64A (ful j), I (n : Int), I (j : Int)]) n ⟨rfl, rfl⟩ (by intro _ h; cases h) ?_
  rintro j vs h hj ⟨rfl, rfl⟩
  by_cases hz : (j : Int) < n
  · have hz' : j < n := by omega
    have ev0 := w_one (n := j) (by omega)
    have ev1 := w_or (ful j) (1#64 <<< j)
    rw [← ful_suc (by omega)] at ev1
    refine ⟨[Ans.o (Orc.b true), Ans.o (Orc.val (24 : Nat) (AV.int IntKind.u64 (↑(BitVec.ofNat (64 : Nat) (1 : Nat) <<< j).toNat : Int)) (H.mk [u64s (fw w n j)] [] [])), Ans.o (Orc.val (25 : Nat) (AV.int IntKind.u64 (↑(BitVec.toNat (ful (j + (1 : Nat)))) : Int)) (H.mk [u64s (fw w n j)] [] [])), Ans.loop [(0 : Nat), (1 : Nat), (5 : Nat), (6 : Nat), (7 : Nat), (8 : Nat), (18 : Nat), (19 : Nat), (26 : Nat), (27 : Nat)] [Out.mk Unit (AX.exit (2 : Nat)) [(0 : Nat), (1 : Nat), (5 : Nat), (6 : Nat), (7 : Nat), (18 : Nat), (19 : Nat)] (fun x => True) (fun x => [ls g r, I k, I (↑n : Int), AV.msl (0 : Nat) (0 : Nat) n n (1 : Nat), u64A (ful (j + (1 : Nat))), I (↑n : Int), I (↑j : Int)]) (fun x => bl (fw w n (j + (1 : Nat)))) fun y => []]], fun u => of_eq ((↑j : Int) < (↑n : Int) ∧ aBin Tryd.prog BinOp.shl (71 : Nat) (AV.int IntKind.u64 (1 : Int)) (I (↑j : Int)) = some (AV.int IntKind.u64 (↑(BitVec.ofNat (64 : Nat) (1 : Nat) <<< j).toNat : Int)) ∧ aBin Tryd.prog BinOp.or (71 : Nat) (AV.int IntKind.u64 (↑(BitVec.toNat (ful j)) : Int)) (AV.int IntKind.u64 (↑(BitVec.ofNat (64 : Nat) (1 : Nat) <<< j).toNat : Int)) = some (AV.int IntKind.u64 (↑(BitVec.toNat (ful (j + (1 : Nat)))) : Int)) ∧ LoopS (Env.mk Tryd.prog (Sof [c30.to, c65.to, c66v w n hn hg]) (Pof (P := Tryd.prog) []) H.nil.base (300 : Nat)) (loopAt Tryd.f32 (1 : Nat)) (92 : Nat) [(0 : Nat), (1 : Nat), (5 : Nat), (6 : Nat), (7 : Nat), (8 : Nat), (18 : Nat), (19 : Nat), (26 : Nat), (27 : Nat)] [AV.sl (ints g) g.length r, I k, I (↑n : Int), AV.msl (0 : Nat) (0 : Nat) n n (1 : Nat), AV.int IntKind.u64 (↑(BitVec.toNat (ful (j + (1 : Nat)))) : Int), I (↑j : Int), I (↑n : Int), I (↑j : Int), I (↑n : Int), I (0 : Int)] (H.mk [u64s (fw w n j)] [] []) [Out.mk Unit (AX.exit (2 : Nat)) [(0 : Nat), (1 : Nat), (5 : Nat), (6 : Nat), (7 : Nat), (18 : Nat), (19 : Nat)] (fun x => True) (fun x => [ls g r, I k, I (↑n : Int), AV.msl (0 : Nat) (0 : Nat) n n (1 : Nat), u64A (ful (j + (1 : Nat))), I (↑n : Int), I (↑j : Int)]) (fun x => bl (fw w n (j + (1 : Nat)))) fun y => []] ∧ (∀ (y : Unit), True → ∀ (u : Nat → AV), IntKind.i64.wrap ((↑j : Int) + (1 : Int)) = (↑j : Int) + (1 : Int) ∧ (92 : Nat) = (92 : Nat) ∧ j < n ∧ Keep (H.mk [u64s (fw w n (j + (1 : Nat)))] [] [] = H.mk [u64s (fw w n (j + (1 : Nat)))] [] [] ∧ [AV.sl (ints g) g.length r, I k, I (↑n : Int), AV.msl (0 : Nat) (0 : Nat) n n (1 : Nat), AV.int IntKind.u64 (↑(BitVec.toNat (ful (j + (1 : Nat)))) : Int), I (↑n : Int), I ((↑j : Int) + (1 : Int))] = [AV.sl (ints g) g.length r, I k, I (↑n : Int), AV.msl (0 : Nat) (0 : Nat) n n (1 : Nat), AV.int IntKind.u64 (↑(BitVec.toNat (ful (j + (1 : Nat)))) : Int), I (↑n : Int), I (↑(j + (1 : Nat)) : Int)])) ∧ True) (by kernel_rfl) ?_⟩
    refine And.intro (by first | with_reducible assumption | omega | assumption) ?_
    refine And.intro (by first | exact told_shl (by omega) (by with_reducible assumption) | exact told_shl (by omega) rfl) ?_
    refine And.intro (by exact told_or (by with_reducible assumption)) ?_
    refine And.intro (by exact lp32i g r k w n hn hg hgr hk j hz' hK) ?_
    refine And.intro ?_ ?_
    · skip
      intro y
      intro w1
      intro u
      refine And.intro (by exact wr _ (by omega) (by omega)) ?_
      refine And.intro (by first | with_reducible assumption | omega | assumption) ?_
      refine And.intro (by first | with_reducible assumption | omega | assumption) ?_
      exact ⟨rfl, rfl⟩
    · skip
      trivial
  · have hz : (n : Int) ≤ j := by omega
    have hj' : j = n := by omega
    subst hj'
    have e : fw w j j = w := by subst hn; exact fw_n w
    rw [e]
    refine ⟨[Ans.o (Orc.b false)], fun u => of_eq ((↑j : Int) ≤ (↑j : Int) ∧ (92 : Nat) = (92 : Nat) ∧ hits [Out.mk Unit (AX.exit (0 : Nat)) [(5 : Nat), (6 : Nat), (7 : Nat)] (fun x => True) (fun x => [I (↑j : Int), AV.msl (0 : Nat) (0 : Nat) j j (1 : Nat), u64A (ful j)]) (fun x => bl w) fun x => []] (AX.exit (0 : Nat)) [AV.sl (ints g) g.length r, I k, u (2 : Nat), u (3 : Nat), u (4 : Nat), I (↑j : Int), AV.msl (0 : Nat) (0 : Nat) j j (1 : Nat), AV.int IntKind.u64 (↑(BitVec.toNat (ful j)) : Int), u (8 : Nat), u (9 : Nat), u (10 : Nat), u (11 : Nat), u (12 : Nat), u (13 : Nat), u (14 : Nat), u (15 : Nat), u (16 : Nat), u (17 : Nat), I (↑j : Int), I (↑j : Int), AV.bool false, u (21 : Nat), u (22 : Nat), u (23 : Nat), u (24 : Nat), u (25 : Nat), u (26 : Nat), u (27 : Nat), u (28 : Nat), u (29 : Nat), u (30 : Nat), u (31 : Nat), u (32 : Nat), u (33 : Nat), u (34 : Nat), u (35 : Nat), u (36 : Nat), u (37 : Nat), u (38 : Nat), u (39 : Nat), u (40 : Nat), u (41 : Nat), u (42 : Nat), u (43 : Nat), u (44 : Nat), u (45 : Nat), u (46 : Nat), u (47 : Nat), u (48 : Nat), u (49 : Nat), u (50 : Nat), u (51 : Nat), u (52 : Nat), u (53 : Nat), u (54 : Nat), u (55 : Nat), u (56 : Nat), u (57 : Nat), u (58 : Nat), u (59 : Nat), u (60 : Nat), u (61 : Nat), u (62 : Nat), u (63 : Nat), u (64 : Nat), u (65 : Nat), u (66 : Nat), u (67 : Nat), u (68 : Nat), u (69 : Nat), u (70 : Nat), u (71 : Nat), u (72 : Nat), u (73 : Nat), u (74 : Nat), u (75 : Nat), u (76 : Nat), u (77 : Nat), u (78 : Nat), u (79 : Nat), u (80 : Nat), u (81 : Nat), u (82 : Nat), u (83 : Nat), u (84 : Nat), u (85 : Nat), u (86 : Nat), u (87 : Nat), u (88 : Nat), u (89 : Nat), u (90 : Nat), u (91 : Nat)] (H.mk [u64s w] [] [])) (by kernel_rfl) ?_⟩
    refine And.intro (by first | with_reducible assumption | omega | assumption) ?_
    refine And.intro (by first | with_reducible assumption | omega | assumption) ?_
    exact .inl ⟨(), trivial, rfl, rfl, rfl⟩
theorem app_intsb {P : Program} {t : TypeId} (hT : appT P t = true) {l : List Int} {x : Int} {bs : List (List AV)} (hn : l.length ≤ 1000000000) :
    aAppend P t t (.sl (ints l) l.length (rm 0 l)) (.sl [I x] 1 .full) ⟨bs, tk l, []⟩ = some (.sl (ints (l ++ [x])) (l ++ [x]).length (rm 0 (l ++ [x])), ⟨bs, tk (l ++ [x]), []⟩) := by
  obtain ⟨e, i, z, he, hi, hz, h1, h2, h3⟩ := appT_of hT
  have hb : (l.length + 1) * i.bytes ≤ 2 ^ 47 := Nat.le_trans (Nat.mul_le_mul (Nat.succ_le_succ hn) h2) (by decide)
  have hm : l.length + 1 ≤ maxLen := Nat.le_trans (Nat.succ_le_succ hn) (by decide)
  cases l with
  | nil =>
    have hb' : i.bytes ≤ 2 ^ 47 := Nat.le_trans h2 (by decide)
    simp [aAppend, he, hi, hz, h1, h3, slCells, hb', rm, tk, ints, AV.one]
    decide
  | cons y l =>
    have hb2 : (l.length + 1 + 1) * i.bytes ≤ 2 ^ 47 := hb
    have hm2 : l.length + 1 + 1 ≤ maxLen := hm
    simp [aAppend, he, hi, hz, h1, h3, slCells, hb2, hm2, rm, tk, ints, AV.one]
theorem leave_ib (bs : List (List AV)) (l : List Int) : leave ⟨0, 0, 0⟩ (iacc l) ⟨bs, tk l, []⟩ = (iacc l, ⟨[], tk l, []⟩) := by
  cases l with
  | nil => rfl
  | cons x l =>
    have h : ∀ (m : List Int) (n : Nat), leave ⟨0, 0, 0⟩ (.sl (ints m) n (.tok 0 1)) ⟨bs, [n], []⟩ = (.sl (ints m) n (.tok 0 1), ⟨[], [n], []⟩) := fun m n => by
      simp [leave, AV.bnd, frz, Room.bnd, retok]
    exact h (x :: l) _
abbrev o32c (w : List W) : List Out :=
  [.mk Unit (.exit 4) [10] (fun _ => True) (fun _ => [iacc (frV w)]) (fun _ => ⟨[u64s w], tk (frV w), []⟩) (fun _ => [])]
theorem simp32c : allSimpleM M66 (loopAt Tryd.f32 2) = true := by kernel_rfl
theorem lp32c (w : List W) (n : Nat) (hn : w.length = n) (hg : gsW w) :
    LoopS (En6 [c30.to, c65.to, c66v w n hn hg]) (loopAt Tryd.f32 2) 92 [6, 7, 10, 11, 48, 49] [.msl 0 0 n n 1, u64A (ful n), .sl [] 0 .nil, I (msV w (ful n) : Nat), I (n : Int), I 0] (bl w) (o32c w) := by
  have hR : Rests (En6 [c30.to, c65.to, c66v w n hn hg]) M66 := rests mixed (ct32 w n hn hg)
  have h64 := hg.1.1.2
  have hfr := rfV_eq hg
  rw [hn] at hfr h64
  refine loop_s hR simp32c none (by intro _ h; cases h) (fun j vs h => ∃ (s : W) (m : Nat) (l : List Int), m ≤ 64 ∧ h = ⟨[u64s w], tk l, []⟩ ∧ vs = [.msl 0 0 n n 1, u64A s, iacc l, I (m : Nat), I (n : Int), I (j : Int)] ∧ frV w = l ++ rfF w (n - j) j s m ∧ sub s n ∧ l.length ≤ j) n ⟨_, _, [], msV_le _ _, rfl, rfl, hfr.symm, ful_sub h64, Nat.le_refl 0⟩ (by intro _ h; cases h) ?_
  rintro j vs h hj ⟨s, m, l, hm, rfl, rfl, ha, hs, hl⟩
  by_cases hz : (j : Int) < n
  · have hz' : j < n := by omega
    have e : n - j = (n - (j + 1)) + 1 := by omega
    rw [e] at ha
    simp only [rfF] at ha
    have hlw : j < w.length := by omega
    have ev0 := w_shr s (n := j) (by omega)
    have ev2 := w_one (n := j) (by omega)
    have ev3 := w_andn s (1#64 <<< j)
    have hs3 := sub_andn (a := 1#64 <<< j) hs
    cases c3 : s.getLsbD j
    · have ev1 : _ = (0 : Int) := w_bit false c3
      rw [if_neg (fun c => by rw [c3] at c; cases c.1)] at ha
      refine ⟨[Ans.o (Orc.b true), Ans.o (Orc.val (54 : Nat) (AV.int IntKind.u64 (↑(s >>> j).toNat : Int)) (H.mk [u64s w] (tk l) [])), Ans.o (Orc.val (55 : Nat) (AV.int IntKind.u64 (0 : Int)) (H.mk [u64s w] (tk l) [])), Ans.o Orc.dflt, Ans.o (Orc.val (88 : Nat) (AV.int IntKind.u64 (↑(BitVec.ofNat (64 : Nat) (1 : Nat) <<< j).toNat : Int)) (H.mk [u64s w] (tk l) [])), Ans.o (Orc.val (89 : Nat) (AV.int IntKind.u64 (↑(BitVec.toNat (s &&& ~~~(BitVec.ofNat (64 : Nat) (1 : Nat) <<< j))) : Int)) (H.mk [u64s w] (tk l) []))], fun u => of_eq ((↑j : Int) < (↑n : Int) ∧ aBin Tryd.prog BinOp.shr (71 : Nat) (AV.int IntKind.u64 (↑(BitVec.toNat s) : Int)) (I (↑j : Int)) = some (AV.int IntKind.u64 (↑(s >>> j).toNat : Int)) ∧ aBin Tryd.prog BinOp.and (71 : Nat) (AV.int IntKind.u64 (↑(s >>> j).toNat : Int)) (AV.int IntKind.u64 (1 : Int)) = some (AV.int IntKind.u64 (0 : Int)) ∧ aBin Tryd.prog BinOp.shl (71 : Nat) (AV.int IntKind.u64 (1 : Int)) (I (↑j : Int)) = some (AV.int IntKind.u64 (↑(BitVec.ofNat (64 : Nat) (1 : Nat) <<< j).toNat : Int)) ∧ aBin Tryd.prog BinOp.andNot (71 : Nat) (AV.int IntKind.u64 (↑(BitVec.toNat s) : Int)) (AV.int IntKind.u64 (↑(BitVec.ofNat (64 : Nat) (1 : Nat) <<< j).toNat : Int)) = some (AV.int IntKind.u64 (↑(BitVec.toNat (s &&& ~~~(BitVec.ofNat (64 : Nat) (1 : Nat) <<< j))) : Int)) ∧ IntKind.i64.wrap ((↑j : Int) + (1 : Int)) = (↑j : Int) + (1 : Int) ∧ (92 : Nat) = (92 : Nat) ∧ j < n ∧ Keep (∃ s_1 m_1 l_1, m_1 ≤ (64 : Nat) ∧ H.mk [u64s w] (tk l) [] = H.mk [u64s w] (tk l_1) [] ∧ [AV.msl (0 : Nat) (0 : Nat) n n (1 : Nat), AV.int IntKind.u64 (↑(BitVec.toNat (s &&& ~~~(BitVec.ofNat (64 : Nat) (1 : Nat) <<< j))) : Int), AV.sl (ints l) l.length (rm (0 : Nat) l), I (↑m : Int), I (↑n : Int), I ((↑j : Int) + (1 : Int))] = [AV.msl (0 : Nat) (0 : Nat) n n (1 : Nat), AV.int IntKind.u64 (↑(BitVec.toNat s_1) : Int), AV.sl (ints l_1) l_1.length (rm (0 : Nat) l_1), I (↑m_1 : Int), I (↑n : Int), I (↑(j + (1 : Nat)) : Int)] ∧ frV w = l_1 ++ rfF w (n - (j + (1 : Nat))) (j + (1 : Nat)) s_1 m_1 ∧ sub s_1 n ∧ l_1.length ≤ j + (1 : Nat))) (by kernel_rfl) ?_⟩
      refine And.intro (by first | with_reducible assumption | omega | assumption) ?_
      refine And.intro (by first | exact told_shr (by omega) (by with_reducible assumption) | exact told_shr (by omega) rfl) ?_
      refine And.intro (by exact told_and (by with_reducible assumption)) ?_
      refine And.intro (by first | exact told_shl (by omega) (by with_reducible assumption) | exact told_shl (by omega) rfl) ?_
      refine And.intro (by exact told_andn (by with_reducible assumption)) ?_
      refine And.intro (by exact wr _ (by omega) (by omega)) ?_
      refine And.intro (by first | with_reducible assumption | omega | assumption) ?_
      refine And.intro (by first | with_reducible assumption | omega | assumption) ?_
      exact ⟨_, m, l, hm, rfl, rfl, ha, hs3, by omega⟩
    · have ev1 : _ = (1 : Int) := w_bit true c3
      by_cases c4 : 0 < m
      · have c4' : (0 : Int) < (m : Int) := by omega
        have ev4 := w_andn s (wt_ w j)
        have ev5 := i_add1 (msV_le w (s &&& ~~~wt_ w j))
        have hs2 := sub_andn (a := wt_ w j) hs
        have p66 : (⟨[u64s w], tk l, []⟩ : H).blk[0]? = some (u64s w) ∧ sub (s &&& ~~~wt_ w j) w.length := ⟨rfl, by rw [hn]; exact hs2⟩
        by_cases c5 : 1 + msV w (s &&& ~~~wt_ w j) = m
        · have c5' : ((1 + msV w (s &&& ~~~wt_ w j) : Nat) : Int) = (m : Int) := by omega
          rw [if_pos ⟨c3, c4, c5⟩] at ha
          have ev6 : IntKind.i64.wrap ((m : Int) - 1) = ((m - 1 : Nat) : Int) := by
            have : (m : Int) - 1 = ((m - 1 : Nat) : Int) := by omega
            rw [this]; exact i_wrap (by omega)
          have ha : frV w = (l ++ [(j : Int)]) ++ rfF w (n - (j + 1)) (j + 1) (s &&& ~~~wt_ w j) (m - 1) := by rw [ha, List.append_assoc]; rfl
          have hlen : (l ++ [(j : Int)]).length ≤ j + 1 := by simp; omega
          refine ⟨[Ans.o (Orc.b true), Ans.o (Orc.val (54 : Nat) (AV.int IntKind.u64 (↑(s >>> j).toNat : Int)) (H.mk [u64s w] (tk l) [])), Ans.o (Orc.val (55 : Nat) (AV.int IntKind.u64 (1 : Int)) (H.mk [u64s w] (tk l) [])), Ans.o Orc.dflt, Ans.o (Orc.b true), Ans.o (Orc.val (66 : Nat) (AV.ptr (0 : Nat) j) (H.mk [u64s w] (tk l) [])), Ans.o (Orc.val (67 : Nat) (AV.int IntKind.u64 (↑(BitVec.toNat (w.getD j w0)) : Int)) (H.mk [u64s w] (tk l) [])), Ans.o (Orc.val (68 : Nat) (AV.int IntKind.u64 (↑(BitVec.toNat (s &&& ~~~wt_ w j)) : Int)) (H.mk [u64s w] (tk l) [])), Ans.o (Orc.val (69 : Nat) (I (↑(msV w (s &&& ~~~wt_ w j)) : Int)) (H.mk [u64s w] (tk l) [])), Ans.o (Orc.val (70 : Nat) (I (↑((1 : Nat) + msV w (s &&& ~~~wt_ w j)) : Int)) (H.mk [u64s w] (tk l) [])), Ans.o (Orc.b true), Ans.o (Orc.val (77 : Nat) (AV.sl (ints (l ++ [(↑j : Int)])) (l ++ [(↑j : Int)]).length (rm (0 : Nat) (l ++ [(↑j : Int)]))) (H.mk [u64s w] (tk (l ++ [(↑j : Int)])) [])), Ans.o (Orc.val (81 : Nat) (AV.ptr (0 : Nat) j) (H.mk [u64s w] (tk (l ++ [(↑j : Int)])) [])), Ans.o (Orc.val (82 : Nat) (AV.int IntKind.u64 (↑(BitVec.toNat (w.getD j w0)) : Int)) (H.mk [u64s w] (tk (l ++ [(↑j : Int)])) [])), Ans.o (Orc.val (83 : Nat) (AV.int IntKind.u64 (↑(BitVec.toNat (s &&& ~~~wt_ w j)) : Int)) (H.mk [u64s w] (tk (l ++ [(↑j : Int)])) [])), Ans.o (Orc.val (85 : Nat) (I (↑(m - (1 : Nat)) : Int)) (H.mk [u64s w] (tk (l ++ [(↑j : Int)])) []))], fun u => of_eq ((↑j : Int) < (↑n : Int) ∧ aBin Tryd.prog BinOp.shr (71 : Nat) (AV.int IntKind.u64 (↑(BitVec.toNat s) : Int)) (I (↑j : Int)) = some (AV.int IntKind.u64 (↑(s >>> j).toNat : Int)) ∧ aBin Tryd.prog BinOp.and (71 : Nat) (AV.int IntKind.u64 (↑(s >>> j).toNat : Int)) (AV.int IntKind.u64 (1 : Int)) = some (AV.int IntKind.u64 (1 : Int)) ∧ (0 : Int) < (↑m : Int) ∧ aIndexAddr Tryd.prog (66 : Nat) (AV.msl (0 : Nat) (0 : Nat) n n (1 : Nat)) (I (↑j : Int)) = some (AV.ptr (0 : Nat) j) ∧ aLoad Tryd.prog (71 : Nat) (List.drop j (u64s w)) = some (AV.int IntKind.u64 (↑(BitVec.toNat (w.getD j w0)) : Int)) ∧ aBin Tryd.prog BinOp.andNot (71 : Nat) (AV.int IntKind.u64 (↑(BitVec.toNat s) : Int)) (AV.int IntKind.u64 (↑(BitVec.toNat (w.getD j w0)) : Int)) = some (AV.int IntKind.u64 (↑(BitVec.toNat (s &&& ~~~wt_ w j)) : Int)) ∧ aCall (Sof [c30.to, c65.to, c66v w n hn hg]) (AV.fn (Fn.func (66 : Nat)) [] []) [AV.msl (0 : Nat) (0 : Nat) n n (1 : Nat), AV.int IntKind.u64 (↑(BitVec.toNat (s &&& ~~~wt_ w j)) : Int)] (H.mk [u64s w] (tk l) []) = some (I (↑(msV w (s &&& ~~~wt_ w j)) : Int), H.mk [u64s w] (tk l) []) ∧ aBin Tryd.prog BinOp.add (3 : Nat) (I (1 : Int)) (I (↑(msV w (s &&& ~~~wt_ w j)) : Int)) = some (I (↑((1 : Nat) + msV w (s &&& ~~~wt_ w j)) : Int)) ∧ (↑((1 : Nat) + msV w (s &&& ~~~wt_ w j)) : Int) = (↑m : Int) ∧ aAppend Tryd.prog (22 : Nat) (22 : Nat) (AV.sl (ints l) l.length (rm (0 : Nat) l)) (AV.sl [I (↑j : Int)] (1 : Nat) Room.full) (H.mk [u64s w] (tk l) []) = some (AV.sl (ints (l ++ [(↑j : Int)])) (l ++ [(↑j : Int)]).length (rm (0 : Nat) (l ++ [(↑j : Int)])), H.mk [u64s w] (tk (l ++ [(↑j : Int)])) []) ∧ aIndexAddr Tryd.prog (66 : Nat) (AV.msl (0 : Nat) (0 : Nat) n n (1 : Nat)) (I (↑j : Int)) = some (AV.ptr (0 : Nat) j) ∧ aLoad Tryd.prog (71 : Nat) (List.drop j (u64s w)) = some (AV.int IntKind.u64 (↑(BitVec.toNat (w.getD j w0)) : Int)) ∧ aBin Tryd.prog BinOp.andNot (71 : Nat) (AV.int IntKind.u64 (↑(BitVec.toNat s) : Int)) (AV.int IntKind.u64 (↑(BitVec.toNat (w.getD j w0)) : Int)) = some (AV.int IntKind.u64 (↑(BitVec.toNat (s &&& ~~~wt_ w j)) : Int)) ∧ aBin Tryd.prog BinOp.sub (3 : Nat) (I (↑m : Int)) (I (1 : Int)) = some (I (↑(m - (1 : Nat)) : Int)) ∧ IntKind.i64.wrap ((↑j : Int) + (1 : Int)) = (↑j : Int) + (1 : Int) ∧ (92 : Nat) = (92 : Nat) ∧ j < n ∧ Keep (∃ s_1 m_1 l_1, m_1 ≤ (64 : Nat) ∧ H.mk [u64s w] (tk (l ++ [(↑j : Int)])) [] = H.mk [u64s w] (tk l_1) [] ∧ [AV.msl (0 : Nat) (0 : Nat) n n (1 : Nat), AV.int IntKind.u64 (↑(BitVec.toNat (s &&& ~~~wt_ w j)) : Int), AV.sl (ints (l ++ [(↑j : Int)])) (l ++ [(↑j : Int)]).length (rm (0 : Nat) (l ++ [(↑j : Int)])), I (↑(m - (1 : Nat)) : Int), I (↑n : Int), I ((↑j : Int) + (1 : Int))] = [AV.msl (0 : Nat) (0 : Nat) n n (1 : Nat), AV.int IntKind.u64 (↑(BitVec.toNat s_1) : Int), AV.sl (ints l_1) l_1.length (rm (0 : Nat) l_1), I (↑m_1 : Int), I (↑n : Int), I (↑(j + (1 : Nat)) : Int)] ∧ frV w = l_1 ++ rfF w (n - (j + (1 : Nat))) (j + (1 : Nat)) s_1 m_1 ∧ sub s_1 n ∧ l_1.length ≤ j + (1 : Nat))) (by kernel_rfl) ?_⟩
          refine And.intro (by first | with_reducible assumption | omega | assumption) ?_
          refine And.intro (by first | exact told_shr (by omega) (by with_reducible assumption) | exact told_shr (by omega) rfl) ?_
          refine And.intro (by exact told_and (by with_reducible assumption)) ?_
          refine And.intro (by first | with_reducible assumption | omega | assumption) ?_
          refine And.intro (by first | exact ixm0 (by kernel_rfl) (by omega) | exact ixa0 (by kernel_rfl) (by omega)) ?_
          refine And.intro (by exact ldm_u64s (by kernel_rfl) (by kernel_rfl) hlw) ?_
          refine And.intro (by exact told_andn (by with_reducible assumption)) ?_
          refine And.intro (by exact acall_hit (c := c66v w n hn hg) (s &&& ~~~wt_ w j) _ rfl p66) ?_
          refine And.intro (by exact told_add (by with_reducible assumption)) ?_
          refine And.intro (by first | with_reducible assumption | omega | assumption) ?_
          refine And.intro (by exact app_intsb (by kernel_rfl) (by omega)) ?_
          refine And.intro (by first | exact ixm0 (by kernel_rfl) (by omega) | exact ixa0 (by kernel_rfl) (by omega)) ?_
          refine And.intro (by exact ldm_u64s (by kernel_rfl) (by kernel_rfl) hlw) ?_
          refine And.intro (by exact told_andn (by with_reducible assumption)) ?_
          refine And.intro (by exact told_sub (by with_reducible assumption)) ?_
          refine And.intro (by exact wr _ (by omega) (by omega)) ?_
          refine And.intro (by first | with_reducible assumption | omega | assumption) ?_
          refine And.intro (by first | with_reducible assumption | omega | assumption) ?_
          exact ⟨_, m - 1, _, by omega, rfl, rfl, ha, hs2, hlen⟩
        · have c5' : ((1 + msV w (s &&& ~~~wt_ w j) : Nat) : Int) ≠ (m : Int) := by omega
          rw [if_neg (fun c => c5 c.2.2)] at ha
          refine ⟨[Ans.o (Orc.b true), Ans.o (Orc.val (54 : Nat) (AV.int IntKind.u64 (↑(s >>> j).toNat : Int)) (H.mk [u64s w] (tk l) [])), Ans.o (Orc.val (55 : Nat) (AV.int IntKind.u64 (1 : Int)) (H.mk [u64s w] (tk l) [])), Ans.o Orc.dflt, Ans.o (Orc.b true), Ans.o (Orc.val (66 : Nat) (AV.ptr (0 : Nat) j) (H.mk [u64s w] (tk l) [])), Ans.o (Orc.val (67 : Nat) (AV.int IntKind.u64 (↑(BitVec.toNat (w.getD j w0)) : Int)) (H.mk [u64s w] (tk l) [])), Ans.o (Orc.val (68 : Nat) (AV.int IntKind.u64 (↑(BitVec.toNat (s &&& ~~~wt_ w j)) : Int)) (H.mk [u64s w] (tk l) [])), Ans.o (Orc.val (69 : Nat) (I (↑(msV w (s &&& ~~~wt_ w j)) : Int)) (H.mk [u64s w] (tk l) [])), Ans.o (Orc.val (70 : Nat) (I (↑((1 : Nat) + msV w (s &&& ~~~wt_ w j)) : Int)) (H.mk [u64s w] (tk l) [])), Ans.o (Orc.b false), Ans.o (Orc.val (88 : Nat) (AV.int IntKind.u64 (↑(BitVec.ofNat (64 : Nat) (1 : Nat) <<< j).toNat : Int)) (H.mk [u64s w] (tk l) [])), Ans.o (Orc.val (89 : Nat) (AV.int IntKind.u64 (↑(BitVec.toNat (s &&& ~~~(BitVec.ofNat (64 : Nat) (1 : Nat) <<< j))) : Int)) (H.mk [u64s w] (tk l) []))], fun u => of_eq ((↑j : Int) < (↑n : Int) ∧ aBin Tryd.prog BinOp.shr (71 : Nat) (AV.int IntKind.u64 (↑(BitVec.toNat s) : Int)) (I (↑j : Int)) = some (AV.int IntKind.u64 (↑(s >>> j).toNat : Int)) ∧ aBin Tryd.prog BinOp.and (71 : Nat) (AV.int IntKind.u64 (↑(s >>> j).toNat : Int)) (AV.int IntKind.u64 (1 : Int)) = some (AV.int IntKind.u64 (1 : Int)) ∧ (0 : Int) < (↑m : Int) ∧ aIndexAddr Tryd.prog (66 : Nat) (AV.msl (0 : Nat) (0 : Nat) n n (1 : Nat)) (I (↑j : Int)) = some (AV.ptr (0 : Nat) j) ∧ aLoad Tryd.prog (71 : Nat) (List.drop j (u64s w)) = some (AV.int IntKind.u64 (↑(BitVec.toNat (w.getD j w0)) : Int)) ∧ aBin Tryd.prog BinOp.andNot (71 : Nat) (AV.int IntKind.u64 (↑(BitVec.toNat s) : Int)) (AV.int IntKind.u64 (↑(BitVec.toNat (w.getD j w0)) : Int)) = some (AV.int IntKind.u64 (↑(BitVec.toNat (s &&& ~~~wt_ w j)) : Int)) ∧ aCall (Sof [c30.to, c65.to, c66v w n hn hg]) (AV.fn (Fn.func (66 : Nat)) [] []) [AV.msl (0 : Nat) (0 : Nat) n n (1 : Nat), AV.int IntKind.u64 (↑(BitVec.toNat (s &&& ~~~wt_ w j)) : Int)] (H.mk [u64s w] (tk l) []) = some (I (↑(msV w (s &&& ~~~wt_ w j)) : Int), H.mk [u64s w] (tk l) []) ∧ aBin Tryd.prog BinOp.add (3 : Nat) (I (1 : Int)) (I (↑(msV w (s &&& ~~~wt_ w j)) : Int)) = some (I (↑((1 : Nat) + msV w (s &&& ~~~wt_ w j)) : Int)) ∧ (↑((1 : Nat) + msV w (s &&& ~~~wt_ w j)) : Int) ≠ (↑m : Int) ∧ aBin Tryd.prog BinOp.shl (71 : Nat) (AV.int IntKind.u64 (1 : Int)) (I (↑j : Int)) = some (AV.int IntKind.u64 (↑(BitVec.ofNat (64 : Nat) (1 : Nat) <<< j).toNat : Int)) ∧ aBin Tryd.prog BinOp.andNot (71 : Nat) (AV.int IntKind.u64 (↑(BitVec.toNat s) : Int)) (AV.int IntKind.u64 (↑(BitVec.ofNat (64 : Nat) (1 : Nat) <<< j).toNat : Int)) = some (AV.int IntKind.u64 (↑(BitVec.toNat (s &&& ~~~(BitVec.ofNat (64 : Nat) (1 : Nat) <<< j))) : Int)) ∧ IntKind.i64.wrap ((↑j : Int) + (1 : Int)) = (↑j : Int) + (1 : Int) ∧ (92 : Nat) = (92 : Nat) ∧ j < n ∧ Keep (∃ s_1 m_1 l_1, m_1 ≤ (64 : Nat) ∧ H.mk [u64s w] (tk l) [] = H.mk [u64s w] (tk l_1) [] ∧ [AV.msl (0 : Nat) (0 : Nat) n n (1 : Nat), AV.int IntKind.u64 (↑(BitVec.toNat (s &&& ~~~(BitVec.ofNat (64 : Nat) (1 : Nat) <<< j))) : Int), AV.sl (ints l) l.length (rm (0 : Nat) l), I (↑m : Int), I (↑n : Int), I ((↑j : Int) + (1 : Int))] = [AV.msl (0 : Nat) (0 : Nat) n n (1 : Nat), AV.int IntKind.u64 (↑(BitVec.toNat s_1) : Int), AV.sl (ints l_1) l_1.length (rm (0 : Nat) l_1), I (↑m_1 : Int), I (↑n : Int), I (↑(j + (1 : Nat)) : Int)] ∧ frV w = l_1 ++ rfF w (n - (j + (1 : Nat))) (j + (1 : Nat)) s_1 m_1 ∧ sub s_1 n ∧ l_1.length ≤ j + (1 : Nat))) (by kernel_rfl) ?_⟩
          refine And.intro (by first | with_reducible assumption | omega | assumption) ?_
          refine And.intro (by first | exact told_shr (by omega) (by with_reducible assumption) | exact told_shr (by omega) rfl) ?_
          refine And.intro (by exact told_and (by with_reducible assumption)) ?_
          refine And.intro (by first | with_reducible assumption | omega | assumption) ?_
          refine And.intro (by first | exact ixm0 (by kernel_rfl) (by omega) | exact ixa0 (by kernel_rfl) (by omega)) ?_
          refine And.intro (by exact ldm_u64s (by kernel_rfl) (by kernel_rfl) hlw) ?_
          refine And.intro (by exact told_andn (by with_reducible assumption)) ?_
          refine And.intro (by exact acall_hit (c := c66v w n hn hg) (s &&& ~~~wt_ w j) _ rfl p66) ?_
          refine And.intro (by exact told_add (by with_reducible assumption)) ?_
          refine And.intro (by first | with_reducible assumption | omega | assumption) ?_
          refine And.intro (by first | exact told_shl (by omega) (by with_reducible assumption) | exact told_shl (by omega) rfl) ?_
          refine And.intro (by exact told_andn (by with_reducible assumption)) ?_
          refine And.intro (by exact wr _ (by omega) (by omega)) ?_
          refine And.intro (by first | with_reducible assumption | omega | assumption) ?_
          refine And.intro (by first | with_reducible assumption | omega | assumption) ?_
          exact ⟨_, m, l, hm, rfl, rfl, ha, hs3, by omega⟩
      · have c4' : (m : Int) ≤ 0 := by omega
        rw [if_neg (fun c => c4 c.2.1)] at ha
        refine ⟨[Ans.o (Orc.b true), Ans.o (Orc.val (54 : Nat) (AV.int IntKind.u64 (↑(s >>> j).toNat : Int)) (H.mk [u64s w] (tk l) [])), Ans.o (Orc.val (55 : Nat) (AV.int IntKind.u64 (1 : Int)) (H.mk [u64s w] (tk l) [])), Ans.o Orc.dflt, Ans.o (Orc.b false), Ans.o (Orc.val (88 : Nat) (AV.int IntKind.u64 (↑(BitVec.ofNat (64 : Nat) (1 : Nat) <<< j).toNat : Int)) (H.mk [u64s w] (tk l) [])), Ans.o (Orc.val (89 : Nat) (AV.int IntKind.u64 (↑(BitVec.toNat (s &&& ~~~(BitVec.ofNat (64 : Nat) (1 : Nat) <<< j))) : Int)) (H.mk [u64s w] (tk l) []))], fun u => of_eq ((↑j : Int) < (↑n : Int) ∧ aBin Tryd.prog BinOp.shr (71 : Nat) (AV.int IntKind.u64 (↑(BitVec.toNat s) : Int)) (I (↑j : Int)) = some (AV.int IntKind.u64 (↑(s >>> j).toNat : Int)) ∧ aBin Tryd.prog BinOp.and (71 : Nat) (AV.int IntKind.u64 (↑(s >>> j).toNat : Int)) (AV.int IntKind.u64 (1 : Int)) = some (AV.int IntKind.u64 (1 : Int)) ∧ (↑m : Int) ≤ (0 : Int) ∧ aBin Tryd.prog BinOp.shl (71 : Nat) (AV.int IntKind.u64 (1 : Int)) (I (↑j : Int)) = some (AV.int IntKind.u64 (↑(BitVec.ofNat (64 : Nat) (1 : Nat) <<< j).toNat : Int)) ∧ aBin Tryd.prog BinOp.andNot (71 : Nat) (AV.int IntKind.u64 (↑(BitVec.toNat s) : Int)) (AV.int IntKind.u64 (↑(BitVec.ofNat (64 : Nat) (1 : Nat) <<< j).toNat : Int)) = some (AV.int IntKind.u64 (↑(BitVec.toNat (s &&& ~~~(BitVec.ofNat (64 : Nat) (1 : Nat) <<< j))) : Int)) ∧ IntKind.i64.wrap ((↑j : Int) + (1 : Int)) = (↑j : Int) + (1 : Int) ∧ (92 : Nat) = (92 : Nat) ∧ j < n ∧ Keep (∃ s_1 m_1 l_1, m_1 ≤ (64 : Nat) ∧ H.mk [u64s w] (tk l) [] = H.mk [u64s w] (tk l_1) [] ∧ [AV.msl (0 : Nat) (0 : Nat) n n (1 : Nat), AV.int IntKind.u64 (↑(BitVec.toNat (s &&& ~~~(BitVec.ofNat (64 : Nat) (1 : Nat) <<< j))) : Int), AV.sl (ints l) l.length (rm (0 : Nat) l), I (↑m : Int), I (↑n : Int), I ((↑j : Int) + (1 : Int))] = [AV.msl (0 : Nat) (0 : Nat) n n (1 : Nat), AV.int IntKind.u64 (↑(BitVec.toNat s_1) : Int), AV.sl (ints l_1) l_1.length (rm (0 : Nat) l_1), I (↑m_1 : Int), I (↑n : Int), I (↑(j + (1 : Nat)) : Int)] ∧ frV w = l_1 ++ rfF w (n - (j + (1 : Nat))) (j + (1 : Nat)) s_1 m_1 ∧ sub s_1 n ∧ l_1.length ≤ j + (1 : Nat))) (by kernel_rfl) ?_⟩
        refine And.intro (by first | with_reducible assumption | omega | assumption) ?_
        refine And.intro (by first | exact told_shr (by omega) (by with_reducible assumption) | exact told_shr (by omega) rfl) ?_
        refine And.intro (by exact told_and (by with_reducible assumption)) ?_
        refine And.intro (by first | with_reducible assumption | omega | assumption) ?_
        refine And.intro (by first | exact told_shl (by omega) (by with_reducible assumption) | exact told_shl (by omega) rfl) ?_
        refine And.intro (by exact told_andn (by with_reducible assumption)) ?_
        refine And.intro (by exact wr _ (by omega) (by omega)) ?_
        refine And.intro (by first | with_reducible assumption | omega | assumption) ?_
        refine And.intro (by first | with_reducible assumption | omega | assumption) ?_
        exact ⟨_, m, l, hm, rfl, rfl, ha, hs3, by omega⟩
  · have hz : (n : Int) ≤ j := by omega
    have e : n - j = 0 := by omega
    rw [e] at ha
    have ha : frV w = l := by rw [ha]; exact List.append_nil l
    refine ⟨[Ans.o (Orc.b false)], fun u => of_eq ((↑n : Int) ≤ (↑j : Int) ∧ (92 : Nat) = (92 : Nat) ∧ hits [Out.mk Unit (AX.exit (4 : Nat)) [(10 : Nat)] (fun x => True) (fun x => [iacc (frV w)]) (fun x => H.mk [u64s w] (tk (frV w)) []) fun x => []] (AX.exit (4 : Nat)) [u (0 : Nat), u (1 : Nat), u (2 : Nat), u (3 : Nat), u (4 : Nat), u (5 : Nat), AV.msl (0 : Nat) (0 : Nat) n n (1 : Nat), AV.int IntKind.u64 (↑(BitVec.toNat s) : Int), u (8 : Nat), u (9 : Nat), AV.sl (ints l) l.length (rm (0 : Nat) l), I (↑m : Int), u (12 : Nat), u (13 : Nat), u (14 : Nat), u (15 : Nat), u (16 : Nat), u (17 : Nat), u (18 : Nat), u (19 : Nat), u (20 : Nat), u (21 : Nat), u (22 : Nat), u (23 : Nat), u (24 : Nat), u (25 : Nat), u (26 : Nat), u (27 : Nat), u (28 : Nat), u (29 : Nat), u (30 : Nat), u (31 : Nat), u (32 : Nat), u (33 : Nat), u (34 : Nat), u (35 : Nat), u (36 : Nat), u (37 : Nat), u (38 : Nat), u (39 : Nat), u (40 : Nat), u (41 : Nat), u (42 : Nat), u (43 : Nat), u (44 : Nat), u (45 : Nat), u (46 : Nat), u (47 : Nat), I (↑n : Int), I (↑j : Int), AV.bool false, u (51 : Nat), u (52 : Nat), u (53 : Nat), u (54 : Nat), u (55 : Nat), u (56 : Nat), u (57 : Nat), u (58 : Nat), u (59 : Nat), u (60 : Nat), u (61 : Nat), u (62 : Nat), u (63 : Nat), u (64 : Nat), u (65 : Nat), u (66 : Nat), u (67 : Nat), u (68 : Nat), u (69 : Nat), u (70 : Nat), u (71 : Nat), u (72 : Nat), u (73 : Nat), u (74 : Nat), u (75 : Nat), u (76 : Nat), u (77 : Nat), u (78 : Nat), u (79 : Nat), u (80 : Nat), u (81 : Nat), u (82 : Nat), u (83 : Nat), u (84 : Nat), u (85 : Nat), u (86 : Nat), u (87 : Nat), u (88 : Nat), u (89 : Nat), u (90 : Nat), u (91 : Nat)] (H.mk [u64s w] (tk l) [])) (by kernel_rfl) ?_⟩
    refine And.intro (by first | with_reducible assumption | omega | assumption) ?_
    refine And.intro (by first | with_reducible assumption | omega | assumption) ?_
    exact .inl ⟨(), trivial, rfl, by rw [ha]; rfl, by rw [ha]⟩
theorem ok32 : FokM Tryd.prog M66 32 Tryd.f32 := ⟨mixed, by kernel_rfl, by kernel_rfl, by kernel_rfl, by kernel_rfl⟩
theorem r32 (g : List Int) (r : Room) (k : Int) (h0 : rdE g k = 0) (hr : rok g r) (w : List W) (n : Nat) (hw : rdW g k = w) (hnn : g.length ^ k.toNat = n) (hn : w.length = n) (hg : gsW w) : Body (En6 [c30.to, c65.to, c66v w n hn hg]) M66 Tryd.f32 [ls g r, I k] .nil (iacc (frV w), ⟨[], tk (frV w), []⟩) := by
  obtain ⟨hgr, hk, _, _⟩ := rd_ok h0
  have p30 : g.length ≤ 6 ∧ 0 ≤ k ∧ k ≤ 3 := ⟨hgr.1.2, by omega, by omega⟩
  have h64 := hg.1.1.2
  have hK : ∀ a b : Nat, a < n → b < n → nrK g k.toNat a b = (wt_ w a).getLsbD b := fun a b ha hb => by
    have := nrK_rd h0 (a := a) (b := b) (by rw [hw]; omega) (by rw [hw]; omega)
    rw [hw] at this; exact this
  have lpa := lp32a g r k w n hn hg ⟨hgr, hr⟩ ⟨by omega, by omega⟩ hK
  have lpc := lp32c w n hn hg
  have p66 : (bl w).blk[0]? = some (u64s w) ∧ sub (ful n) w.length := ⟨rfl, by rw [hn]; exact ful_sub (by omega)⟩
  subst hnn
  refine body_s ([Ans.o (Orc.val (15 : Nat) (I (↑(g.length ^ k.toNat) : Int)) (H.mk [] [] [])), Ans.o (Orc.val (17 : Nat) (AV.msl (0 : Nat) (0 : Nat) (g.length ^ k.toNat) (g.length ^ k.toNat) (1 : Nat)) (H.mk [u64s (List.replicate (g.length ^ k.toNat) w0)] [] [])), Ans.loop [(0 : Nat), (1 : Nat), (5 : Nat), (6 : Nat), (7 : Nat), (18 : Nat), (19 : Nat)] [Out.mk Unit (AX.exit (0 : Nat)) [(5 : Nat), (6 : Nat), (7 : Nat)] (fun x => True) (fun x => [I (↑(g.length ^ k.toNat) : Int), AV.msl (0 : Nat) (0 : Nat) (g.length ^ k.toNat) (g.length ^ k.toNat) (1 : Nat), u64A (ful (g.length ^ k.toNat))]) (fun x => bl w) fun y => [Ans.o (Orc.val (47 : Nat) (I (↑(msV w (ful (g.length ^ k.toNat))) : Int)) (H.mk [u64s w] [] [])), Ans.loop [(6 : Nat), (7 : Nat), (10 : Nat), (11 : Nat), (48 : Nat), (49 : Nat)] [Out.mk Unit (AX.exit (4 : Nat)) [(10 : Nat)] (fun x => True) (fun x => [iacc (frV w)]) (fun x => H.mk [u64s w] (tk (frV w)) []) fun y => []]]]]) (aCall (Sof [c30.to, c65.to, c66v w (g.length ^ k.toNat) hn hg]) (AV.fn (Fn.func (30 : Nat)) [] []) [AV.sl (ints g) g.length r, I k] (H.mk [] [] []) = some (I (↑(g.length ^ k.toNat) : Int), H.mk [] [] []) ∧ aMake Tryd.prog (66 : Nat) (↑(g.length ^ k.toNat) : Int) (↑(g.length ^ k.toNat) : Int) (H.mk [] [] []) = some (AV.msl (0 : Nat) (0 : Nat) (g.length ^ k.toNat) (g.length ^ k.toNat) (1 : Nat), H.mk [u64s (List.replicate (g.length ^ k.toNat) w0)] [] []) ∧ LoopS (Env.mk Tryd.prog (Sof [c30.to, c65.to, c66v w (g.length ^ k.toNat) hn hg]) (Pof (P := Tryd.prog) []) H.nil.base (300 : Nat)) (loopAt Tryd.f32 (0 : Nat)) (92 : Nat) [(0 : Nat), (1 : Nat), (5 : Nat), (6 : Nat), (7 : Nat), (18 : Nat), (19 : Nat)] [AV.sl (ints g) g.length r, I k, I (↑(g.length ^ k.toNat) : Int), AV.msl (0 : Nat) (0 : Nat) (g.length ^ k.toNat) (g.length ^ k.toNat) (1 : Nat), AV.int IntKind.u64 (0 : Int), I (↑(g.length ^ k.toNat) : Int), I (0 : Int)] (H.mk [u64s (List.replicate (g.length ^ k.toNat) w0)] [] []) [Out.mk Unit (AX.exit (0 : Nat)) [(5 : Nat), (6 : Nat), (7 : Nat)] (fun x => True) (fun x => [I (↑(g.length ^ k.toNat) : Int), AV.msl (0 : Nat) (0 : Nat) (g.length ^ k.toNat) (g.length ^ k.toNat) (1 : Nat), u64A (ful (g.length ^ k.toNat))]) (fun x => bl w) fun y => [Ans.o (Orc.val (47 : Nat) (I (↑(msV w (ful (g.length ^ k.toNat))) : Int)) (H.mk [u64s w] [] [])), Ans.loop [(6 : Nat), (7 : Nat), (10 : Nat), (11 : Nat), (48 : Nat), (49 : Nat)] [Out.mk Unit (AX.exit (4 : Nat)) [(10 : Nat)] (fun x => True) (fun x => [iacc (frV w)]) (fun x => H.mk [u64s w] (tk (frV w)) []) fun y => []]]] ∧ (∀ (y : Unit), True → ∀ (u : Nat → AV), aCall (Sof [c30.to, c65.to, c66v w (g.length ^ k.toNat) hn hg]) (AV.fn (Fn.func (66 : Nat)) [] []) [AV.msl (0 : Nat) (0 : Nat) (g.length ^ k.toNat) (g.length ^ k.toNat) (1 : Nat), AV.int IntKind.u64 (↑(BitVec.toNat (ful (g.length ^ k.toNat))) : Int)] (H.mk [u64s w] [] []) = some (I (↑(msV w (ful (g.length ^ k.toNat))) : Int), H.mk [u64s w] [] []) ∧ LoopS (Env.mk Tryd.prog (Sof [c30.to, c65.to, c66v w (g.length ^ k.toNat) hn hg]) (Pof (P := Tryd.prog) []) H.nil.base (300 : Nat)) (loopAt Tryd.f32 (2 : Nat)) (92 : Nat) [(6 : Nat), (7 : Nat), (10 : Nat), (11 : Nat), (48 : Nat), (49 : Nat)] [AV.msl (0 : Nat) (0 : Nat) (g.length ^ k.toNat) (g.length ^ k.toNat) (1 : Nat), AV.int IntKind.u64 (↑(BitVec.toNat (ful (g.length ^ k.toNat))) : Int), AV.sl [] (0 : Nat) Room.nil, I (↑(msV w (ful (g.length ^ k.toNat))) : Int), I (↑(g.length ^ k.toNat) : Int), I (0 : Int)] (H.mk [u64s w] [] []) [Out.mk Unit (AX.exit (4 : Nat)) [(10 : Nat)] (fun x => True) (fun x => [iacc (frV w)]) (fun x => H.mk [u64s w] (tk (frV w)) []) fun y => []] ∧ (∀ (y : Unit), True → ∀ (u : Nat → AV), leave (Base.mk H.nil.blk.length H.nil.toks.length H.nil.maps.length) (AV.sl (ints (frV w)) (frV w).length (rm (0 : Nat) (frV w))) (H.mk [u64s w] (tk (frV w)) []) = (AV.sl (ints (frV w)) (frV w).length (rm (0 : Nat) (frV w)), H.mk [] (tk (frV w)) [])) ∧ True) ∧ True) (by kernel_rfl) ?_
  refine And.intro (by exact acall_hit (c := c30.to) (g, r, k) _ rfl p30) ?_
  refine And.intro (by first | exact mk_u64s (by kernel_rfl) (by omega) | exact mk_ints (by kernel_rfl) (by omega) | exact mk_bools (by kernel_rfl) (by omega)) ?_
  refine And.intro (by exact lpa) ?_
  refine And.intro ?_ ?_
  · skip
    intro y
    intro w1
    intro u
    refine And.intro (by exact acall_hit (c := c66v w (g.length ^ k.toNat) hn hg) (ful (g.length ^ k.toNat)) _ rfl p66) ?_
    refine And.intro (by exact lpc) ?_
    refine And.intro ?_ ?_
    · skip
      intro y
      intro w4
      intro u
      exact leave_ib _ _
    · skip
      trivial
  · skip
    trivial
noncomputable def c32 : PCtr Tryd.prog := slctr ok32 (X := List Int × Room × Int) (fun x => [ls x.1 x.2.1, I x.2.2]) (fun x => rdE x.1 x.2.2 = 0 ∧ rok x.1 x.2.1) (fun x => ls (frV (rdW x.1 x.2.2)) (rn (frV (rdW x.1 x.2.2))))
  (by rintro ⟨g, r, k⟩ ⟨g', r', k'⟩ e _ _; simp at e; simp [e]) (fun x => by simp [AV.bnds, AV.bnd, AV.wk, rm_wk_bnd]) (fun x => by simp [AV.bnd, rm_wk_bnd])
  (fun x hx => by
    obtain ⟨g, r, k⟩ := x
    obtain ⟨h0, hr⟩ := hx
    exact ⟨_, _, _, iacc (frV (rdW g k)), tk (frV (rdW g k)), ct32 _ _ (rdW_len h0) (rd_gs h0), r32 g r.wk k h0 (by simpa using hr) _ _ rfl rfl (rdW_len h0) (rd_gs h0), by simp [AV.plain, plains_ints], by simp [AV.wkd, wkds_ints]⟩)
end Go.Proofs.Sur
