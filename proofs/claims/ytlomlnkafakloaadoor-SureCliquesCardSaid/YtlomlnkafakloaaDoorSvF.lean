/- Layer 5: the law of sets of neighbours. -/
import Derived.Test.YtlomlnkafakloaaDoorSvE
import Derived.Test.YtlomlnkafakloaaDoorSuI
import Derived.Test.YtlomlnkafakloaaDoorSuJ0
import Derived.KernelRfl
set_option linter.unusedSimpArgs false
set_option linter.unusedVariables false
set_option linter.unnecessarySimpa false
set_option maxHeartbeats 4000000
set_option maxRecDepth 100000
namespace Go.Proofs.Sur
open Go Go.VM

theorem cut_g3 {g : List Int} (h : sz (cut g)) : cut g = g := by
  have h1 := h.2
  have : (cut g).length = min 80 g.length := by simp [cut]
  exact List.take_of_length_le (by omega)
theorem cut_gr3 {g : List Int} : Gr (cut g) ↔ Gr g := by
  constructor
  · intro h; rw [cut_g3 h.1] at h; exact h
  · intro h
    have : cut g = g := List.take_of_length_le (by have := h.1.2; omega)
    rw [this]; exact h
theorem andn_lt_iff {s c : Nat} (hs : s < 64) : c &&& s ≠ 0 ↔ andn s c < s := by
  have hle := andn_le (a := s) (b := c) (by omega)
  constructor
  · intro h
    refine Classical.byContradiction fun hc => h ?_
    have e : andn s c = s := by omega
    apply Nat.eq_of_testBit_eq; intro i
    have := andn_bit (a := s) (b := c) (by omega) i
    rw [e] at this
    rw [Nat.testBit_and, Nat.zero_testBit]
    cases h1 : s.testBit i
    · simp
    · rw [h1] at this
      cases h2 : c.testBit i
      · rfl
      · rw [h2] at this; cases this
  · intro h e
    have : andn s c = s := by
      apply Nat.eq_of_testBit_eq; intro i
      rw [andn_bit (by omega)]
      have := congrArg (fun x => x.testBit i) e
      simp only [Nat.testBit_and, Nat.zero_testBit] at this
      cases h1 : s.testBit i
      · rfl
      · rw [h1] at this
        cases h2 : c.testBit i
        · rfl
        · rw [h2] at this; cases this
    omega
theorem i_andc {s : Nat} {x : Int} (hs : s < 64) (h0 : 0 ≤ x) (h : x < 64) : IntKind.i64.wrap ((BitVec.ofInt IntKind.i64.bits x &&& BitVec.ofInt IntKind.i64.bits (s : Int)).toNat : Int) = ((x.toNat &&& s : Nat) : Int) := by
  have := i_and (a := x.toNat) (b := s) (by omega) (by omega)
  have e : ((x.toNat : Nat) : Int) = x := by omega
  rw [e] at this; exact this
abbrev o42i (g : List Int) (r : Room) (M s : Nat) : List Out :=
  [.mk Unit (.exit 2) [0, 3, 4] (fun _ => True) (fun _ => [ls g r, .msl 0 0 M M 1, I (s : Int)]) (fun _ => ⟨[ints (mem g M s (clV g).length)], [], []⟩) (fun _ => [])]
theorem simp42i : allSimpleM none1 (loopAt Tryd.f42 1) = true := by kernel_rfl
theorem lp42i (g : List Int) (r : Room) (hg : Gr g) (hr : rok g r) (M s : Nat) (hM : M ≤ 64) (hMg : 2 ^ g.length = M) (hs : s < M) :
    LoopS (En6 [c41.to]) (loopAt Tryd.f42 1) 57 [0, 3, 4, 24, 25, 26] [ls g r, .msl 0 0 M M 1, I (s : Int), ls (clV g) (rn (clV g)), I (clV g).length, I 0] ⟨[ints (mem g M s 0)], [], []⟩ (o42i g r M s) := by
  have hR : Rests (En6 [c41.to]) none1 := rests mixed (.pure _ .nil)
  have g6 := hg.1.2
  have hll : (clV g).length ≤ 2 ^ g.length := clL_len g _
  have hs64 : s < 64 := by omega
  refine loop_s hR simp42i none (by intro _ h; cases h) (fun j vs h => h = ⟨[ints (mem g M s j)], [], []⟩ ∧ vs = [ls g r, .msl 0 0 M M 1, I (s : Int), ls (clV g) (rn (clV g)), I (clV g).length, I j]) (clV g).length ⟨rfl, rfl⟩ (by intro _ h; cases h) ?_
  rintro j vs h hj ⟨rfl, rfl⟩
  by_cases hz : (j : Int) < (clV g).length
  · have hz' : j < (clV g).length := by omega
    have hr' := rok_idx (rn_rok (clV g)) hz'
    have hc := clV_mem hg.1 (clV_get hz')
    have hc64 : at_ (clV g) j < 64 := by omega
    have ev0 := i_andng hs64 (show 0 ≤ at_ (clV g) j by omega)
    have ev2 := i_andc (x := at_ (clV g) j) hs64 (by omega) hc64
    have hmle := andn_le (a := s) (b := (at_ (clV g) j).toNat) (by omega)
    have st := step_ok g (L := M) g6 hs hs64 hz' _ rfl
    obtain ⟨ev1, hp⟩ := st
    have hiff := andn_lt_iff (s := s) (c := (at_ (clV g) j).toNat) hs64
    have hl1 : s < (mem g M s j).length := by rw [mem_len]; exact hs
    have hl2 : andn s (at_ (clV g) j).toNat < (mem g M s j).length := by rw [mem_len]; omega
    have hn := mem_next g M s j
    by_cases c0 : (at_ (clV g) j).toNat &&& s = 0
    · have c0' : (((at_ (clV g) j).toNat &&& s : Nat) : Int) = 0 := by omega
      have e : mem g M s (j + 1) = mem g M s j := by
        have : pf g s (j + 1) = pf g s j := by
          rw [pf_suc hz', cvT, if_neg (fun h => hiff.2 h c0)]
        rw [mem, this]
      refine ⟨[Ans.o (Orc.b true), Ans.o (Orc.val (28 : Nat) (AV.cptr (ints (List.drop j (clV g)))) (H.mk [ints (mem g M s j)] [] [])), Ans.o (Orc.val (29 : Nat) (I ((clV g).getD j i0)) (H.mk [ints (mem g M s j)] [] [])), Ans.o (Orc.val (32 : Nat) (I (↑((at_ (clV g) j).toNat &&& s) : Int)) (H.mk [ints (mem g M s j)] [] [])), Ans.o (Orc.b false)], fun u => of_eq ((↑j : Int) < (↑(clV g).length : Int) ∧ aIndexAddr Tryd.prog (22 : Nat) (AV.sl (ints (clV g)) (clV g).length (rn (clV g))) (I (↑j : Int)) = some (AV.cptr (ints (List.drop j (clV g)))) ∧ aLoad Tryd.prog (3 : Nat) (ints (List.drop j (clV g))) = some (I ((clV g).getD j i0)) ∧ aBin Tryd.prog BinOp.and (3 : Nat) (I ((clV g).getD j i0)) (I (↑s : Int)) = some (I (↑((at_ (clV g) j).toNat &&& s) : Int)) ∧ (↑((at_ (clV g) j).toNat &&& s) : Int) = (0 : Int) ∧ IntKind.i64.wrap ((↑j : Int) + (1 : Int)) = (↑j : Int) + (1 : Int) ∧ (57 : Nat) = (57 : Nat) ∧ j < (clV g).length ∧ Keep (H.mk [ints (mem g M s j)] [] [] = H.mk [ints (mem g M s (j + (1 : Nat)))] [] [] ∧ [AV.sl (ints g) g.length r, AV.msl (0 : Nat) (0 : Nat) M M (1 : Nat), I (↑s : Int), AV.sl (ints (clV g)) (clV g).length (rn (clV g)), I (↑(clV g).length : Int), I ((↑j : Int) + (1 : Int))] = [AV.sl (ints g) g.length r, AV.msl (0 : Nat) (0 : Nat) M M (1 : Nat), I (↑s : Int), AV.sl (ints (clV g)) (clV g).length (rn (clV g)), I (↑(clV g).length : Int), I (↑(j + (1 : Nat)) : Int)])) (by kernel_rfl) ?_⟩
      refine And.intro (by first | with_reducible assumption | omega | assumption) ?_
      refine And.intro (by first | exact ix_ints (by kernel_rfl) (by omega) (by assumption) | exact ix_ints (by kernel_rfl) (by omega) (rok_idx (by assumption) (by omega))) ?_
      refine And.intro (by first | exact ld_ints (by kernel_rfl) (by kernel_rfl) (by omega) | exact ldm_ints (by kernel_rfl) (by kernel_rfl) (by first | omega | (simp; omega))) ?_
      refine And.intro (by exact told_and (by with_reducible assumption)) ?_
      refine And.intro (by first | with_reducible assumption | omega | assumption) ?_
      refine And.intro (by exact wr _ (by omega) (by omega)) ?_
      refine And.intro (by first | with_reducible assumption | omega | assumption) ?_
      refine And.intro (by first | with_reducible assumption | omega | assumption) ?_
      exact ⟨by rw [e], rfl⟩
    · have c0' : (((at_ (clV g) j).toNat &&& s : Nat) : Int) ≠ 0 := by omega
      refine ⟨[Ans.o (Orc.b true), Ans.o (Orc.val (28 : Nat) (AV.cptr (ints (List.drop j (clV g)))) (H.mk [ints (mem g M s j)] [] [])), Ans.o (Orc.val (29 : Nat) (I ((clV g).getD j i0)) (H.mk [ints (mem g M s j)] [] [])), Ans.o (Orc.val (32 : Nat) (I (↑((at_ (clV g) j).toNat &&& s) : Int)) (H.mk [ints (mem g M s j)] [] [])), Ans.o (Orc.b true), Ans.o (Orc.val (38 : Nat) (AV.ptr (0 : Nat) s) (H.mk [ints (mem g M s j)] [] [])), Ans.o (Orc.val (39 : Nat) (I ((mem g M s j).getD s i0)) (H.mk [ints (mem g M s j)] [] [])), Ans.o (Orc.val (43 : Nat) (I (↑(andn s (at_ (clV g) j).toNat) : Int)) (H.mk [ints (mem g M s j)] [] [])), Ans.o (Orc.val (44 : Nat) (AV.ptr (0 : Nat) (andn s (at_ (clV g) j).toNat)) (H.mk [ints (mem g M s j)] [] [])), Ans.o (Orc.val (45 : Nat) (I ((mem g M s j).getD (andn s (at_ (clV g) j).toNat) i0)) (H.mk [ints (mem g M s j)] [] [])), Ans.o (Orc.val (46 : Nat) (I (↑((1 : Nat) + if andn s (at_ (clV g) j).toNat < s then V g (andn s (at_ (clV g) j).toNat) else pf g s j) : Int)) (H.mk [ints (mem g M s j)] [] [])), Ans.o (Orc.val (48 : Nat) (AV.ptr (0 : Nat) s) (H.mk [ints (mem g M s j)] [] [])), Ans.o (Orc.val (9999 : Nat) (AV.tup []) (H.mk [ints ((mem g M s j).set s (pick2 false ((mem g M s j).getD s i0) (↑((1 : Nat) + if andn s (at_ (clV g) j).toNat < s then V g (andn s (at_ (clV g) j).toNat) else pf g s j) : Int)))] [] []))], fun u => of_eq ((↑j : Int) < (↑(clV g).length : Int) ∧ aIndexAddr Tryd.prog (22 : Nat) (AV.sl (ints (clV g)) (clV g).length (rn (clV g))) (I (↑j : Int)) = some (AV.cptr (ints (List.drop j (clV g)))) ∧ aLoad Tryd.prog (3 : Nat) (ints (List.drop j (clV g))) = some (I ((clV g).getD j i0)) ∧ aBin Tryd.prog BinOp.and (3 : Nat) (I ((clV g).getD j i0)) (I (↑s : Int)) = some (I (↑((at_ (clV g) j).toNat &&& s) : Int)) ∧ (↑((at_ (clV g) j).toNat &&& s) : Int) ≠ (0 : Int) ∧ aIndexAddr Tryd.prog (22 : Nat) (AV.msl (0 : Nat) (0 : Nat) M M (1 : Nat)) (I (↑s : Int)) = some (AV.ptr (0 : Nat) s) ∧ aLoad Tryd.prog (3 : Nat) (List.drop s (ints (mem g M s j))) = some (I ((mem g M s j).getD s i0)) ∧ aBin Tryd.prog BinOp.andNot (3 : Nat) (I (↑s : Int)) (I ((clV g).getD j i0)) = some (I (↑(andn s (at_ (clV g) j).toNat) : Int)) ∧ aIndexAddr Tryd.prog (22 : Nat) (AV.msl (0 : Nat) (0 : Nat) M M (1 : Nat)) (I (↑(andn s (at_ (clV g) j).toNat) : Int)) = some (AV.ptr (0 : Nat) (andn s (at_ (clV g) j).toNat)) ∧ aLoad Tryd.prog (3 : Nat) (List.drop (andn s (at_ (clV g) j).toNat) (ints (mem g M s j))) = some (I ((mem g M s j).getD (andn s (at_ (clV g) j).toNat) i0)) ∧ aBin Tryd.prog BinOp.add (3 : Nat) (I (1 : Int)) (I ((mem g M s j).getD (andn s (at_ (clV g) j).toNat) i0)) = some (I (↑((1 : Nat) + if andn s (at_ (clV g) j).toNat < s then V g (andn s (at_ (clV g) j).toNat) else pf g s j) : Int)) ∧ aIndexAddr Tryd.prog (22 : Nat) (AV.msl (0 : Nat) (0 : Nat) M M (1 : Nat)) (I (↑s : Int)) = some (AV.ptr (0 : Nat) s) ∧ aStore Tryd.prog H.nil.base (3 : Nat) (AV.ptr (0 : Nat) s) (I (pick2 false ((mem g M s j).getD s i0) (↑((1 : Nat) + if andn s (at_ (clV g) j).toNat < s then V g (andn s (at_ (clV g) j).toNat) else pf g s j) : Int))) (H.mk [ints (mem g M s j)] [] []) = some (H.mk [ints ((mem g M s j).set s (pick2 false ((mem g M s j).getD s i0) (↑((1 : Nat) + if andn s (at_ (clV g) j).toNat < s then V g (andn s (at_ (clV g) j).toNat) else pf g s j) : Int)))] [] []) ∧ IntKind.i64.wrap ((↑j : Int) + (1 : Int)) = (↑j : Int) + (1 : Int) ∧ (57 : Nat) = (57 : Nat) ∧ j < (clV g).length ∧ Keep (H.mk [ints ((mem g M s j).set s (pick2 false ((mem g M s j).getD s i0) (↑((1 : Nat) + if andn s (at_ (clV g) j).toNat < s then V g (andn s (at_ (clV g) j).toNat) else pf g s j) : Int)))] [] [] = H.mk [ints (mem g M s (j + (1 : Nat)))] [] [] ∧ [AV.sl (ints g) g.length r, AV.msl (0 : Nat) (0 : Nat) M M (1 : Nat), I (↑s : Int), AV.sl (ints (clV g)) (clV g).length (rn (clV g)), I (↑(clV g).length : Int), I ((↑j : Int) + (1 : Int))] = [AV.sl (ints g) g.length r, AV.msl (0 : Nat) (0 : Nat) M M (1 : Nat), I (↑s : Int), AV.sl (ints (clV g)) (clV g).length (rn (clV g)), I (↑(clV g).length : Int), I (↑(j + (1 : Nat)) : Int)])) (by kernel_rfl) ?_⟩
      refine And.intro (by first | with_reducible assumption | omega | assumption) ?_
      refine And.intro (by first | exact ix_ints (by kernel_rfl) (by omega) (by assumption) | exact ix_ints (by kernel_rfl) (by omega) (rok_idx (by assumption) (by omega))) ?_
      refine And.intro (by first | exact ldm_ints (by kernel_rfl) (by kernel_rfl) hl1 | exact ldm_ints (by kernel_rfl) (by kernel_rfl) hl2 | exact ld_ints (by kernel_rfl) (by kernel_rfl) (by omega)) ?_
      refine And.intro (by exact told_and (by with_reducible assumption)) ?_
      refine And.intro (by first | with_reducible assumption | omega | assumption) ?_
      refine And.intro (by exact ixm0 (by kernel_rfl) (by omega)) ?_
      refine And.intro (by first | exact ldm_ints (by kernel_rfl) (by kernel_rfl) hl1 | exact ldm_ints (by kernel_rfl) (by kernel_rfl) hl2 | exact ld_ints (by kernel_rfl) (by kernel_rfl) (by omega)) ?_
      refine And.intro (by exact told_andn (by with_reducible assumption)) ?_
      refine And.intro (by exact ixm0 (by kernel_rfl) (by omega)) ?_
      refine And.intro (by first | exact ldm_ints (by kernel_rfl) (by kernel_rfl) hl1 | exact ldm_ints (by kernel_rfl) (by kernel_rfl) hl2 | exact ld_ints (by kernel_rfl) (by kernel_rfl) (by omega)) ?_
      refine And.intro (by exact told_add (by with_reducible assumption)) ?_
      refine And.intro (by exact ixm0 (by kernel_rfl) (by omega)) ?_
      refine And.intro (by exact st_ints (by kernel_rfl) rfl hl1) ?_
      refine And.intro (by exact wr _ (by omega) (by omega)) ?_
      refine And.intro (by first | with_reducible assumption | omega | assumption) ?_
      refine And.intro (by first | with_reducible assumption | omega | assumption) ?_
      exact ⟨by rw [← hn, ← hp]; try rfl, rfl⟩
  · have hz : ((clV g).length : Int) ≤ j := by omega
    have hj' : j = (clV g).length := by omega
    subst hj'
    refine ⟨[Ans.o (Orc.b false)], fun u => of_eq ((↑(clV g).length : Int) ≤ (↑(clV g).length : Int) ∧ (57 : Nat) = (57 : Nat) ∧ hits [Out.mk Unit (AX.exit (2 : Nat)) [(0 : Nat), (3 : Nat), (4 : Nat)] (fun x => True) (fun x => [ls g r, AV.msl (0 : Nat) (0 : Nat) M M (1 : Nat), I (↑s : Int)]) (fun x => H.mk [ints (mem g M s (clV g).length)] [] []) fun x => []] (AX.exit (2 : Nat)) [AV.sl (ints g) g.length r, u (1 : Nat), u (2 : Nat), AV.msl (0 : Nat) (0 : Nat) M M (1 : Nat), I (↑s : Int), u (5 : Nat), u (6 : Nat), u (7 : Nat), u (8 : Nat), u (9 : Nat), u (10 : Nat), u (11 : Nat), u (12 : Nat), u (13 : Nat), u (14 : Nat), u (15 : Nat), u (16 : Nat), u (17 : Nat), u (18 : Nat), u (19 : Nat), u (20 : Nat), u (21 : Nat), u (22 : Nat), u (23 : Nat), AV.sl (ints (clV g)) (clV g).length (rn (clV g)), I (↑(clV g).length : Int), I (↑(clV g).length : Int), AV.bool false, u (28 : Nat), u (29 : Nat), u (30 : Nat), u (31 : Nat), u (32 : Nat), u (33 : Nat), u (34 : Nat), u (35 : Nat), u (36 : Nat), u (37 : Nat), u (38 : Nat), u (39 : Nat), u (40 : Nat), u (41 : Nat), u (42 : Nat), u (43 : Nat), u (44 : Nat), u (45 : Nat), u (46 : Nat), u (47 : Nat), u (48 : Nat), u (49 : Nat), u (50 : Nat), u (51 : Nat), u (52 : Nat), u (53 : Nat), u (54 : Nat), u (55 : Nat), u (56 : Nat)] (H.mk [ints (mem g M s (clV g).length)] [] [])) (by kernel_rfl) ?_⟩
    refine And.intro (by first | with_reducible assumption | omega | assumption) ?_
    refine And.intro (by first | with_reducible assumption | omega | assumption) ?_
    exact .inl ⟨(), trivial, rfl, rfl, rfl⟩
abbrev o42 (g : List Int) (r : Room) (M : Nat) : List Out := [.mk Unit (.exit 0) [0, 3] (fun _ => True) (fun _ => [ls g r, .msl 0 0 M M 1]) (fun _ => ⟨[ints (fil (VI g) i0 M M)], [], []⟩) (fun _ => [])]
theorem simp42 : allSimpleM none1 (loopAt Tryd.f42 0) = true := by kernel_rfl
theorem lp42 (g : List Int) (r : Room) (hg : Gr g) (hr : rok g r) (M : Nat) (hM : 2 ^ g.length = M) :
    LoopS (En6 [c41.to]) (loopAt Tryd.f42 0) 57 [0, 3, 4] [ls g r, .msl 0 0 M M 1, I 1] ⟨[ints (List.replicate M i0)], [], []⟩ (o42 g r M) := by
  have hR : Rests (En6 [c41.to]) none1 := rests mixed (.pure _ .nil)
  have g6 := hg.1.2
  have h64 := pw_64 g6
  have p1 : 1 ≤ 2 ^ g.length := Nat.one_le_two_pow
  have ev0 := pw_shl (n := g.length) (by omega)
  have p41 : Gr g ∧ rok g r := ⟨hg, hr⟩
  rw [← fil_one g]
  rw [hM] at h64 p1 ev0
  refine loop_s hR simp42 none (by intro _ h; cases h) (fun j vs h => h = ⟨[ints (fil (VI g) i0 M (j + 1))], [], []⟩ ∧ vs = [ls g r, .msl 0 0 M M 1, I ((j + 1 : Nat) : Int)] ∧ j + 1 ≤ M) 64 ⟨rfl, rfl, p1⟩ (by intro _ h; cases h) ?_
  rintro j vs h hj ⟨rfl, rfl, hle⟩
  by_cases hz : ((j + 1 : Nat) : Int) < (M : Int)
  · have hlt : j + 1 < M := by omega
    have hs : j + 1 < 64 := by omega
    have ev1 : IntKind.i64.wrap (((j + 1 : Nat) : Int) + 1) = ((j + 1 + 1 : Nat) : Int) := by
      have : ((j + 1 : Nat) : Int) + 1 = ((j + 1 + 1 : Nat) : Int) := by omega
      rw [this]; exact i_wrap (by omega)
    have lpi := lp42i g r hg hr M (j + 1) h64 hM hlt
    have hn := mem_all g (L := M) (show j + 1 ≠ 0 by omega) hlt
    have hl1 : j + 1 < (fil (VI g) i0 M (j + 1)).length := by rw [fil_len]; exact hlt
    have hj64 : j < 64 := by omega
    refine ⟨[Ans.o (Orc.val (14 : Nat) (I (↑M : Int)) (H.mk [ints (fil (VI g) i0 M (j + (1 : Nat)))] [] [])), Ans.o (Orc.b true), Ans.o (Orc.val (22 : Nat) (AV.ptr (0 : Nat) (j + (1 : Nat))) (H.mk [ints (fil (VI g) i0 M (j + (1 : Nat)))] [] [])), Ans.o (Orc.val (9999 : Nat) (AV.tup []) (H.mk [ints ((fil (VI g) i0 M (j + (1 : Nat))).set (j + (1 : Nat)) (↑g.length : Int))] [] [])), Ans.o (Orc.val (24 : Nat) (AV.sl (ints (clV g)) (clV g).length (rn (clV g))) (H.mk [ints ((fil (VI g) i0 M (j + (1 : Nat))).set (j + (1 : Nat)) (↑g.length : Int))] [] [])), Ans.loop [(0 : Nat), (3 : Nat), (4 : Nat), (24 : Nat), (25 : Nat), (26 : Nat)] [Out.mk Unit (AX.exit (2 : Nat)) [(0 : Nat), (3 : Nat), (4 : Nat)] (fun x => True) (fun x => [ls g r, AV.msl (0 : Nat) (0 : Nat) M M (1 : Nat), I (↑(j + (1 : Nat)) : Int)]) (fun x => H.mk [ints (mem g M (j + (1 : Nat)) (clV g).length)] [] []) fun y => [Ans.o (Orc.val (17 : Nat) (I (↑(j + (1 : Nat) + (1 : Nat)) : Int)) (H.mk [ints (mem g M (j + (1 : Nat)) (clV g).length)] [] []))]]], fun u => of_eq (aBin Tryd.prog BinOp.shl (3 : Nat) (I (1 : Int)) (I (↑g.length : Int)) = some (I (↑M : Int)) ∧ (↑(j + (1 : Nat)) : Int) < (↑M : Int) ∧ aIndexAddr Tryd.prog (22 : Nat) (AV.msl (0 : Nat) (0 : Nat) M M (1 : Nat)) (I (↑(j + (1 : Nat)) : Int)) = some (AV.ptr (0 : Nat) (j + (1 : Nat))) ∧ aStore Tryd.prog H.nil.base (3 : Nat) (AV.ptr (0 : Nat) (j + (1 : Nat))) (I (↑g.length : Int)) (H.mk [ints (fil (VI g) i0 M (j + (1 : Nat)))] [] []) = some (H.mk [ints ((fil (VI g) i0 M (j + (1 : Nat))).set (j + (1 : Nat)) (↑g.length : Int))] [] []) ∧ aCall (Sof [c41.to]) (AV.fn (Fn.func (41 : Nat)) [] []) [AV.sl (ints g) g.length r] (H.mk [ints ((fil (VI g) i0 M (j + (1 : Nat))).set (j + (1 : Nat)) (↑g.length : Int))] [] []) = some (AV.sl (ints (clV g)) (clV g).length (rn (clV g)), H.mk [ints ((fil (VI g) i0 M (j + (1 : Nat))).set (j + (1 : Nat)) (↑g.length : Int))] [] []) ∧ LoopS (Env.mk Tryd.prog (Sof [c41.to]) (Pof (P := Tryd.prog) []) H.nil.base (300 : Nat)) (loopAt Tryd.f42 (1 : Nat)) (57 : Nat) [(0 : Nat), (3 : Nat), (4 : Nat), (24 : Nat), (25 : Nat), (26 : Nat)] [AV.sl (ints g) g.length r, AV.msl (0 : Nat) (0 : Nat) M M (1 : Nat), I (↑(j + (1 : Nat)) : Int), AV.sl (ints (clV g)) (clV g).length (rn (clV g)), I (↑(clV g).length : Int), I (0 : Int)] (H.mk [ints ((fil (VI g) i0 M (j + (1 : Nat))).set (j + (1 : Nat)) (↑g.length : Int))] [] []) [Out.mk Unit (AX.exit (2 : Nat)) [(0 : Nat), (3 : Nat), (4 : Nat)] (fun x => True) (fun x => [ls g r, AV.msl (0 : Nat) (0 : Nat) M M (1 : Nat), I (↑(j + (1 : Nat)) : Int)]) (fun x => H.mk [ints (mem g M (j + (1 : Nat)) (clV g).length)] [] []) fun y => [Ans.o (Orc.val (17 : Nat) (I (↑(j + (1 : Nat) + (1 : Nat)) : Int)) (H.mk [ints (mem g M (j + (1 : Nat)) (clV g).length)] [] []))]] ∧ (∀ (y : Unit), True → ∀ (u : Nat → AV), aBin Tryd.prog BinOp.add (3 : Nat) (I (↑(j + (1 : Nat)) : Int)) (I (1 : Int)) = some (I (↑(j + (1 : Nat) + (1 : Nat)) : Int)) ∧ (57 : Nat) = (57 : Nat) ∧ j < (64 : Nat) ∧ Keep (H.mk [ints (mem g M (j + (1 : Nat)) (clV g).length)] [] [] = H.mk [ints (fil (VI g) i0 M (j + (1 : Nat) + (1 : Nat)))] [] [] ∧ [AV.sl (ints g) g.length r, AV.msl (0 : Nat) (0 : Nat) M M (1 : Nat), I (↑(j + (1 : Nat) + (1 : Nat)) : Int)] = [AV.sl (ints g) g.length r, AV.msl (0 : Nat) (0 : Nat) M M (1 : Nat), I (↑(j + (1 : Nat) + (1 : Nat)) : Int)] ∧ j + (1 : Nat) + (1 : Nat) ≤ M)) ∧ True) (by kernel_rfl) ?_⟩
    refine And.intro (by first | exact told_shl (by first | exact Int.natCast_nonneg _ | omega) (by with_reducible assumption) | exact told_shl (by omega) rfl) ?_
    refine And.intro (by first | with_reducible assumption | omega | assumption) ?_
    refine And.intro (by exact ixm0 (by kernel_rfl) hlt) ?_
    refine And.intro (by exact st_ints (by kernel_rfl) rfl hl1) ?_
    refine And.intro (by exact acall_hit (c := c41.to) (g, r) _ rfl p41) ?_
    refine And.intro (by exact lpi) ?_
    refine And.intro ?_ ?_
    · skip
      intro y
      intro w1
      intro u
      refine And.intro (by exact told_add (by with_reducible assumption)) ?_
      refine And.intro (by first | with_reducible assumption | omega | assumption) ?_
      refine And.intro (by first | with_reducible assumption | omega | assumption) ?_
      exact ⟨by rw [hn], rfl, hlt⟩
    · skip
      trivial
  · have e : j + 1 = M := by omega
    have hz : (M : Int) ≤ ((j + 1 : Nat) : Int) := by omega
    rw [e] at hz ⊢
    refine ⟨[Ans.o (Orc.val (14 : Nat) (I (↑M : Int)) (H.mk [ints (fil (VI g) i0 M M)] [] [])), Ans.o (Orc.b false)], fun u => of_eq (aBin Tryd.prog BinOp.shl (3 : Nat) (I (1 : Int)) (I (↑g.length : Int)) = some (I (↑M : Int)) ∧ (↑M : Int) ≤ (↑M : Int) ∧ (57 : Nat) = (57 : Nat) ∧ hits [Out.mk Unit (AX.exit (0 : Nat)) [(0 : Nat), (3 : Nat)] (fun x => True) (fun x => [ls g r, AV.msl (0 : Nat) (0 : Nat) M M (1 : Nat)]) (fun x => H.mk [ints (fil (VI g) i0 M M)] [] []) fun x => []] (AX.exit (0 : Nat)) [AV.sl (ints g) g.length r, u (1 : Nat), u (2 : Nat), AV.msl (0 : Nat) (0 : Nat) M M (1 : Nat), I (↑M : Int), u (5 : Nat), u (6 : Nat), u (7 : Nat), u (8 : Nat), u (9 : Nat), u (10 : Nat), I (↑M : Int), AV.sl (ints g) g.length r, I (↑g.length : Int), I (↑M : Int), AV.bool false, u (16 : Nat), u (17 : Nat), u (18 : Nat), u (19 : Nat), u (20 : Nat), u (21 : Nat), u (22 : Nat), u (23 : Nat), u (24 : Nat), u (25 : Nat), u (26 : Nat), u (27 : Nat), u (28 : Nat), u (29 : Nat), u (30 : Nat), u (31 : Nat), u (32 : Nat), u (33 : Nat), u (34 : Nat), u (35 : Nat), u (36 : Nat), u (37 : Nat), u (38 : Nat), u (39 : Nat), u (40 : Nat), u (41 : Nat), u (42 : Nat), u (43 : Nat), u (44 : Nat), u (45 : Nat), u (46 : Nat), u (47 : Nat), u (48 : Nat), u (49 : Nat), u (50 : Nat), u (51 : Nat), u (52 : Nat), u (53 : Nat), u (54 : Nat), u (55 : Nat), u (56 : Nat)] (H.mk [ints (fil (VI g) i0 M M)] [] [])) (by kernel_rfl) ?_⟩
    refine And.intro (by first | exact told_shl (by first | exact Int.natCast_nonneg _ | omega) (by with_reducible assumption) | exact told_shl (by omega) rfl) ?_
    refine And.intro (by first | with_reducible assumption | omega | assumption) ?_
    refine And.intro (by first | with_reducible assumption | omega | assumption) ?_
    exact .inl ⟨(), trivial, rfl, rfl, rfl⟩
theorem ok42 : FokM Tryd.prog none1 42 Tryd.f42 := ⟨mixed, by kernel_rfl, by kernel_rfl, by kernel_rfl, by kernel_rfl⟩
theorem r42 (g : List Int) (r : Room) (hp : Gr g ∧ rok g r) : Body ⟨Tryd.prog, Sof (P := Tryd.prog) [c41.to], Pof (P := Tryd.prog) [], H.nil.base, 300⟩ none1 Tryd.f42 [ls g r] .nil (I (cvA g : Nat), .nil) := by
  obtain ⟨hg, hr⟩ := hp
  have g6 := hg.1.2
  have h64 := pw_64 g6
  have p1 : 1 ≤ 2 ^ g.length := Nat.one_le_two_pow
  have ev0 := pw_shl (n := g.length) (by omega)
  have lp := lp42 g r hg hr _ rfl
  have ev1 : IntKind.i64.wrap (((2 ^ g.length : Nat) : Int) - 1) = ((2 ^ g.length - 1 : Nat) : Int) := by
    have : ((2 ^ g.length : Nat) : Int) - 1 = ((2 ^ g.length - 1 : Nat) : Int) := by omega
    rw [this]; exact i_wrap (by omega)
  have hV := fil_at g (L := 2 ^ g.length) (M := 2 ^ g.length) (m := 2 ^ g.length - 1) (by omega) (by omega)
  have hl1 : 2 ^ g.length - 1 < (fil (VI g) i0 (2 ^ g.length) (2 ^ g.length)).length := by rw [fil_len]; omega
  refine body_s ([Ans.o (Orc.val (9 : Nat) (I (↑((2 : Nat) ^ g.length) : Int)) (H.mk [] [] [])), Ans.o (Orc.val (10 : Nat) (AV.msl (0 : Nat) (0 : Nat) ((2 : Nat) ^ g.length) ((2 : Nat) ^ g.length) (1 : Nat)) (H.mk [ints (List.replicate ((2 : Nat) ^ g.length) i0)] [] [])), Ans.loop [(0 : Nat), (3 : Nat), (4 : Nat)] [Out.mk Unit (AX.exit (0 : Nat)) [(0 : Nat), (3 : Nat)] (fun x => True) (fun x => [ls g r, AV.msl (0 : Nat) (0 : Nat) ((2 : Nat) ^ g.length) ((2 : Nat) ^ g.length) (1 : Nat)]) (fun x => H.mk [ints (fil (VI g) i0 ((2 : Nat) ^ g.length) ((2 : Nat) ^ g.length))] [] []) fun y => [Ans.o (Orc.val (53 : Nat) (I (↑((2 : Nat) ^ g.length) : Int)) (H.mk [ints (fil (VI g) i0 ((2 : Nat) ^ g.length) ((2 : Nat) ^ g.length))] [] [])), Ans.o (Orc.val (54 : Nat) (I (↑((2 : Nat) ^ g.length - (1 : Nat)) : Int)) (H.mk [ints (fil (VI g) i0 ((2 : Nat) ^ g.length) ((2 : Nat) ^ g.length))] [] [])), Ans.o (Orc.val (55 : Nat) (AV.ptr (0 : Nat) ((2 : Nat) ^ g.length - (1 : Nat))) (H.mk [ints (fil (VI g) i0 ((2 : Nat) ^ g.length) ((2 : Nat) ^ g.length))] [] [])), Ans.o (Orc.val (56 : Nat) (I ((fil (VI g) i0 ((2 : Nat) ^ g.length) ((2 : Nat) ^ g.length)).getD ((2 : Nat) ^ g.length - (1 : Nat)) i0)) (H.mk [ints (fil (VI g) i0 ((2 : Nat) ^ g.length) ((2 : Nat) ^ g.length))] [] []))]]]) (aBin Tryd.prog BinOp.shl (3 : Nat) (I (1 : Int)) (I (↑g.length : Int)) = some (I (↑((2 : Nat) ^ g.length) : Int)) ∧ aMake Tryd.prog (22 : Nat) (↑((2 : Nat) ^ g.length) : Int) (↑((2 : Nat) ^ g.length) : Int) (H.mk [] [] []) = some (AV.msl (0 : Nat) (0 : Nat) ((2 : Nat) ^ g.length) ((2 : Nat) ^ g.length) (1 : Nat), H.mk [ints (List.replicate ((2 : Nat) ^ g.length) i0)] [] []) ∧ LoopS (Env.mk Tryd.prog (Sof [c41.to]) (Pof (P := Tryd.prog) []) H.nil.base (300 : Nat)) (loopAt Tryd.f42 (0 : Nat)) (57 : Nat) [(0 : Nat), (3 : Nat), (4 : Nat)] [AV.sl (ints g) g.length r, AV.msl (0 : Nat) (0 : Nat) ((2 : Nat) ^ g.length) ((2 : Nat) ^ g.length) (1 : Nat), I (1 : Int)] (H.mk [ints (List.replicate ((2 : Nat) ^ g.length) i0)] [] []) [Out.mk Unit (AX.exit (0 : Nat)) [(0 : Nat), (3 : Nat)] (fun x => True) (fun x => [ls g r, AV.msl (0 : Nat) (0 : Nat) ((2 : Nat) ^ g.length) ((2 : Nat) ^ g.length) (1 : Nat)]) (fun x => H.mk [ints (fil (VI g) i0 ((2 : Nat) ^ g.length) ((2 : Nat) ^ g.length))] [] []) fun y => [Ans.o (Orc.val (53 : Nat) (I (↑((2 : Nat) ^ g.length) : Int)) (H.mk [ints (fil (VI g) i0 ((2 : Nat) ^ g.length) ((2 : Nat) ^ g.length))] [] [])), Ans.o (Orc.val (54 : Nat) (I (↑((2 : Nat) ^ g.length - (1 : Nat)) : Int)) (H.mk [ints (fil (VI g) i0 ((2 : Nat) ^ g.length) ((2 : Nat) ^ g.length))] [] [])), Ans.o (Orc.val (55 : Nat) (AV.ptr (0 : Nat) ((2 : Nat) ^ g.length - (1 : Nat))) (H.mk [ints (fil (VI g) i0 ((2 : Nat) ^ g.length) ((2 : Nat) ^ g.length))] [] [])), Ans.o (Orc.val (56 : Nat) (I ((fil (VI g) i0 ((2 : Nat) ^ g.length) ((2 : Nat) ^ g.length)).getD ((2 : Nat) ^ g.length - (1 : Nat)) i0)) (H.mk [ints (fil (VI g) i0 ((2 : Nat) ^ g.length) ((2 : Nat) ^ g.length))] [] []))]] ∧ (∀ (y : Unit), True → ∀ (u : Nat → AV), aBin Tryd.prog BinOp.shl (3 : Nat) (I (1 : Int)) (I (↑g.length : Int)) = some (I (↑((2 : Nat) ^ g.length) : Int)) ∧ aBin Tryd.prog BinOp.sub (3 : Nat) (I (↑((2 : Nat) ^ g.length) : Int)) (I (1 : Int)) = some (I (↑((2 : Nat) ^ g.length - (1 : Nat)) : Int)) ∧ aIndexAddr Tryd.prog (22 : Nat) (AV.msl (0 : Nat) (0 : Nat) ((2 : Nat) ^ g.length) ((2 : Nat) ^ g.length) (1 : Nat)) (I (↑((2 : Nat) ^ g.length - (1 : Nat)) : Int)) = some (AV.ptr (0 : Nat) ((2 : Nat) ^ g.length - (1 : Nat))) ∧ aLoad Tryd.prog (3 : Nat) (List.drop ((2 : Nat) ^ g.length - (1 : Nat)) (ints (fil (VI g) i0 ((2 : Nat) ^ g.length) ((2 : Nat) ^ g.length)))) = some (I ((fil (VI g) i0 ((2 : Nat) ^ g.length) ((2 : Nat) ^ g.length)).getD ((2 : Nat) ^ g.length - (1 : Nat)) i0)) ∧ (I ((fil (VI g) i0 ((2 : Nat) ^ g.length) ((2 : Nat) ^ g.length)).getD ((2 : Nat) ^ g.length - (1 : Nat)) i0), H.mk [] [] []) = (I (↑(cvA g) : Int), H.mk [] [] [])) ∧ True) (by kernel_rfl) ?_
  refine And.intro (by first | exact told_shl (by first | exact Int.natCast_nonneg _ | omega) (by with_reducible assumption) | exact told_shl (by omega) rfl) ?_
  refine And.intro (by exact mk_ints (by kernel_rfl) (by omega)) ?_
  refine And.intro (by exact lp) ?_
  refine And.intro ?_ ?_
  · skip
    intro y
    intro w1
    intro u
    refine And.intro (by first | exact told_shl (by first | exact Int.natCast_nonneg _ | omega) (by with_reducible assumption) | exact told_shl (by omega) rfl) ?_
    refine And.intro (by exact told_sub (by with_reducible assumption)) ?_
    refine And.intro (by exact ixm0 (by kernel_rfl) (by omega)) ?_
    refine And.intro (by exact ldm_ints (by kernel_rfl) (by kernel_rfl) hl1) ?_
    exact congrArg (fun z => (I z, H.nil)) hV
  · skip
    trivial
noncomputable def c42 : PCtr Tryd.prog := sctr ok42 (X := List Int × Room) (fun x => [ls x.1 x.2]) (fun x => Gr x.1 ∧ rok x.1 x.2) (fun x => I (cvA x.1 : Nat)) (by intro x y e _ _; simp at e; simp [e]) (fun x => by simp [AV.bnds, AV.bnd, AV.wk, rm_wk_bnd]) (fun x => by first | rfl | (simp [AV.bnd, rm_wk_bnd]; done)  | (simp [AV.bnd, AV.bnds, rm_wk_bnd]; done) | simp [AV.bnd, AV.bnds, Room.bnd, rm_wk_bnd]) (fun x hx => ⟨_, _, _, .pure c41 (.nil), r42 (x.1) (x.2).wk (by first | exact hx | (simp only [rok_wk]; exact hx) | (simp only [rok_wk, lst_wk]; exact hx) | (simp only [rok_wk, lst_wk, lsn_wk]; exact hx))⟩)
theorem ok6 : FokM Tryd.prog none1 6 Tryd.f6 := ⟨mixed, by kernel_rfl, by kernel_rfl, by kernel_rfl, by kernel_rfl⟩
theorem r6b (g : List Int) (q : RK) (hg : pl g q) (h : ¬ Gr g) : Body (En6 [c19.to, c39b.to, c40b.to, c29.to, c23.to]) none1 Tryd.f6 [ls g (rr q)] .nil (.bool true, .nil) := by
  have p19 := pl_19 hg
  have p29 : lim g.length ∧ rok g (rr q) := ⟨hg.1, pl_rok hg⟩
  have p39 : (lim (cut g).length ∧ rok (cut g) (rcl (rr q))) ∧ ¬ Gr (cut g) := ⟨pl_c hg, fun c => h (cut_gr3.1 c)⟩
  have b1 := grB_f h
  refine body_s ([Ans.o (Orc.val (9 : Nat) (AV.sl (ints (cut g)) (cut g).length (rcl (rr q))) (H.mk [] [] [])), Ans.o (Orc.val (10 : Nat) (AV.tup [AV.sl [] (0 : Nat) Room.nil, I (2 : Int)]) (H.mk [] [] [])), Ans.o (Orc.val (15 : Nat) (AV.sl (ints (cut g)) (cut g).length (rcl (rr q))) (H.mk [] [] [])), Ans.o (Orc.val (16 : Nat) (AV.tup [I (0 : Int), I (2 : Int)]) (H.mk [] [] [])), Ans.o (Orc.val (20 : Nat) (AV.bool false) (H.mk [] [] [])), Ans.o Orc.dflt, Ans.o Orc.dflt, Ans.o Orc.dflt, Ans.o Orc.dflt, Ans.o (Orc.val (38 : Nat) (AV.bool true) (H.mk [] [] []))]) (aCall (Sof [c19.to, c39b.to, c40b.to, c29.to, c23.to]) (AV.fn (Fn.func (19 : Nat)) [] []) [AV.sl (ints g) g.length (rr q)] (H.mk [] [] []) = some (AV.sl (ints (cut g)) (cut g).length (rcl (rr q)), H.mk [] [] []) ∧ aCall (Sof [c19.to, c39b.to, c40b.to, c29.to, c23.to]) (AV.fn (Fn.func (39 : Nat)) [] []) [AV.sl (ints (cut g)) (cut g).length (rcl (rr q))] (H.mk [] [] []) = some (AV.tup [AV.sl [] (0 : Nat) Room.nil, I (2 : Int)], H.mk [] [] []) ∧ aCall (Sof [c19.to, c39b.to, c40b.to, c29.to, c23.to]) (AV.fn (Fn.func (19 : Nat)) [] []) [AV.sl (ints g) g.length (rr q)] (H.mk [] [] []) = some (AV.sl (ints (cut g)) (cut g).length (rcl (rr q)), H.mk [] [] []) ∧ aCall (Sof [c19.to, c39b.to, c40b.to, c29.to, c23.to]) (AV.fn (Fn.func (40 : Nat)) [] []) [AV.sl (ints (cut g)) (cut g).length (rcl (rr q))] (H.mk [] [] []) = some (AV.tup [I (0 : Int), I (2 : Int)], H.mk [] [] []) ∧ aCall (Sof [c19.to, c39b.to, c40b.to, c29.to, c23.to]) (AV.fn (Fn.func (29 : Nat)) [] []) [AV.sl (ints g) g.length (rr q)] (H.mk [] [] []) = some (AV.bool false, H.mk [] [] []) ∧ aCall (Sof [c19.to, c39b.to, c40b.to, c29.to, c23.to]) (AV.fn (Fn.func (23 : Nat)) [] []) [] (H.mk [] [] []) = some (AV.bool true, H.mk [] [] []) ∧ (AV.bool true, H.mk [] [] []) = (AV.bool true, H.mk [] [] [])) (by kernel_rfl) ?_
  refine And.intro (by exact acall_hit (c := c19.to) (g, rr q) _ rfl p19) ?_
  refine And.intro (by exact acall_hit (c := c39b.to) (cut g, rcl (rr q)) _ rfl p39) ?_
  refine And.intro (by exact acall_hit (c := c19.to) (g, rr q) _ rfl p19) ?_
  refine And.intro (by exact acall_hit (c := c40b.to) (cut g, rcl (rr q)) _ rfl p39) ?_
  refine And.intro (by exact acall_b (acall_hit (c := c29.to) (g, rr q) _ rfl p29) b1) ?_
  refine And.intro (by exact acall_hit (c := c23.to) () _ rfl trivial) ?_
  first | with_reducible rfl | (refine bleaf_t ?_; omega) | (refine bleaf_f ?_; omega) | (refine ileaf ?_; omega) | rfl | (exfalso; omega)
theorem r6g (g : List Int) (q : RK) (hg : pl g q) (h : Gr g) : Body (En6 [c19.to, c39g.to, c40g.to, c29.to, c41.to, c42.to, c24.to, c23.to]) none1 Tryd.f6 [ls g (rr q)] .nil (.bool true, .nil) := by
  have p19 := pl_19 hg
  have p29 : lim g.length ∧ rok g (rr q) := ⟨hg.1, pl_rok hg⟩
  have hc := cut_gr3.2 h
  have p39 : (lim (cut g).length ∧ rok (cut g) (rcl (rr q))) ∧ Gr (cut g) := ⟨pl_c hg, hc⟩
  have p41 : Gr g ∧ rok g (rr q) := ⟨h, p29.2⟩
  have b1 := grB_t h
  have eg := cut_g3 hc.1
  have e1 : ((cvA (cut g) : Nat) : Int) = ((cvA g : Nat) : Int) := by rw [eg]
  have hl : (clV (cut g)).length ≤ 2 ^ (cut g).length := clL_len _ _
  have h64 := pw_64 hc.1.2
  have p24 : clV (cut g) = clV g ∧ lim (clV (cut g)).length ∧ rok (clV (cut g)) (rn (clV (cut g))) ∧ rok (clV g) (rn (clV g)) := ⟨by rw [eg], by simp only [lim]; omega, rn_rok _, rn_rok _⟩
  refine body_s ([Ans.o (Orc.val (9 : Nat) (AV.sl (ints (cut g)) (cut g).length (rcl (rr q))) (H.mk [] [] [])), Ans.o (Orc.val (10 : Nat) (AV.tup [AV.sl (ints (clV (cut g))) (clV (cut g)).length (rn (clV (cut g))), I (0 : Int)]) (H.mk [] [] [])), Ans.o (Orc.val (15 : Nat) (AV.sl (ints (cut g)) (cut g).length (rcl (rr q))) (H.mk [] [] [])), Ans.o (Orc.val (16 : Nat) (AV.tup [I (↑(cvA (cut g)) : Int), I (0 : Int)]) (H.mk [] [] [])), Ans.o (Orc.val (20 : Nat) (AV.bool true) (H.mk [] [] [])), Ans.o (Orc.val (42 : Nat) (AV.sl (ints (clV g)) (clV g).length (rn (clV g))) (H.mk [] [] [])), Ans.o (Orc.val (43 : Nat) (AV.bool true) (H.mk [] [] [])), Ans.o (Orc.val (47 : Nat) (I (↑(cvA g) : Int)) (H.mk [] [] [])), Ans.o (Orc.b true), Ans.o Orc.dflt, Ans.o Orc.dflt, Ans.o (Orc.val (59 : Nat) (AV.bool true) (H.mk [] [] []))]) (aCall (Sof [c19.to, c39g.to, c40g.to, c29.to, c41.to, c42.to, c24.to, c23.to]) (AV.fn (Fn.func (19 : Nat)) [] []) [AV.sl (ints g) g.length (rr q)] (H.mk [] [] []) = some (AV.sl (ints (cut g)) (cut g).length (rcl (rr q)), H.mk [] [] []) ∧ aCall (Sof [c19.to, c39g.to, c40g.to, c29.to, c41.to, c42.to, c24.to, c23.to]) (AV.fn (Fn.func (39 : Nat)) [] []) [AV.sl (ints (cut g)) (cut g).length (rcl (rr q))] (H.mk [] [] []) = some (AV.tup [AV.sl (ints (clV (cut g))) (clV (cut g)).length (rn (clV (cut g))), I (0 : Int)], H.mk [] [] []) ∧ aCall (Sof [c19.to, c39g.to, c40g.to, c29.to, c41.to, c42.to, c24.to, c23.to]) (AV.fn (Fn.func (19 : Nat)) [] []) [AV.sl (ints g) g.length (rr q)] (H.mk [] [] []) = some (AV.sl (ints (cut g)) (cut g).length (rcl (rr q)), H.mk [] [] []) ∧ aCall (Sof [c19.to, c39g.to, c40g.to, c29.to, c41.to, c42.to, c24.to, c23.to]) (AV.fn (Fn.func (40 : Nat)) [] []) [AV.sl (ints (cut g)) (cut g).length (rcl (rr q))] (H.mk [] [] []) = some (AV.tup [I (↑(cvA (cut g)) : Int), I (0 : Int)], H.mk [] [] []) ∧ aCall (Sof [c19.to, c39g.to, c40g.to, c29.to, c41.to, c42.to, c24.to, c23.to]) (AV.fn (Fn.func (29 : Nat)) [] []) [AV.sl (ints g) g.length (rr q)] (H.mk [] [] []) = some (AV.bool true, H.mk [] [] []) ∧ aCall (Sof [c19.to, c39g.to, c40g.to, c29.to, c41.to, c42.to, c24.to, c23.to]) (AV.fn (Fn.func (41 : Nat)) [] []) [AV.sl (ints g) g.length (rr q)] (H.mk [] [] []) = some (AV.sl (ints (clV g)) (clV g).length (rn (clV g)), H.mk [] [] []) ∧ aCall (Sof [c19.to, c39g.to, c40g.to, c29.to, c41.to, c42.to, c24.to, c23.to]) (AV.fn (Fn.func (24 : Nat)) [] []) [AV.sl (ints (clV (cut g))) (clV (cut g)).length (rn (clV (cut g))), AV.sl (ints (clV g)) (clV g).length (rn (clV g))] (H.mk [] [] []) = some (AV.bool true, H.mk [] [] []) ∧ aCall (Sof [c19.to, c39g.to, c40g.to, c29.to, c41.to, c42.to, c24.to, c23.to]) (AV.fn (Fn.func (42 : Nat)) [] []) [AV.sl (ints g) g.length (rr q)] (H.mk [] [] []) = some (I (↑(cvA g) : Int), H.mk [] [] []) ∧ (↑(cvA (cut g)) : Int) = (↑(cvA g) : Int) ∧ aCall (Sof [c19.to, c39g.to, c40g.to, c29.to, c41.to, c42.to, c24.to, c23.to]) (AV.fn (Fn.func (23 : Nat)) [] []) [] (H.mk [] [] []) = some (AV.bool true, H.mk [] [] []) ∧ (AV.bool true, H.mk [] [] []) = (AV.bool true, H.mk [] [] [])) (by kernel_rfl) ?_
  refine And.intro (by exact acall_hit (c := c19.to) (g, rr q) _ rfl p19) ?_
  refine And.intro (by exact acall_hit (c := c39g.to) (cut g, rcl (rr q)) _ rfl p39) ?_
  refine And.intro (by exact acall_hit (c := c19.to) (g, rr q) _ rfl p19) ?_
  refine And.intro (by exact acall_hit (c := c40g.to) (cut g, rcl (rr q)) _ rfl p39) ?_
  refine And.intro (by exact acall_b (acall_hit (c := c29.to) (g, rr q) _ rfl p29) b1) ?_
  refine And.intro (by exact acall_hit (c := c41.to) (g, rr q) _ rfl p41) ?_
  refine And.intro (by exact acall_hit (c := c24.to) (clV (cut g), rn (clV (cut g)), clV g, rn (clV g)) _ rfl p24) ?_
  refine And.intro (by exact acall_hit (c := c42.to) (g, rr q) _ rfl p41) ?_
  refine And.intro (by first | with_reducible assumption | omega | assumption) ?_
  refine And.intro (by exact acall_hit (c := c23.to) () _ rfl trivial) ?_
  first | with_reducible rfl | (refine bleaf_t ?_; omega) | (refine bleaf_f ?_; omega) | (refine ileaf ?_; omega) | rfl | (exfalso; omega)
theorem cliques_ok (g : List Int) (q : RK) (h1 : lim g.length) (h2 : q.mt = true → g = []) : CallOk Tryd.prog 6 [ls g (rr q)] .nil (.bool true) .nil := by
  by_cases h : Gr g
  · exact (r6g g q ⟨h1, h2⟩ h).run ok6 (.pure _ (.pure _ (.pure _ (.pure _ (.pure _ (.pure _ (.pure _ (.pure _ .nil)))))))) rfl
  · exact (r6b g q ⟨h1, h2⟩ h).run ok6 (.pure _ (.pure _ (.pure _ (.pure _ (.pure _ .nil))))) rfl
end Go.Proofs.Sur
