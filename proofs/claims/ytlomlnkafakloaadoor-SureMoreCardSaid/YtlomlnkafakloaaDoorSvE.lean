/- Layer 5: how many sets of neighbours have all signals. -/
import Derived.Test.YtlomlnkafakloaaDoorSvD
import Derived.KernelRfl
set_option linter.unusedSimpArgs false
set_option linter.unusedVariables false
set_option linter.unnecessarySimpa false
set_option maxHeartbeats 4000000
set_option maxRecDepth 100000
namespace Go.Proofs.Sur
open Go Go.VM

/-- one set of neighbours more to choose from -/
def cvT (t : Nat → Nat) (s : Nat) (b : Nat) (c : Int) : Nat := if andn s c.toNat < s then min b (1 + t (andn s c.toNat)) else b
def tb (g : List Int) : Nat → List Nat
  | 0 => []
  | s + 1 => tb g s ++ [if s = 0 then 0 else (clV g).foldl (cvT (fun i => (tb g s).getD i 0) s) g.length]
def V (g : List Int) (s : Nat) : Nat := (tb g (s + 1)).getD s 0
theorem tb_len (g : List Int) : ∀ s, (tb g s).length = s
  | 0 => rfl
  | s + 1 => by rw [tb, List.length_append, tb_len g s]; rfl
theorem tb_get (g : List Int) : ∀ (s i : Nat), i < s → (tb g s).getD i 0 = V g i
  | 0, _, h => absurd h (Nat.not_lt_zero _)
  | s + 1, i, h => by
    rcases Nat.lt_or_ge i s with h1 | h1
    · rw [← tb_get g s i h1, tb, List.getD_eq_getElem?_getD, List.getElem?_append_left (by rw [tb_len]; exact h1), ← List.getD_eq_getElem?_getD]
    · have : i = s := by omega
      subst this; rfl
theorem V_0 (g : List Int) : V g 0 = 0 := rfl
theorem V_eq (g : List Int) {s : Nat} (h : s ≠ 0) : V g s = (clV g).foldl (cvT (V g) s) g.length := by
  have e : V g s = (clV g).foldl (cvT (fun i => (tb g s).getD i 0) s) g.length := by
    rw [V, tb, List.getD_eq_getElem?_getD, List.getElem?_append_right (by rw [tb_len]; exact Nat.le_refl s), tb_len, Nat.sub_self]
    simp [h]
  have f : cvT (fun i => (tb g s).getD i 0) s = cvT (V g) s := by
    funext b c
    simp only [cvT]
    by_cases hc : andn s c.toNat < s
    · rw [if_pos hc, if_pos hc, tb_get g s _ hc]
    · rw [if_neg hc, if_neg hc]
  rw [e, f]
/-- after so many sets of neighbours -/
def pf (g : List Int) (s j : Nat) : Nat := ((clV g).take j).foldl (cvT (V g) s) g.length
theorem pf_suc {g : List Int} {s j : Nat} (h : j < (clV g).length) : pf g s (j + 1) = cvT (V g) s (pf g s j) (at_ (clV g) j) := by
  have e : at_ (clV g) j = (clV g)[j] := by simp [at_, List.getD_eq_getElem?_getD, List.getElem?_eq_getElem h]
  rw [pf, List.take_add_one, List.getElem?_eq_getElem h, e]
  simp only [Option.toList_some, List.foldl_append, List.foldl_cons, List.foldl_nil]
  rfl
theorem cvT_le (t : Nat → Nat) (s b : Nat) (c : Int) : cvT t s b c ≤ b := by simp only [cvT]; split <;> omega
theorem fold_le (t : Nat → Nat) (s : Nat) : ∀ (l : List Int) (b : Nat), l.foldl (cvT t s) b ≤ b
  | [], b => Nat.le_refl b
  | c :: l, b => by rw [List.foldl_cons]; exact Nat.le_trans (fold_le t s l _) (cvT_le t s b c)
theorem pf_le (g : List Int) (s j : Nat) : pf g s j ≤ g.length := fold_le _ _ _ _
theorem V_le (g : List Int) (s : Nat) : V g s ≤ g.length := by
  by_cases h : s = 0
  · subst h; rw [V_0]; omega
  · rw [V_eq g h]; exact fold_le _ _ _ _
theorem pf_all (g : List Int) {s : Nat} (h : s ≠ 0) : pf g s (clV g).length = V g s := by rw [pf, List.take_length, V_eq g h]
theorem mn_nat (a b : Nat) : pick2 false (a : Int) (b : Int) = ((min a b : Nat) : Int) := by
  simp only [pick2, Bool.false_eq_true, if_false]
  split <;> omega
abbrev VI (g : List Int) (i : Nat) : Int := (V g i : Nat)
/-- the numbers under way -/
abbrev mem (g : List Int) (L s j : Nat) : List Int := (fil (VI g) i0 L s).set s (pf g s j : Nat)
theorem mem_len (g : List Int) (L s j : Nat) : (mem g L s j).length = L := by simp [mem]
theorem mem_s (g : List Int) {L s : Nat} (j : Nat) (h : s < L) : at_ (mem g L s j) s = ((pf g s j : Nat) : Int) := by
  simp [at_, mem, List.getD_eq_getElem?_getD, h]
theorem mem_lt (g : List Int) {L s m : Nat} (j : Nat) (h : s < L) (hm : m < s) : at_ (mem g L s j) m = VI g m := by
  have hne : ¬ s = m := by omega
  have hL : m < L := by omega
  simp only [at_, mem]
  rw [List.getD_eq_getElem?_getD, List.getElem?_set_ne hne]
  simp [fil, hL, hm]
theorem andn_all {s c : Nat} (hs : s < 64) (h : ¬ andn s c < s) : andn s c = s := by
  have := andn_le (a := s) (b := c) (by omega)
  omega
/-- what is put where -/
theorem step_ok (g : List Int) {L s j : Nat} (hg : g.length ≤ 6) (hL : s < L) (hs : s < 64) (hj : j < (clV g).length) (m : Nat) (hm : andn s (at_ (clV g) j).toNat = m) :
    IntKind.i64.wrap (1 + at_ (mem g L s j) m) = ((1 + (if m < s then V g m else pf g s j) : Nat) : Int) ∧ pick2 false (at_ (mem g L s j) s) (((1 + (if m < s then V g m else pf g s j) : Nat) : Int)) = ((pf g s (j + 1) : Nat) : Int) := by
  have e : at_ (mem g L s j) m = (((if m < s then V g m else pf g s j) : Nat) : Int) := by
    by_cases h : m < s
    · rw [if_pos h, mem_lt g j hL h]
    · have : m = s := by rw [← hm]; exact andn_all hs (by rw [hm]; exact h)
      rw [if_neg h, this, mem_s g j hL]
  have b1 := V_le g m
  have b2 := pf_le g s j
  constructor
  · rw [e]
    have : (1 : Int) + (((if m < s then V g m else pf g s j) : Nat) : Int) = ((1 + (if m < s then V g m else pf g s j) : Nat) : Int) := by simp
    rw [this]
    exact i_wrap (by split <;> omega)
  · rw [mem_s g j hL, mn_nat, pf_suc hj]
    simp only [cvT, hm]
    by_cases h : m < s
    · rw [if_pos h, if_pos h]
    · rw [if_neg h, if_neg h]; congr 1; omega
theorem mem_next (g : List Int) (L s j : Nat) : (mem g L s j).set s ((pf g s (j + 1) : Nat) : Int) = mem g L s (j + 1) := by
  rw [mem, List.set_set]
abbrev o40i (g : List Int) (r : Room) (s : Nat) : List Out :=
  [.mk Unit (.exit 2) [0, 4, 5, 6] (fun _ => True) (fun _ => [ls g r, ls (clV g) (rn (clV g)), .ptr 0 0, I (s : Int)]) (fun _ => ⟨[ints (mem g 64 s (clV g).length)], [], []⟩) (fun _ => [])]
theorem simp40i : allSimpleM none1 (loopAt Tryd.f40 1) = true := by kernel_rfl
theorem lp40i (g : List Int) (r : Room) (hg : Gr g) (hr : rok g r) (s : Nat) (hs : s < 64) (p68 : Gr g ∧ rok g r) :
    LoopS (En6 [c67.to, c68.to]) (loopAt Tryd.f40 1) 50 [0, 4, 5, 6, 25, 26, 27] [ls g r, ls (clV g) (rn (clV g)), .ptr 0 0, I (s : Int), ls (clV g) (rn (clV g)), I (clV g).length, I 0] ⟨[ints (mem g 64 s 0)], [], []⟩ (o40i g r s) := by
  have hR : Rests (En6 [c67.to, c68.to]) none1 := rests mixed (.pure _ (.pure _ .nil))
  have g6 := hg.1.2
  have h64 := pw_64 g6
  have hll : (clV g).length ≤ 2 ^ g.length := clL_len g _
  refine loop_s hR simp40i none (by intro _ h; cases h) (fun j vs h => h = ⟨[ints (mem g 64 s j)], [], []⟩ ∧ vs = [ls g r, ls (clV g) (rn (clV g)), .ptr 0 0, I (s : Int), ls (clV g) (rn (clV g)), I (clV g).length, I j]) (clV g).length ⟨rfl, rfl⟩ (by intro _ h; cases h) ?_
  rintro j vs h hj ⟨rfl, rfl⟩
  by_cases hz : (j : Int) < (clV g).length
  · have hz' : j < (clV g).length := by omega
    have hr' := rok_idx (rn_rok (clV g)) hz'
    have hc := clV_mem hg.1 (clV_get hz')
    have ev0 := i_andng hs (show 0 ≤ at_ (clV g) j by omega)
    have hmle := andn_le (a := s) (b := (at_ (clV g) j).toNat) (by omega)
    have st := step_ok g (L := 64) g6 hs hs hz' _ rfl
    obtain ⟨ev1, hp⟩ := st
    have hl1 : s < (mem g 64 s j).length := by rw [mem_len]; exact hs
    have hl2 : andn s (at_ (clV g) j).toNat < (mem g 64 s j).length := by rw [mem_len]; omega
    have hn := mem_next g 64 s j
    refine ⟨[Ans.o (Orc.b true), Ans.o (Orc.val 29 (AV.cptr (ints (List.drop j (clV g)))) H.nil), Ans.o (Orc.val 30 (I ((clV g).getD j i0)) H.nil), Ans.o (Orc.val 33 (AV.ptr 0 s) H.nil), Ans.o (Orc.val 34 (I ((mem g (64 : Nat) s j).getD s i0)) H.nil), Ans.o (Orc.val 37 (I (↑(andn s (at_ (clV g) j).toNat) : Int)) H.nil), Ans.o (Orc.val 38 (AV.ptr 0 (andn s (at_ (clV g) j).toNat)) H.nil), Ans.o (Orc.val 39 (I ((mem g (64 : Nat) s j).getD (andn s (at_ (clV g) j).toNat) i0)) H.nil), Ans.o (Orc.val 40 (I (↑((1 : Nat) + if andn s (at_ (clV g) j).toNat < s then V g (andn s (at_ (clV g) j).toNat) else pf g s j) : Int)) H.nil), Ans.o (Orc.val 42 (AV.ptr 0 s) H.nil), Ans.o (Orc.val 9999 (AV.tup []) (H.mk [ints ((mem g (64 : Nat) s j).set s (pick2 false ((mem g (64 : Nat) s j).getD s i0) (↑((1 : Nat) + if andn s (at_ (clV g) j).toNat < s then V g (andn s (at_ (clV g) j).toNat) else pf g s j) : Int)))] [] []))], fun u => of_eq ((↑j : Int) < (↑(clV g).length : Int) ∧ aIndexAddr Tryd.prog (22 : Nat) (AV.sl (ints (clV g)) (clV g).length (rn (clV g))) (I (↑j : Int)) = some (AV.cptr (ints (List.drop j (clV g)))) ∧ aLoad Tryd.prog (3 : Nat) (ints (List.drop j (clV g))) = some (I ((clV g).getD j i0)) ∧ aIndexAddr Tryd.prog (77 : Nat) (AV.ptr 0 0) (I (↑s : Int)) = some (AV.ptr 0 s) ∧ aLoad Tryd.prog (3 : Nat) (List.drop s (ints (mem g (64 : Nat) s j))) = some (I ((mem g (64 : Nat) s j).getD s i0)) ∧ aBin Tryd.prog BinOp.andNot (3 : Nat) (I (↑s : Int)) (I ((clV g).getD j i0)) = some (I (↑(andn s (at_ (clV g) j).toNat) : Int)) ∧ aIndexAddr Tryd.prog (77 : Nat) (AV.ptr 0 0) (I (↑(andn s (at_ (clV g) j).toNat) : Int)) = some (AV.ptr 0 (andn s (at_ (clV g) j).toNat)) ∧ aLoad Tryd.prog (3 : Nat) (List.drop (andn s (at_ (clV g) j).toNat) (ints (mem g (64 : Nat) s j))) = some (I ((mem g (64 : Nat) s j).getD (andn s (at_ (clV g) j).toNat) i0)) ∧ aBin Tryd.prog BinOp.add (3 : Nat) (I 1) (I ((mem g (64 : Nat) s j).getD (andn s (at_ (clV g) j).toNat) i0)) = some (I (↑((1 : Nat) + if andn s (at_ (clV g) j).toNat < s then V g (andn s (at_ (clV g) j).toNat) else pf g s j) : Int)) ∧ aIndexAddr Tryd.prog (77 : Nat) (AV.ptr 0 0) (I (↑s : Int)) = some (AV.ptr 0 s) ∧ aStore Tryd.prog H.nil.base (3 : Nat) (AV.ptr 0 s) (I (pick2 false ((mem g (64 : Nat) s j).getD s i0) (↑((1 : Nat) + if andn s (at_ (clV g) j).toNat < s then V g (andn s (at_ (clV g) j).toNat) else pf g s j) : Int))) (H.mk [ints (mem g (64 : Nat) s j)] [] []) = some (H.mk [ints ((mem g (64 : Nat) s j).set s (pick2 false ((mem g (64 : Nat) s j).getD s i0) (↑((1 : Nat) + if andn s (at_ (clV g) j).toNat < s then V g (andn s (at_ (clV g) j).toNat) else pf g s j) : Int)))] [] []) ∧ IntKind.i64.wrap ((↑j : Int) + (1 : Int)) = (↑j : Int) + (1 : Int) ∧ (50 : Nat) = (50 : Nat) ∧ j < (clV g).length ∧ Keep (H.mk [ints ((mem g (64 : Nat) s j).set s (pick2 false ((mem g (64 : Nat) s j).getD s i0) (↑((1 : Nat) + if andn s (at_ (clV g) j).toNat < s then V g (andn s (at_ (clV g) j).toNat) else pf g s j) : Int)))] [] [] = H.mk [ints (mem g (64 : Nat) s (j + (1 : Nat)))] [] [] ∧ [AV.sl (ints g) g.length r, AV.sl (ints (clV g)) (clV g).length (rn (clV g)), AV.ptr 0 0, I (↑s : Int), AV.sl (ints (clV g)) (clV g).length (rn (clV g)), I (↑(clV g).length : Int), I ((↑j : Int) + (1 : Int))] = [AV.sl (ints g) g.length r, AV.sl (ints (clV g)) (clV g).length (rn (clV g)), AV.ptr 0 0, I (↑s : Int), AV.sl (ints (clV g)) (clV g).length (rn (clV g)), I (↑(clV g).length : Int), I (↑(j + (1 : Nat)) : Int)])) (by kernel_rfl) ?_⟩
    refine ⟨by first | with_reducible assumption | omega | assumption, ?_⟩
    refine ⟨by first | exact ix_ints (by kernel_rfl) (by omega) (by assumption) | exact ix_ints (by kernel_rfl) (by omega) (rok_idx (by assumption) (by omega)), ?_⟩
    refine ⟨by first | exact ldm_ints (by kernel_rfl) (by kernel_rfl) hl1 | exact ldm_ints (by kernel_rfl) (by kernel_rfl) hl2 | exact ld_ints (by kernel_rfl) (by kernel_rfl) (by omega), ?_⟩
    refine ⟨ixa0 (n := 64) (by kernel_rfl) (by omega), ?_⟩
    refine ⟨by first | exact ldm_ints (by kernel_rfl) (by kernel_rfl) hl1 | exact ldm_ints (by kernel_rfl) (by kernel_rfl) hl2 | exact ld_ints (by kernel_rfl) (by kernel_rfl) (by omega), ?_⟩
    refine ⟨told_andn (by with_reducible assumption), ?_⟩
    refine ⟨ixa0 (n := 64) (by kernel_rfl) (by omega), ?_⟩
    refine ⟨by first | exact ldm_ints (by kernel_rfl) (by kernel_rfl) hl1 | exact ldm_ints (by kernel_rfl) (by kernel_rfl) hl2 | exact ld_ints (by kernel_rfl) (by kernel_rfl) (by omega), ?_⟩
    refine ⟨told_add (by with_reducible assumption), ?_⟩
    refine ⟨ixa0 (n := 64) (by kernel_rfl) (by omega), ?_⟩
    refine ⟨st_ints (by kernel_rfl) rfl hl1, ?_⟩
    refine ⟨wr _ (by omega) (by omega), ?_⟩
    refine ⟨by first | with_reducible assumption | omega | assumption, ?_⟩
    refine ⟨by first | with_reducible assumption | omega | assumption, ?_⟩
    exact ⟨by rw [← hn, ← hp]; try rfl, rfl⟩
  · have hz : ((clV g).length : Int) ≤ j := by omega
    have hj' : j = (clV g).length := by omega
    subst hj'
    refine ⟨[Ans.o (Orc.b false)], fun u => of_eq ((↑(clV g).length : Int) ≤ (↑(clV g).length : Int) ∧ (50 : Nat) = (50 : Nat) ∧ hits [Out.mk Unit (AX.exit (2 : Nat)) [(0 : Nat), (4 : Nat), (5 : Nat), (6 : Nat)] (fun x => True) (fun x => [ls g r, ls (clV g) (rn (clV g)), AV.ptr 0 0, I (↑s : Int)]) (fun x => H.mk [ints (mem g (64 : Nat) s (clV g).length)] [] []) fun x => []] (AX.exit (2 : Nat)) [AV.sl (ints g) g.length r, u (1 : Nat), u (2 : Nat), u (3 : Nat), AV.sl (ints (clV g)) (clV g).length (rn (clV g)), AV.ptr 0 0, I (↑s : Int), u (7 : Nat), u (8 : Nat), u (9 : Nat), u (10 : Nat), u (11 : Nat), u (12 : Nat), u (13 : Nat), u (14 : Nat), u (15 : Nat), u (16 : Nat), u (17 : Nat), u (18 : Nat), u (19 : Nat), u (20 : Nat), u (21 : Nat), u (22 : Nat), u (23 : Nat), u (24 : Nat), AV.sl (ints (clV g)) (clV g).length (rn (clV g)), I (↑(clV g).length : Int), I (↑(clV g).length : Int), AV.bool false, u (29 : Nat), u (30 : Nat), u (31 : Nat), u (32 : Nat), u (33 : Nat), u (34 : Nat), u (35 : Nat), u (36 : Nat), u (37 : Nat), u (38 : Nat), u (39 : Nat), u (40 : Nat), u (41 : Nat), u (42 : Nat), u (43 : Nat), u (44 : Nat), u (45 : Nat), u (46 : Nat), u (47 : Nat), u (48 : Nat), u (49 : Nat)] (H.mk [ints (mem g (64 : Nat) s (clV g).length)] [] [])) (by kernel_rfl) ?_⟩
    refine ⟨by first | with_reducible assumption | omega | assumption, ?_⟩
    refine ⟨by first | with_reducible assumption | omega | assumption, ?_⟩
    exact .inl ⟨(), trivial, rfl, rfl, rfl⟩
abbrev o40 (g : List Int) (r : Room) (M : Nat) : List Out := [.mk Unit (.exit 0) [0, 5] (fun _ => True) (fun _ => [ls g r, .ptr 0 0]) (fun _ => ⟨[ints (fil (VI g) i0 64 M)], [], []⟩) (fun _ => [])]
theorem simp40 : allSimpleM none1 (loopAt Tryd.f40 0) = true := by kernel_rfl
theorem mem_all (g : List Int) {L s : Nat} (h : s ≠ 0) (hL : s < L) : mem g L s (clV g).length = fil (VI g) i0 L (s + 1) := by
  rw [mem, pf_all g h]; exact fil_set (VI g) i0 hL
theorem fil_one (g : List Int) (L : Nat) : fil (VI g) i0 L 1 = List.replicate L i0 := by
  rw [← fil_0 (VI g)]
  apply List.map_congr_left
  intro i _
  by_cases h : i = 0
  · subst h; rfl
  · rw [if_neg (by omega), if_neg (by omega)]
theorem lp40 (g : List Int) (r : Room) (hg : Gr g) (hr : rok g r) (M : Nat) (hM : 2 ^ g.length = M) :
    LoopS (En6 [c67.to, c68.to]) (loopAt Tryd.f40 0) 50 [0, 4, 5, 6] [ls g r, ls (clV g) (rn (clV g)), .ptr 0 0, I 1] ⟨[ints (List.replicate 64 i0)], [], []⟩ (o40 g r M) := by
  have hR : Rests (En6 [c67.to, c68.to]) none1 := rests mixed (.pure _ (.pure _ .nil))
  have g6 := hg.1.2
  have h64 := pw_64 g6
  have p1 : 1 ≤ 2 ^ g.length := Nat.one_le_two_pow
  have ev0 := pw_shl (n := g.length) (by omega)
  rw [← fil_one g]
  rw [hM] at h64 p1 ev0
  refine loop_s hR simp40 none (by intro _ h; cases h) (fun j vs h => h = ⟨[ints (fil (VI g) i0 64 (j + 1))], [], []⟩ ∧ vs = [ls g r, ls (clV g) (rn (clV g)), .ptr 0 0, I ((j + 1 : Nat) : Int)] ∧ j + 1 ≤ M) 64 ⟨rfl, rfl, p1⟩ (by intro _ h; cases h) ?_
  rintro j vs h hj ⟨rfl, rfl, hle⟩
  by_cases hz : ((j + 1 : Nat) : Int) < (M : Int)
  · have hlt : j + 1 < M := by omega
    have hs : j + 1 < 64 := by omega
    have ev1 : IntKind.i64.wrap (((j + 1 : Nat) : Int) + 1) = ((j + 1 + 1 : Nat) : Int) := by
      have : ((j + 1 : Nat) : Int) + 1 = ((j + 1 + 1 : Nat) : Int) := by omega
      rw [this]; exact i_wrap (by omega)
    have lpi := lp40i g r hg hr (j + 1) hs ⟨hg, hr⟩
    have hn := mem_all g (L := 64) (show j + 1 ≠ 0 by omega) hs
    have hl1 : j + 1 < (fil (VI g) i0 64 (j + 1)).length := by rw [fil_len]; exact hs
    have hj64 : j < 64 := by omega
    refine ⟨[Ans.o (Orc.val 17 (I (↑M : Int)) H.nil), Ans.o (Orc.b true), Ans.o (Orc.val 24 (AV.ptr 0 (j + (1 : Nat))) H.nil), Ans.o (Orc.val 9999 (AV.tup []) (H.mk [ints ((fil (VI g) i0 (64 : Nat) (j + (1 : Nat))).set (j + (1 : Nat)) (↑g.length : Int))] [] [])), Ans.loop [(0 : Nat), (4 : Nat), (5 : Nat), (6 : Nat), (25 : Nat), (26 : Nat), (27 : Nat)] [Out.mk Unit (AX.exit (2 : Nat)) [(0 : Nat), (4 : Nat), (5 : Nat), (6 : Nat)] (fun x => True) (fun x => [ls g r, ls (clV g) (rn (clV g)), AV.ptr 0 0, I (↑(j + (1 : Nat)) : Int)]) (fun x => H.mk [ints (mem g (64 : Nat) (j + (1 : Nat)) (clV g).length)] [] []) fun y => [Ans.o (Orc.val 20 (I (↑(j + (1 : Nat) + (1 : Nat)) : Int)) H.nil)]]], fun u => of_eq (aBin Tryd.prog BinOp.shl (3 : Nat) (I 1) (I (↑g.length : Int)) = some (I (↑M : Int)) ∧ (↑(j + (1 : Nat)) : Int) < (↑M : Int) ∧ aIndexAddr Tryd.prog (77 : Nat) (AV.ptr 0 0) (I (↑(j + (1 : Nat)) : Int)) = some (AV.ptr 0 (j + (1 : Nat))) ∧ aStore Tryd.prog H.nil.base (3 : Nat) (AV.ptr 0 (j + (1 : Nat))) (I (↑g.length : Int)) (H.mk [ints (fil (VI g) i0 (64 : Nat) (j + (1 : Nat)))] [] []) = some (H.mk [ints ((fil (VI g) i0 (64 : Nat) (j + (1 : Nat))).set (j + (1 : Nat)) (↑g.length : Int))] [] []) ∧ LoopS (Env.mk Tryd.prog (Sof [c67.to, c68.to]) (Pof (P := Tryd.prog) []) H.nil.base (300 : Nat)) (loopAt Tryd.f40 (1 : Nat)) (50 : Nat) [(0 : Nat), (4 : Nat), (5 : Nat), (6 : Nat), (25 : Nat), (26 : Nat), (27 : Nat)] [AV.sl (ints g) g.length r, AV.sl (ints (clV g)) (clV g).length (rn (clV g)), AV.ptr 0 0, I (↑(j + (1 : Nat)) : Int), AV.sl (ints (clV g)) (clV g).length (rn (clV g)), I (↑(clV g).length : Int), I 0] (H.mk [ints ((fil (VI g) i0 (64 : Nat) (j + (1 : Nat))).set (j + (1 : Nat)) (↑g.length : Int))] [] []) [Out.mk Unit (AX.exit (2 : Nat)) [(0 : Nat), (4 : Nat), (5 : Nat), (6 : Nat)] (fun x => True) (fun x => [ls g r, ls (clV g) (rn (clV g)), AV.ptr 0 0, I (↑(j + (1 : Nat)) : Int)]) (fun x => H.mk [ints (mem g (64 : Nat) (j + (1 : Nat)) (clV g).length)] [] []) fun y => [Ans.o (Orc.val 20 (I (↑(j + (1 : Nat) + (1 : Nat)) : Int)) H.nil)]] ∧ (∀ (y : Unit), True → ∀ (u : Nat → AV), aBin Tryd.prog BinOp.add (3 : Nat) (I (↑(j + (1 : Nat)) : Int)) (I 1) = some (I (↑(j + (1 : Nat) + (1 : Nat)) : Int)) ∧ (50 : Nat) = (50 : Nat) ∧ j < (64 : Nat) ∧ Keep (H.mk [ints (mem g (64 : Nat) (j + (1 : Nat)) (clV g).length)] [] [] = H.mk [ints (fil (VI g) i0 (64 : Nat) (j + (1 : Nat) + (1 : Nat)))] [] [] ∧ [AV.sl (ints g) g.length r, AV.sl (ints (clV g)) (clV g).length (rn (clV g)), AV.ptr 0 0, I (↑(j + (1 : Nat) + (1 : Nat)) : Int)] = [AV.sl (ints g) g.length r, AV.sl (ints (clV g)) (clV g).length (rn (clV g)), AV.ptr 0 0, I (↑(j + (1 : Nat) + (1 : Nat)) : Int)] ∧ j + (1 : Nat) + (1 : Nat) ≤ M)) ∧ True) (by kernel_rfl) ?_⟩
    refine ⟨by first | exact told_shl (by first | exact Int.natCast_nonneg _ | omega) (by with_reducible assumption) | exact told_shl (by omega) rfl, ?_⟩
    refine ⟨by first | with_reducible assumption | omega | assumption, ?_⟩
    refine ⟨ixa0 (n := 64) (by kernel_rfl) hs, ?_⟩
    refine ⟨st_ints (by kernel_rfl) rfl hl1, ?_⟩
    refine ⟨lpi, ?_⟩
    refine And.intro ?_ ?_
    · skip
      intro y
      intro w1
      intro u
      refine ⟨told_add (by with_reducible assumption), ?_⟩
      refine ⟨by first | with_reducible assumption | omega | assumption, ?_⟩
      refine ⟨by first | with_reducible assumption | omega | assumption, ?_⟩
      exact ⟨by rw [hn], rfl, hlt⟩
    · skip
      trivial
  · have e : j + 1 = M := by omega
    have hz : (M : Int) ≤ ((j + 1 : Nat) : Int) := by omega
    rw [e] at hz ⊢
    refine ⟨[Ans.o (Orc.val 17 (I (↑M : Int)) H.nil), Ans.o (Orc.b false)], fun u => of_eq (aBin Tryd.prog BinOp.shl (3 : Nat) (I 1) (I (↑g.length : Int)) = some (I (↑M : Int)) ∧ (↑M : Int) ≤ (↑M : Int) ∧ (50 : Nat) = (50 : Nat) ∧ hits [Out.mk Unit (AX.exit (0 : Nat)) [(0 : Nat), (5 : Nat)] (fun x => True) (fun x => [ls g r, AV.ptr 0 0]) (fun x => H.mk [ints (fil (VI g) i0 (64 : Nat) M)] [] []) fun x => []] (AX.exit (0 : Nat)) [AV.sl (ints g) g.length r, u (1 : Nat), u (2 : Nat), u (3 : Nat), AV.sl (ints (clV g)) (clV g).length (rn (clV g)), AV.ptr 0 0, I (↑M : Int), u (7 : Nat), u (8 : Nat), u (9 : Nat), u (10 : Nat), u (11 : Nat), u (12 : Nat), u (13 : Nat), I (↑M : Int), AV.sl (ints g) g.length r, I (↑g.length : Int), I (↑M : Int), AV.bool false, u (19 : Nat), u (20 : Nat), u (21 : Nat), u (22 : Nat), u (23 : Nat), u (24 : Nat), u (25 : Nat), u (26 : Nat), u (27 : Nat), u (28 : Nat), u (29 : Nat), u (30 : Nat), u (31 : Nat), u (32 : Nat), u (33 : Nat), u (34 : Nat), u (35 : Nat), u (36 : Nat), u (37 : Nat), u (38 : Nat), u (39 : Nat), u (40 : Nat), u (41 : Nat), u (42 : Nat), u (43 : Nat), u (44 : Nat), u (45 : Nat), u (46 : Nat), u (47 : Nat), u (48 : Nat), u (49 : Nat)] (H.mk [ints (fil (VI g) i0 (64 : Nat) M)] [] [])) (by kernel_rfl) ?_⟩
    refine ⟨by first | exact told_shl (by first | exact Int.natCast_nonneg _ | omega) (by with_reducible assumption) | exact told_shl (by omega) rfl, ?_⟩
    refine ⟨by first | with_reducible assumption | omega | assumption, ?_⟩
    refine ⟨by first | with_reducible assumption | omega | assumption, ?_⟩
    exact .inl ⟨(), trivial, rfl, rfl, rfl⟩
def cvA (g : List Int) : Nat := V g (2 ^ g.length - 1)
theorem fil_at (g : List Int) {L M m : Nat} (hm : m < M) (hL : m < L) : at_ (fil (VI g) i0 L M) m = VI g m := by
  simp [at_, List.getD_eq_getElem?_getD, fil, hL, hm]
theorem ok40g : FokM Tryd.prog none1 40 Tryd.f40 := ⟨mixed, by kernel_rfl, by kernel_rfl, by kernel_rfl, by kernel_rfl⟩
theorem r40g (g : List Int) (r : Room) (hp : (lim g.length ∧ rok g r) ∧ Gr g) : Body ⟨Tryd.prog, Sof (P := Tryd.prog) [c67.to, c68.to], Pof (P := Tryd.prog) [], H.nil.base, 300⟩ none1 Tryd.f40 [ls g r] .nil (.tup [I (cvA g : Nat), I 0], .nil) := by
  obtain ⟨p67, hg⟩ := hp
  have b1 := grB_t hg
  have p68 : Gr g ∧ rok g r := ⟨hg, p67.2⟩
  have g6 := hg.1.2
  have h64 := pw_64 g6
  have p1 : 1 ≤ 2 ^ g.length := Nat.one_le_two_pow
  have ev0 := pw_shl (n := g.length) (by omega)
  have lp := lp40 g r hg p67.2 _ rfl
  have ev1 : IntKind.i64.wrap (((2 ^ g.length : Nat) : Int) - 1) = ((2 ^ g.length - 1 : Nat) : Int) := by
    have : ((2 ^ g.length : Nat) : Int) - 1 = ((2 ^ g.length - 1 : Nat) : Int) := by omega
    rw [this]; exact i_wrap (by omega)
  have hV := fil_at g (L := 64) (M := 2 ^ g.length) (m := 2 ^ g.length - 1) (by omega) (by omega)
  have hl1 : 2 ^ g.length - 1 < (fil (VI g) i0 64 (2 ^ g.length)).length := by rw [fil_len]; omega
  refine body_s ([Ans.o (Orc.val 10 (AV.bool true) (H.mk [] [] [])), Ans.o (Orc.val 13 (AV.sl (ints (clV g)) (clV g).length (rn (clV g))) (H.mk [] [] [])), Ans.loop [(0 : Nat), (4 : Nat), (5 : Nat), (6 : Nat)] [Out.mk Unit (AX.exit (0 : Nat)) [(0 : Nat), (5 : Nat)] (fun x => True) (fun x => [ls g r, AV.ptr 0 0]) (fun x => H.mk [ints (fil (VI g) i0 (64 : Nat) ((2 : Nat) ^ g.length))] [] []) fun y => [Ans.o (Orc.val 46 (I (↑((2 : Nat) ^ g.length) : Int)) H.nil), Ans.o (Orc.val 47 (I (↑((2 : Nat) ^ g.length - (1 : Nat)) : Int)) H.nil), Ans.o (Orc.val 48 (AV.ptr 0 ((2 : Nat) ^ g.length - (1 : Nat))) H.nil), Ans.o (Orc.val 49 (I ((fil (VI g) i0 (64 : Nat) ((2 : Nat) ^ g.length)).getD ((2 : Nat) ^ g.length - (1 : Nat)) i0)) H.nil)]]]) (aCall (Sof [c67.to, c68.to]) (AV.fn (Fn.func (67 : Nat)) [] []) [AV.sl (ints g) g.length r] (H.mk [] [] []) = some (AV.bool true, H.mk [] [] []) ∧ aCall (Sof [c67.to, c68.to]) (AV.fn (Fn.func (68 : Nat)) [] []) [AV.sl (ints g) g.length r] (H.mk [] [] []) = some (AV.sl (ints (clV g)) (clV g).length (rn (clV g)), H.mk [] [] []) ∧ LoopS (Env.mk Tryd.prog (Sof [c67.to, c68.to]) (Pof (P := Tryd.prog) []) H.nil.base (300 : Nat)) (loopAt Tryd.f40 (0 : Nat)) (50 : Nat) [(0 : Nat), (4 : Nat), (5 : Nat), (6 : Nat)] [AV.sl (ints g) g.length r, AV.sl (ints (clV g)) (clV g).length (rn (clV g)), AV.ptr 0 0, I 1] (H.mk [[I 0, I 0, I 0, I 0, I 0, I 0, I 0, I 0, I 0, I 0, I 0, I 0, I 0, I 0, I 0, I 0, I 0, I 0, I 0, I 0, I 0, I 0, I 0, I 0, I 0, I 0, I 0, I 0, I 0, I 0, I 0, I 0, I 0, I 0, I 0, I 0, I 0, I 0, I 0, I 0, I 0, I 0, I 0, I 0, I 0, I 0, I 0, I 0, I 0, I 0, I 0, I 0, I 0, I 0, I 0, I 0, I 0, I 0, I 0, I 0, I 0, I 0, I 0, I 0]] [] []) [Out.mk Unit (AX.exit (0 : Nat)) [(0 : Nat), (5 : Nat)] (fun x => True) (fun x => [ls g r, AV.ptr 0 0]) (fun x => H.mk [ints (fil (VI g) i0 (64 : Nat) ((2 : Nat) ^ g.length))] [] []) fun y => [Ans.o (Orc.val 46 (I (↑((2 : Nat) ^ g.length) : Int)) H.nil), Ans.o (Orc.val 47 (I (↑((2 : Nat) ^ g.length - (1 : Nat)) : Int)) H.nil), Ans.o (Orc.val 48 (AV.ptr 0 ((2 : Nat) ^ g.length - (1 : Nat))) H.nil), Ans.o (Orc.val 49 (I ((fil (VI g) i0 (64 : Nat) ((2 : Nat) ^ g.length)).getD ((2 : Nat) ^ g.length - (1 : Nat)) i0)) H.nil)]] ∧ (∀ (y : Unit), True → ∀ (u : Nat → AV), aBin Tryd.prog BinOp.shl (3 : Nat) (I 1) (I (↑g.length : Int)) = some (I (↑((2 : Nat) ^ g.length) : Int)) ∧ aBin Tryd.prog BinOp.sub (3 : Nat) (I (↑((2 : Nat) ^ g.length) : Int)) (I 1) = some (I (↑((2 : Nat) ^ g.length - (1 : Nat)) : Int)) ∧ aIndexAddr Tryd.prog (77 : Nat) (AV.ptr 0 0) (I (↑((2 : Nat) ^ g.length - (1 : Nat)) : Int)) = some (AV.ptr 0 ((2 : Nat) ^ g.length - (1 : Nat))) ∧ aLoad Tryd.prog (3 : Nat) (List.drop ((2 : Nat) ^ g.length - (1 : Nat)) (ints (fil (VI g) i0 (64 : Nat) ((2 : Nat) ^ g.length)))) = some (I ((fil (VI g) i0 (64 : Nat) ((2 : Nat) ^ g.length)).getD ((2 : Nat) ^ g.length - (1 : Nat)) i0)) ∧ (AV.tup [I ((fil (VI g) i0 (64 : Nat) ((2 : Nat) ^ g.length)).getD ((2 : Nat) ^ g.length - (1 : Nat)) i0), I 0], H.mk [] [] []) = (AV.tup [I (↑(cvA g) : Int), I 0], H.mk [] [] [])) ∧ True) (by kernel_rfl) ?_
  refine ⟨acall_b (acall_hit (c := c67.to) (g, r) _ rfl p67) b1, ?_⟩
  refine ⟨acall_hit (c := c68.to) (g, r) _ rfl p68, ?_⟩
  refine ⟨lp, ?_⟩
  refine And.intro ?_ ?_
  · skip
    intro y
    intro w1
    intro u
    refine ⟨by first | exact told_shl (by first | exact Int.natCast_nonneg _ | omega) (by with_reducible assumption) | exact told_shl (by omega) rfl, ?_⟩
    refine ⟨told_sub (by with_reducible assumption), ?_⟩
    refine ⟨ixa0 (n := 64) (by kernel_rfl) (by omega), ?_⟩
    refine ⟨ldm_ints (by kernel_rfl) (by kernel_rfl) hl1, ?_⟩
    exact congrArg (fun z => (AV.tup [I z, I 0], H.nil)) hV
  · skip
    trivial
noncomputable def c40g : PCtr Tryd.prog := sctr ok40g (X := List Int × Room) (fun x => [ls x.1 x.2]) (fun x => (lim x.1.length ∧ rok x.1 x.2) ∧ Gr x.1) (fun x => .tup [I (cvA x.1 : Nat), I 0]) (by intro x y e _ _; simp at e; simp [e]) (fun x => by simp [AV.bnds, AV.bnd, AV.wk, rm_wk_bnd]) (fun x => by first | rfl | (simp [AV.bnd, rm_wk_bnd]; done)  | (simp [AV.bnd, AV.bnds, rm_wk_bnd]; done) | simp [AV.bnd, AV.bnds, Room.bnd, rm_wk_bnd]) (fun x hx => ⟨_, _, _, .pure c67 (.pure c68 (.nil)), r40g (x.1) (x.2).wk (by first | exact hx | (simp only [rok_wk]; exact hx) | (simp only [rok_wk, lst_wk]; exact hx) | (simp only [rok_wk, lst_wk, lsn_wk]; exact hx))⟩)
end Go.Proofs.Sur

