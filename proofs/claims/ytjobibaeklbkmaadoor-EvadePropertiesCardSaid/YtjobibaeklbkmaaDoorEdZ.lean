/- Layer 8: the least family with sets, by the reference; links. -/
import Derived.Test.YtjobibaeklbkmaaDoorEdY
import Derived.KernelRfl
set_option linter.unusedSimpArgs false
set_option linter.unusedVariables false
set_option linter.unnecessarySimpa false
set_option maxHeartbeats 4000000
set_option maxRecDepth 100000
namespace Go.Proofs.Evd
open Go Go.VM
open Go.Proofs.Sur (W w_wrap w_nat w_inj w_eq0 w_and w_or w_andn w_shl w_shr neg_nat sub_nat tz tz_ok cl bits_cons bits_0 bits_len andn andn_bit andn_le i_wrap i_and i_or i_andn i_shl i_shr bit_01)

/-! ### Close by the reference -/
/-- a part of one of them -/
def cvB (l : List Nat) (p : Nat) : Bool := l.any fun s => decide (andn p s = 0)
theorem cvB_app (l : List Nat) (s p : Nat) : cvB (l ++ [s]) p = (cvB l p || decide (andn p s = 0)) := by simp [cvB]
def tabC (N : Nat) (l : List Nat) (j s : Nat) : List Bool := (List.range N).map fun p => cvB l p || (decide (p < j) && decide (andn p s = 0))
@[simp] theorem tabC_len (N : Nat) (l : List Nat) (j s : Nat) : (tabC N l j s).length = N := by simp [tabC]
theorem tabC_get {N : Nat} {l : List Nat} {j s : Nat} (h : j < N) : (tabC N l j s).getD j b0 = cvB l j := by
  simp [tabC, List.getD_eq_getElem?_getD, h]
theorem tabC_set {N : Nat} {l : List Nat} {j s : Nat} {b : Bool} (h : (cvB l j || decide (andn j s = 0)) = b) : (tabC N l j s).set j b = tabC N l (j + 1) s := by
  apply List.ext_getElem
  · simp
  · intro i h1 h2
    simp only [tabC, List.getElem_set, List.getElem_map, List.getElem_range]
    by_cases e : j = i
    · subst e; rw [if_pos rfl, ← h]; simp
    · rw [if_neg e]
      have : (i < j + 1) ↔ i < j := by omega
      simp only [this]
theorem tabC_next (N : Nat) (l : List Nat) (s t : Nat) : tabC N l N s = tabC N (l ++ [s]) 0 t := by
  apply List.map_congr_left
  intro p hp
  have := List.mem_range.1 hp
  rw [cvB_app]; simp [this]
theorem tabC_any (N : Nat) (l : List Nat) (s t : Nat) : tabC N l 0 s = tabC N l 0 t := by
  apply List.map_congr_left; intro p _; simp
theorem tabC_nil (N s : Nat) : tabC N [] 0 s = List.replicate N b0 := by
  simp [tabC, cvB, List.map_const']
theorem andn_z {p s : Nat} (hp : p < 64) : andn p s = 0 ↔ Sub p s := by
  constructor
  · intro h i hi
    have := congrArg (fun x => x.testBit i) h
    simp only [Nat.zero_testBit] at this
    rw [andn_bit (by omega), hi] at this
    simpa using this
  · intro h
    apply Nat.eq_of_testBit_eq; intro i
    rw [andn_bit (by omega), Nat.zero_testBit]
    cases hb : p.testBit i
    · rfl
    · rw [h i hb]; rfl
theorem tru_tabC {n : Nat} (hn : n ≤ 6) {l : List Nat} (hl : ∀ s ∈ l, s < 2 ^ n) : tru (tabC (2 ^ n) l 0 0) = elts (cls (fm l)) := by
  have h64 := p64 hn
  refine sorted_ext (List.Pairwise.filter _ List.pairwise_lt_range) (bits_sorted _) (fun s => ?_)
  rw [Go.Proofs.Sur.mem_bits, List.mem_filter, List.mem_range, tabC_len]
  have key : ∀ s, s < 64 → (cvB l s = true ↔ hs (cls (fm l)) s = true) := fun s h => by
    rw [cls_bit h]
    simp only [cvB, List.any_eq_true, decide_eq_true_eq]
    constructor
    · rintro ⟨t, h1, h2⟩
      exact ⟨t, (fm_bit (by have := hl t h1; omega)).2 h1, (andn_z h).1 h2⟩
    · rintro ⟨t, h1, h2⟩
      exact ⟨t, (fm_bit (hs_lt h1)).1 h1, (andn_z h).2 h2⟩
  constructor
  · rintro ⟨h1, h2⟩
    rw [← show hs (cls (fm l)) s = (cls (fm l)).getLsbD s from rfl, ← key s (by omega)]
    simpa [tabC, List.getD_eq_getElem?_getD, h1] using h2
  · intro h
    have hc := (key s (hs_lt h)).2 h
    have h1 : s < 2 ^ n := by
      obtain ⟨t, h3, h4⟩ := (cls_bit (hs_lt h)).1 h
      have := hl t ((fm_bit (hs_lt h3)).1 h3)
      have h5 : s &&& t = s := sub_and.1 h4
      have : s &&& t ≤ t := Nat.and_le_right
      omega
    exact ⟨h1, by simpa [tabC, List.getD_eq_getElem?_getD, h1] using hc⟩
abbrev h23 (N : Nat) (l : List Nat) (j s : Nat) : H := ⟨[bools (tabC N l j s)], [], []⟩
abbrev v23 (n : Nat) (l : List Int) (r : Room) (i : Nat) : List AV := [I n, .msl 0 0 (2 ^ n) (2 ^ n) 1, ls l r, I l.length, I i]
abbrev o23b (n : Nat) (l : List Int) (r : Room) (i : Nat) (s : Nat) : List Out := [.mk Unit (.exit 2) [0, 5, 12, 13, 14] (fun _ => True) (fun _ => v23 n l r i) (fun _ => h23 (2 ^ n) (nl (l.take i) ++ [s]) 0 0) (fun _ => [])]
theorem simp23b : allSimpleM none1 (loopAt Tryd.f23 1) = true := by kernel_rfl
theorem simp23 : allSimpleM none1 (loopAt Tryd.f23 0) = true := by kernel_rfl
theorem lp23b (n : Nat) (l : List Int) (r : Room) (i : Nat) (s : Int) (hn : n ≤ 6) (hs0 : 0 ≤ s ∧ s < ((2 ^ n : Nat) : Int)) :
    LoopS (En6 []) (loopAt Tryd.f23 1) 40 [0, 5, 7, 12, 13, 14, 19, 20] [I n, .msl 0 0 (2 ^ n) (2 ^ n) 1, I s, ls l r, I l.length, I i, I (2 ^ n : Nat), I 0] (h23 (2 ^ n) (nl (l.take i)) 0 s.toNat) (o23b n l r i s.toNat) := by
  have hR : Rests (En6 []) none1 := rests mixed .nil
  have h64 := p64 hn
  refine loop_s hR simp23b none (by intro _ h; cases h) (fun j vs h => h = h23 (2 ^ n) (nl (l.take i)) j s.toNat ∧ vs = [I n, .msl 0 0 (2 ^ n) (2 ^ n) 1, I s, ls l r, I l.length, I i, I (2 ^ n : Nat), I j]) (2 ^ n) ⟨rfl, rfl⟩ (by intro _ h; cases h) ?_
  rintro j vs h hj ⟨rfl, rfl⟩
  generalize hk : nl (l.take i) = k
  by_cases hz : (j : Int) < (2 ^ n : Nat)
  · have hz' : j < 2 ^ n := by omega
    have ev1 : IntKind.i64.wrap ((BitVec.ofInt IntKind.i64.bits (j : Int) &&& ~~~BitVec.ofInt IntKind.i64.bits s).toNat : Int) = ((andn j s.toNat : Nat) : Int) := by
      obtain ⟨a, rfl⟩ : ∃ a : Nat, s = a := ⟨s.toNat, by omega⟩
      rw [Int.toNat_natCast]; exact i_andn (by omega)
    have ev3 : IntKind.i64.wrap ((j : Int) + 1) = ((j + 1 : Nat) : Int) := by rw [wr _ (by omega) (by omega)]; omega
    have hg := tabC_get (l := k) (s := s.toNat) hz'
    have hlt2 : j < (tabC (2 ^ n) k j s.toNat).length := by rw [tabC_len]; exact hz'
    have hld := ldm_bools (P := Tryd.prog) (t := 4) (by kernel_rfl) (by kernel_rfl) hlt2
    rw [hg] at hld
    cases hc : cvB k j
    · rw [hc] at hld
      by_cases ha : andn j s.toNat = 0
      · have ha' : ((andn j s.toNat : Nat) : Int) = 0 := by omega
        have hst : (tabC (2 ^ n) k j s.toNat).set j true = tabC (2 ^ n) k (j + 1) s.toNat := tabC_set (by rw [hc, decide_eq_true ha]; rfl)
        refine ⟨[Ans.o (Orc.b true), Ans.o (Orc.val 27 (AV.ptr 0 j) H.nil), Ans.o (Orc.val 28 (boolA false) H.nil), Ans.o (Orc.val 32 (I (↑(andn j s.toNat) : Int)) H.nil), Ans.o (Orc.b true), Ans.o (Orc.val 35 (AV.ptr 0 j) H.nil), Ans.o (Orc.val 9999 (AV.tup []) (H.mk [bools ((tabC ((2 : Nat) ^ n) k j s.toNat).set j true)] [] [])), Ans.o (Orc.val 36 (I (↑(j + (1 : Nat)) : Int)) H.nil)], fun u => of_eq ((↑j : Int) < (↑((2 : Nat) ^ n) : Int) ∧ aIndexAddr Tryd.prog (84 : Nat) (AV.msl 0 0 ((2 : Nat) ^ n) ((2 : Nat) ^ n) (1 : Nat)) (I (↑j : Int)) = some (AV.ptr 0 j) ∧ aLoad Tryd.prog (4 : Nat) (List.drop j (bools (tabC ((2 : Nat) ^ n) k j s.toNat))) = some (AV.bool false) ∧ aBin Tryd.prog BinOp.andNot (3 : Nat) (I (↑j : Int)) (I s) = some (I (↑(andn j s.toNat) : Int)) ∧ (↑(andn j s.toNat) : Int) = (0 : Int) ∧ aIndexAddr Tryd.prog (84 : Nat) (AV.msl 0 0 ((2 : Nat) ^ n) ((2 : Nat) ^ n) (1 : Nat)) (I (↑j : Int)) = some (AV.ptr 0 j) ∧ aStore Tryd.prog H.nil.base (4 : Nat) (AV.ptr 0 j) (AV.bool true) (H.mk [bools (tabC ((2 : Nat) ^ n) k j s.toNat)] [] []) = some (H.mk [bools ((tabC ((2 : Nat) ^ n) k j s.toNat).set j true)] [] []) ∧ aBin Tryd.prog BinOp.add (3 : Nat) (I (↑j : Int)) (I 1) = some (I (↑(j + (1 : Nat)) : Int)) ∧ (40 : Nat) = (40 : Nat) ∧ j < (2 : Nat) ^ n ∧ Keep (H.mk [bools ((tabC ((2 : Nat) ^ n) k j s.toNat).set j true)] [] [] = H.mk [bools (tabC ((2 : Nat) ^ n) k (j + (1 : Nat)) s.toNat)] [] [] ∧ [I (↑n : Int), AV.msl 0 0 ((2 : Nat) ^ n) ((2 : Nat) ^ n) (1 : Nat), I s, AV.sl (ints l) l.length r, I (↑l.length : Int), I (↑i : Int), I (↑((2 : Nat) ^ n) : Int), I (↑(j + (1 : Nat)) : Int)] = [I (↑n : Int), AV.msl 0 0 ((2 : Nat) ^ n) ((2 : Nat) ^ n) (1 : Nat), I s, AV.sl (ints l) l.length r, I (↑l.length : Int), I (↑i : Int), I (↑((2 : Nat) ^ n) : Int), I (↑(j + (1 : Nat)) : Int)])) (by kernel_rfl) ?_⟩
        refine ⟨by first | with_reducible assumption | omega | assumption, ?_⟩
        refine ⟨ixm0 (by kernel_rfl) hz', ?_⟩
        refine ⟨hld, ?_⟩
        refine ⟨told_andn (by with_reducible assumption), ?_⟩
        refine ⟨by first | with_reducible assumption | omega | assumption, ?_⟩
        refine ⟨ixm0 (by kernel_rfl) hz', ?_⟩
        refine ⟨by first | exact st_bools (by kernel_rfl) rfl (by first | omega | (simp; omega) | (simp at *; omega)) | exact st_u64s (by kernel_rfl) rfl (by first | omega | (simp; omega) | (simp at *; omega)) | exact st_ints (by kernel_rfl) rfl (by first | omega | (simp; omega) | (simp at *; omega)), ?_⟩
        refine ⟨told_add (by with_reducible assumption), ?_⟩
        refine ⟨by first | with_reducible assumption | omega | assumption, ?_⟩
        refine ⟨by first | with_reducible assumption | omega | assumption, ?_⟩
        exact ⟨by rw [← hst], rfl⟩
      · have ha' : ((andn j s.toNat : Nat) : Int) ≠ 0 := by omega
        have hst : (tabC (2 ^ n) k j s.toNat).set j false = tabC (2 ^ n) k (j + 1) s.toNat := tabC_set (by rw [hc, decide_eq_false ha]; rfl)
        refine ⟨[Ans.o (Orc.b true), Ans.o (Orc.val 27 (AV.ptr 0 j) H.nil), Ans.o (Orc.val 28 (boolA false) H.nil), Ans.o (Orc.val 32 (I (↑(andn j s.toNat) : Int)) H.nil), Ans.o (Orc.b false), Ans.o (Orc.val 35 (AV.ptr 0 j) H.nil), Ans.o (Orc.val 9999 (AV.tup []) (H.mk [bools ((tabC ((2 : Nat) ^ n) k j s.toNat).set j false)] [] [])), Ans.o (Orc.val 36 (I (↑(j + (1 : Nat)) : Int)) H.nil)], fun u => of_eq ((↑j : Int) < (↑((2 : Nat) ^ n) : Int) ∧ aIndexAddr Tryd.prog (84 : Nat) (AV.msl 0 0 ((2 : Nat) ^ n) ((2 : Nat) ^ n) (1 : Nat)) (I (↑j : Int)) = some (AV.ptr 0 j) ∧ aLoad Tryd.prog (4 : Nat) (List.drop j (bools (tabC ((2 : Nat) ^ n) k j s.toNat))) = some (AV.bool false) ∧ aBin Tryd.prog BinOp.andNot (3 : Nat) (I (↑j : Int)) (I s) = some (I (↑(andn j s.toNat) : Int)) ∧ (↑(andn j s.toNat) : Int) ≠ (0 : Int) ∧ aIndexAddr Tryd.prog (84 : Nat) (AV.msl 0 0 ((2 : Nat) ^ n) ((2 : Nat) ^ n) (1 : Nat)) (I (↑j : Int)) = some (AV.ptr 0 j) ∧ aStore Tryd.prog H.nil.base (4 : Nat) (AV.ptr 0 j) (AV.bool false) (H.mk [bools (tabC ((2 : Nat) ^ n) k j s.toNat)] [] []) = some (H.mk [bools ((tabC ((2 : Nat) ^ n) k j s.toNat).set j false)] [] []) ∧ aBin Tryd.prog BinOp.add (3 : Nat) (I (↑j : Int)) (I 1) = some (I (↑(j + (1 : Nat)) : Int)) ∧ (40 : Nat) = (40 : Nat) ∧ j < (2 : Nat) ^ n ∧ Keep (H.mk [bools ((tabC ((2 : Nat) ^ n) k j s.toNat).set j false)] [] [] = H.mk [bools (tabC ((2 : Nat) ^ n) k (j + (1 : Nat)) s.toNat)] [] [] ∧ [I (↑n : Int), AV.msl 0 0 ((2 : Nat) ^ n) ((2 : Nat) ^ n) (1 : Nat), I s, AV.sl (ints l) l.length r, I (↑l.length : Int), I (↑i : Int), I (↑((2 : Nat) ^ n) : Int), I (↑(j + (1 : Nat)) : Int)] = [I (↑n : Int), AV.msl 0 0 ((2 : Nat) ^ n) ((2 : Nat) ^ n) (1 : Nat), I s, AV.sl (ints l) l.length r, I (↑l.length : Int), I (↑i : Int), I (↑((2 : Nat) ^ n) : Int), I (↑(j + (1 : Nat)) : Int)])) (by kernel_rfl) ?_⟩
        refine ⟨by first | with_reducible assumption | omega | assumption, ?_⟩
        refine ⟨ixm0 (by kernel_rfl) hz', ?_⟩
        refine ⟨hld, ?_⟩
        refine ⟨told_andn (by with_reducible assumption), ?_⟩
        refine ⟨by first | with_reducible assumption | omega | assumption, ?_⟩
        refine ⟨ixm0 (by kernel_rfl) hz', ?_⟩
        refine ⟨by first | exact st_bools (by kernel_rfl) rfl (by first | omega | (simp; omega) | (simp at *; omega)) | exact st_u64s (by kernel_rfl) rfl (by first | omega | (simp; omega) | (simp at *; omega)) | exact st_ints (by kernel_rfl) rfl (by first | omega | (simp; omega) | (simp at *; omega)), ?_⟩
        refine ⟨told_add (by with_reducible assumption), ?_⟩
        refine ⟨by first | with_reducible assumption | omega | assumption, ?_⟩
        refine ⟨by first | with_reducible assumption | omega | assumption, ?_⟩
        exact ⟨by rw [← hst], rfl⟩
    · rw [hc] at hld
      have hst : (tabC (2 ^ n) k j s.toNat).set j true = tabC (2 ^ n) k (j + 1) s.toNat := tabC_set (by rw [hc]; rfl)
      refine ⟨[Ans.o (Orc.b true), Ans.o (Orc.val 27 (AV.ptr 0 j) H.nil), Ans.o (Orc.val 28 (boolA true) H.nil), Ans.o (Orc.val 35 (AV.ptr 0 j) H.nil), Ans.o (Orc.val 9999 (AV.tup []) (H.mk [bools ((tabC ((2 : Nat) ^ n) k j s.toNat).set j true)] [] [])), Ans.o (Orc.val 36 (I (↑(j + (1 : Nat)) : Int)) H.nil)], fun u => of_eq ((↑j : Int) < (↑((2 : Nat) ^ n) : Int) ∧ aIndexAddr Tryd.prog (84 : Nat) (AV.msl 0 0 ((2 : Nat) ^ n) ((2 : Nat) ^ n) (1 : Nat)) (I (↑j : Int)) = some (AV.ptr 0 j) ∧ aLoad Tryd.prog (4 : Nat) (List.drop j (bools (tabC ((2 : Nat) ^ n) k j s.toNat))) = some (AV.bool true) ∧ aIndexAddr Tryd.prog (84 : Nat) (AV.msl 0 0 ((2 : Nat) ^ n) ((2 : Nat) ^ n) (1 : Nat)) (I (↑j : Int)) = some (AV.ptr 0 j) ∧ aStore Tryd.prog H.nil.base (4 : Nat) (AV.ptr 0 j) (AV.bool true) (H.mk [bools (tabC ((2 : Nat) ^ n) k j s.toNat)] [] []) = some (H.mk [bools ((tabC ((2 : Nat) ^ n) k j s.toNat).set j true)] [] []) ∧ aBin Tryd.prog BinOp.add (3 : Nat) (I (↑j : Int)) (I 1) = some (I (↑(j + (1 : Nat)) : Int)) ∧ (40 : Nat) = (40 : Nat) ∧ j < (2 : Nat) ^ n ∧ Keep (H.mk [bools ((tabC ((2 : Nat) ^ n) k j s.toNat).set j true)] [] [] = H.mk [bools (tabC ((2 : Nat) ^ n) k (j + (1 : Nat)) s.toNat)] [] [] ∧ [I (↑n : Int), AV.msl 0 0 ((2 : Nat) ^ n) ((2 : Nat) ^ n) (1 : Nat), I s, AV.sl (ints l) l.length r, I (↑l.length : Int), I (↑i : Int), I (↑((2 : Nat) ^ n) : Int), I (↑(j + (1 : Nat)) : Int)] = [I (↑n : Int), AV.msl 0 0 ((2 : Nat) ^ n) ((2 : Nat) ^ n) (1 : Nat), I s, AV.sl (ints l) l.length r, I (↑l.length : Int), I (↑i : Int), I (↑((2 : Nat) ^ n) : Int), I (↑(j + (1 : Nat)) : Int)])) (by kernel_rfl) ?_⟩
      refine ⟨by first | with_reducible assumption | omega | assumption, ?_⟩
      refine ⟨ixm0 (by kernel_rfl) hz', ?_⟩
      refine ⟨hld, ?_⟩
      refine ⟨ixm0 (by kernel_rfl) hz', ?_⟩
      refine ⟨by first | exact st_bools (by kernel_rfl) rfl (by first | omega | (simp; omega) | (simp at *; omega)) | exact st_u64s (by kernel_rfl) rfl (by first | omega | (simp; omega) | (simp at *; omega)) | exact st_ints (by kernel_rfl) rfl (by first | omega | (simp; omega) | (simp at *; omega)), ?_⟩
      refine ⟨told_add (by with_reducible assumption), ?_⟩
      refine ⟨by first | with_reducible assumption | omega | assumption, ?_⟩
      refine ⟨by first | with_reducible assumption | omega | assumption, ?_⟩
      exact ⟨by rw [← hst], rfl⟩
  · have hz : ((2 ^ n : Nat) : Int) ≤ j := by omega
    have hj' : j = 2 ^ n := by omega
    subst hj'
    have hnx := tabC_next (2 ^ n) k s.toNat 0
    refine ⟨[Ans.o (Orc.b false)], fun u => of_eq ((↑((2 : Nat) ^ n) : Int) ≤ (↑((2 : Nat) ^ n) : Int) ∧ (40 : Nat) = (40 : Nat) ∧ hits [Out.mk Unit (AX.exit (2 : Nat)) [(0 : Nat), (5 : Nat), (12 : Nat), (13 : Nat), (14 : Nat)] (fun x => True) (fun x => v23 n l r i) (fun x => h23 ((2 : Nat) ^ n) (nl (List.take i l) ++ [s.toNat]) (0 : Nat) (0 : Nat)) fun x => []] (AX.exit (2 : Nat)) [I (↑n : Int), u (1 : Nat), u (2 : Nat), u (3 : Nat), u (4 : Nat), AV.msl 0 0 ((2 : Nat) ^ n) ((2 : Nat) ^ n) (1 : Nat), u (6 : Nat), I s, u (8 : Nat), u (9 : Nat), u (10 : Nat), u (11 : Nat), AV.sl (ints l) l.length r, I (↑l.length : Int), I (↑i : Int), u (15 : Nat), u (16 : Nat), u (17 : Nat), u (18 : Nat), I (↑((2 : Nat) ^ n) : Int), I (↑((2 : Nat) ^ n) : Int), AV.bool false, u (22 : Nat), u (23 : Nat), u (24 : Nat), u (25 : Nat), u (26 : Nat), u (27 : Nat), u (28 : Nat), u (29 : Nat), u (30 : Nat), u (31 : Nat), u (32 : Nat), u (33 : Nat), u (34 : Nat), u (35 : Nat), u (36 : Nat), u (37 : Nat), u (38 : Nat), u (39 : Nat)] (H.mk [bools (tabC ((2 : Nat) ^ n) k ((2 : Nat) ^ n) s.toNat)] [] [])) (by kernel_rfl) ?_⟩
    refine ⟨by first | with_reducible assumption | omega | assumption, ?_⟩
    refine ⟨by first | with_reducible assumption | omega | assumption, ?_⟩
    exact .inl ⟨(), trivial, rfl, rfl, by rw [hnx, ← hk]⟩
abbrev o23 (n : Nat) (l : List Int) : List Out := [.mk Unit (.exit 0) [5] (fun _ => True) (fun _ => [.msl 0 0 (2 ^ n) (2 ^ n) 1]) (fun _ => h23 (2 ^ n) (nl l) 0 0) (fun _ => [])]
theorem lp23 (n : Nat) (l : List Int) (r : Room) (hn : n ≤ 6) (h0 : lim l.length) (h1 : rok l r) (h2 : oks n l) :
    LoopS (En6 []) (loopAt Tryd.f23 0) 40 [0, 5, 12, 13, 14] (v23 n l r 0) (h23 (2 ^ n) [] 0 0) (o23 n l) := by
  have hR : Rests (En6 []) none1 := rests mixed .nil
  refine loop_s hR simp23 none (by intro _ h; cases h) (fun i vs h => h = h23 (2 ^ n) (nl (l.take i)) 0 0 ∧ vs = v23 n l r i) l.length ⟨rfl, rfl⟩ (by intro _ h; cases h) ?_
  rintro i vs h hj ⟨rfl, rfl⟩
  by_cases hz : (i : Int) < l.length
  · have hz' : i < l.length := by omega
    have hr := rok_idx h1 hz'
    have ev0 := pw_shl (n := n) (by omega)
    have hin := lp23b n l r i (ia l i) hn (h2 i hz')
    rw [show h23 (2 ^ n) (nl (l.take i)) 0 (ia l i).toNat = h23 (2 ^ n) (nl (l.take i)) 0 0 by rw [h23, tabC_any _ _ _ 0]] at hin
    have hnt : nl (l.take (i + 1)) = nl (l.take i) ++ [(ia l i).toNat] := by rw [ia_take hz', nl, List.map_append, ← nl]; rfl
    have ev3 : IntKind.i64.wrap ((i : Int) + 1) = ((i + 1 : Nat) : Int) := by rw [wr _ (by omega) (by omega)]; omega
    refine ⟨[Ans.o (Orc.b true), Ans.o (Orc.val 16 (AV.cptr (ints (List.drop i l))) H.nil), Ans.o (Orc.val 17 (I (l.getD i i0)) H.nil), Ans.o (Orc.val 19 (I (↑((2 : Nat) ^ n) : Int)) H.nil), Ans.loop [(0 : Nat), (5 : Nat), (7 : Nat), (12 : Nat), (13 : Nat), (14 : Nat), (19 : Nat), (20 : Nat)] [Out.mk Unit (AX.exit (2 : Nat)) [(0 : Nat), (5 : Nat), (12 : Nat), (13 : Nat), (14 : Nat)] (fun x => True) (fun x => v23 n l r i) (fun x => h23 ((2 : Nat) ^ n) (nl (List.take i l) ++ [(ia l i).toNat]) (0 : Nat) (0 : Nat)) fun y => [Ans.o (Orc.val 37 (I (↑(i + (1 : Nat)) : Int)) H.nil)]]], fun u => of_eq ((↑i : Int) < (↑l.length : Int) ∧ aIndexAddr Tryd.prog (22 : Nat) (AV.sl (ints l) l.length r) (I (↑i : Int)) = some (AV.cptr (ints (List.drop i l))) ∧ aLoad Tryd.prog (3 : Nat) (ints (List.drop i l)) = some (I (l.getD i i0)) ∧ aBin Tryd.prog BinOp.shl (3 : Nat) (I 1) (I (↑n : Int)) = some (I (↑((2 : Nat) ^ n) : Int)) ∧ LoopS (Env.mk Tryd.prog (Sof (P := Tryd.prog) []) (Pof (P := Tryd.prog) []) H.nil.base (300 : Nat)) (loopAt Tryd.f23 (1 : Nat)) (40 : Nat) [(0 : Nat), (5 : Nat), (7 : Nat), (12 : Nat), (13 : Nat), (14 : Nat), (19 : Nat), (20 : Nat)] [I (↑n : Int), AV.msl 0 0 ((2 : Nat) ^ n) ((2 : Nat) ^ n) (1 : Nat), I (l.getD i i0), AV.sl (ints l) l.length r, I (↑l.length : Int), I (↑i : Int), I (↑((2 : Nat) ^ n) : Int), I 0] (H.mk [bools (tabC ((2 : Nat) ^ n) (nl (List.take i l)) (0 : Nat) (0 : Nat))] [] []) [Out.mk Unit (AX.exit (2 : Nat)) [(0 : Nat), (5 : Nat), (12 : Nat), (13 : Nat), (14 : Nat)] (fun x => True) (fun x => v23 n l r i) (fun x => h23 ((2 : Nat) ^ n) (nl (List.take i l) ++ [(ia l i).toNat]) (0 : Nat) (0 : Nat)) fun y => [Ans.o (Orc.val 37 (I (↑(i + (1 : Nat)) : Int)) H.nil)]] ∧ (∀ (y : Unit), True → ∀ (u : Nat → AV), aBin Tryd.prog BinOp.add (3 : Nat) (I (↑i : Int)) (I 1) = some (I (↑(i + (1 : Nat)) : Int)) ∧ (40 : Nat) = (40 : Nat) ∧ i < l.length ∧ Keep (H.mk [bools (tabC ((2 : Nat) ^ n) (nl (List.take i l) ++ [(ia l i).toNat]) (0 : Nat) (0 : Nat))] [] [] = H.mk [bools (tabC ((2 : Nat) ^ n) (nl (List.take (i + (1 : Nat)) l)) (0 : Nat) (0 : Nat))] [] [] ∧ [I (↑n : Int), AV.msl 0 0 ((2 : Nat) ^ n) ((2 : Nat) ^ n) (1 : Nat), AV.sl (ints l) l.length r, I (↑l.length : Int), I (↑(i + (1 : Nat)) : Int)] = [I (↑n : Int), AV.msl 0 0 ((2 : Nat) ^ n) ((2 : Nat) ^ n) (1 : Nat), AV.sl (ints l) l.length r, I (↑l.length : Int), I (↑(i + (1 : Nat)) : Int)])) ∧ True) (by kernel_rfl) ?_⟩
    refine ⟨by first | with_reducible assumption | omega | assumption, ?_⟩
    refine ⟨ix_ints (by kernel_rfl) (by omega) hr, ?_⟩
    refine ⟨by first | exact ld_ints (by kernel_rfl) (by kernel_rfl) (by omega) | exact ldm_ints (by kernel_rfl) (by kernel_rfl) (by first | omega | (simp; omega)), ?_⟩
    refine ⟨by first | exact told_shl (by first | exact Int.natCast_nonneg _ | omega) (by with_reducible assumption) | exact told_shl (by omega) rfl, ?_⟩
    refine ⟨hin, ?_⟩
    refine And.intro ?_ ?_
    · skip
      intro y
      intro w1
      intro u
      refine ⟨told_add (by with_reducible assumption), ?_⟩
      refine ⟨by first | with_reducible assumption | omega | assumption, ?_⟩
      refine ⟨by first | with_reducible assumption | omega | assumption, ?_⟩
      exact ⟨by rw [hnt], rfl⟩
    · skip
      trivial
  · have hz : (l.length : Int) ≤ i := by omega
    have hj' : i = l.length := by omega
    subst hj'
    refine ⟨[Ans.o (Orc.b false)], fun u => of_eq ((↑l.length : Int) ≤ (↑l.length : Int) ∧ (40 : Nat) = (40 : Nat) ∧ hits [Out.mk Unit (AX.exit (0 : Nat)) [(5 : Nat)] (fun x => True) (fun x => [AV.msl 0 0 ((2 : Nat) ^ n) ((2 : Nat) ^ n) (1 : Nat)]) (fun x => h23 ((2 : Nat) ^ n) (nl l) (0 : Nat) (0 : Nat)) fun x => []] (AX.exit (0 : Nat)) [I (↑n : Int), u (1 : Nat), u (2 : Nat), u (3 : Nat), u (4 : Nat), AV.msl 0 0 ((2 : Nat) ^ n) ((2 : Nat) ^ n) (1 : Nat), u (6 : Nat), u (7 : Nat), u (8 : Nat), u (9 : Nat), u (10 : Nat), u (11 : Nat), AV.sl (ints l) l.length r, I (↑l.length : Int), I (↑l.length : Int), AV.bool false, u (16 : Nat), u (17 : Nat), u (18 : Nat), u (19 : Nat), u (20 : Nat), u (21 : Nat), u (22 : Nat), u (23 : Nat), u (24 : Nat), u (25 : Nat), u (26 : Nat), u (27 : Nat), u (28 : Nat), u (29 : Nat), u (30 : Nat), u (31 : Nat), u (32 : Nat), u (33 : Nat), u (34 : Nat), u (35 : Nat), u (36 : Nat), u (37 : Nat), u (38 : Nat), u (39 : Nat)] (H.mk [bools (tabC ((2 : Nat) ^ n) (nl (List.take l.length l)) (0 : Nat) (0 : Nat))] [] [])) (by kernel_rfl) ?_⟩
    refine ⟨by first | with_reducible assumption | omega | assumption, ?_⟩
    refine ⟨by first | with_reducible assumption | omega | assumption, ?_⟩
    exact .inl ⟨(), trivial, rfl, rfl, by rw [List.take_length]⟩
theorem ok23 : FokM Tryd.prog m72 23 Tryd.f23 := ⟨mixed, by kernel_rfl, by kernel_rfl, by kernel_rfl, by kernel_rfl⟩
theorem r23 (n : Nat) (l : List Int) (r : Room) (t : List Bool) (ht : t = tabC (2 ^ n) (nl l) 0 0) (hT : t.length = 2 ^ n) (h64 : 2 ^ n ≤ 64) (hn : n ≤ 6) (h0 : lim l.length) (h1 : rok l r) (h2 : oks n l) :
    Body (En6 [c72m t (2 ^ n) hT h64]) m72 Tryd.f23 [I n, ls l r] .nil (acc (lst (cls (fm (nl l)))), hacc (lst (cls (fm (nl l))))) := by
  have hl := lp23 n l r hn h0 h1 h2
  have e00 : h23 (2 ^ n) [] 0 0 = ⟨[bools (List.replicate (2 ^ n) b0)], [], []⟩ := by rw [h23, tabC_nil]
  rw [e00] at hl
  have hml : ∀ s ∈ nl l, s < 2 ^ n := fun s hs' => by
    simp only [nl, List.mem_map] at hs'
    obtain ⟨x, hx, rfl⟩ := hs'
    obtain ⟨i, g1, g2⟩ := mem_ia hx
    have := h2 i g1
    rw [g2] at this; omega
  have htr : tru t = elts (cls (fm (nl l))) := by rw [ht, tru_tabC hn hml]
  have hlst : ic (tru t) = lst (cls (fm (nl l))) := by rw [htr]
  have ev0 := pw_shl (n := n) (by omega)
  have hb : 2 ^ n ≤ 1000000000 := by omega
  have hlp : LoopS (En6 [c72m t (2 ^ n) hT h64]) (loopAt Tryd.f23 0) 40 [0, 5, 12, 13, 14] (v23 n l r 0) ⟨[bools (List.replicate (2 ^ n) b0)], [], []⟩ (o23 n l) := hl
  have hp72 : (h23 (2 ^ n) (nl l) 0 0).blk[0]? = some (bools t) := by rw [ht]; rfl
  rw [← hlst]
  refine body_s ([Ans.o (Orc.val 10 (I (↑((2 : Nat) ^ n) : Int)) H.nil), Ans.o (Orc.val 11 (AV.msl 0 0 ((2 : Nat) ^ n) ((2 : Nat) ^ n) (1 : Nat)) (H.mk [bools (List.replicate ((2 : Nat) ^ n) b0)] [] [])), Ans.loop [(0 : Nat), (5 : Nat), (12 : Nat), (13 : Nat), (14 : Nat)] [Out.mk Unit (AX.exit (0 : Nat)) [(5 : Nat)] (fun x => True) (fun x => [AV.msl 0 0 ((2 : Nat) ^ n) ((2 : Nat) ^ n) (1 : Nat)]) (fun x => h23 ((2 : Nat) ^ n) (nl l) (0 : Nat) (0 : Nat)) fun y => [Ans.o (Orc.val 39 (AV.sl (ints (ic (tru t))) (ic (tru t)).length (rm (H.mk [bools (tabC ((2 : Nat) ^ n) (nl l) (0 : Nat) (0 : Nat))] [] []).toks.length (ic (tru t)))) (H.mk [bools (tabC ((2 : Nat) ^ n) (nl l) (0 : Nat) (0 : Nat))] ((H.mk [bools (tabC ((2 : Nat) ^ n) (nl l) (0 : Nat) (0 : Nat))] [] []).toks ++ tk (ic (tru t))) []))]]]) (aBin Tryd.prog BinOp.shl (3 : Nat) (I 1) (I (↑n : Int)) = some (I (↑((2 : Nat) ^ n) : Int)) ∧ aMake Tryd.prog (84 : Nat) (↑((2 : Nat) ^ n) : Int) (↑((2 : Nat) ^ n) : Int) (H.mk [] [] []) = some (AV.msl 0 0 ((2 : Nat) ^ n) ((2 : Nat) ^ n) (1 : Nat), H.mk [bools (List.replicate ((2 : Nat) ^ n) b0)] [] []) ∧ LoopS (Env.mk Tryd.prog (Sof [c72m t ((2 : Nat) ^ n) hT h64]) (Pof (P := Tryd.prog) []) H.nil.base (300 : Nat)) (loopAt Tryd.f23 (0 : Nat)) (40 : Nat) [(0 : Nat), (5 : Nat), (12 : Nat), (13 : Nat), (14 : Nat)] [I (↑n : Int), AV.msl 0 0 ((2 : Nat) ^ n) ((2 : Nat) ^ n) (1 : Nat), AV.sl (ints l) l.length r, I (↑l.length : Int), I 0] (H.mk [bools (List.replicate ((2 : Nat) ^ n) b0)] [] []) [Out.mk Unit (AX.exit (0 : Nat)) [(5 : Nat)] (fun x => True) (fun x => [AV.msl 0 0 ((2 : Nat) ^ n) ((2 : Nat) ^ n) (1 : Nat)]) (fun x => h23 ((2 : Nat) ^ n) (nl l) (0 : Nat) (0 : Nat)) fun y => [Ans.o (Orc.val 39 (AV.sl (ints (ic (tru t))) (ic (tru t)).length (rm (H.mk [bools (tabC ((2 : Nat) ^ n) (nl l) (0 : Nat) (0 : Nat))] [] []).toks.length (ic (tru t)))) (H.mk [bools (tabC ((2 : Nat) ^ n) (nl l) (0 : Nat) (0 : Nat))] ((H.mk [bools (tabC ((2 : Nat) ^ n) (nl l) (0 : Nat) (0 : Nat))] [] []).toks ++ tk (ic (tru t))) []))]] ∧ (∀ (y : Unit), True → ∀ (u : Nat → AV), aCall (Sof [c72m t ((2 : Nat) ^ n) hT h64]) (AV.fn (Fn.func (72 : Nat)) [] []) [AV.msl 0 0 ((2 : Nat) ^ n) ((2 : Nat) ^ n) (1 : Nat)] (H.mk [bools (tabC ((2 : Nat) ^ n) (nl l) (0 : Nat) (0 : Nat))] [] []) = some (AV.sl (ints (ic (tru t))) (ic (tru t)).length (rm (H.mk [bools (tabC ((2 : Nat) ^ n) (nl l) (0 : Nat) (0 : Nat))] [] []).toks.length (ic (tru t))), H.mk [bools (tabC ((2 : Nat) ^ n) (nl l) (0 : Nat) (0 : Nat))] ((H.mk [bools (tabC ((2 : Nat) ^ n) (nl l) (0 : Nat) (0 : Nat))] [] []).toks ++ tk (ic (tru t))) []) ∧ leave (Base.mk H.nil.blk.length H.nil.toks.length H.nil.maps.length) (AV.sl (ints (ic (tru t))) (ic (tru t)).length (rm (H.mk [bools (tabC ((2 : Nat) ^ n) (nl l) (0 : Nat) (0 : Nat))] [] []).toks.length (ic (tru t)))) (H.mk [bools (tabC ((2 : Nat) ^ n) (nl l) (0 : Nat) (0 : Nat))] ((H.mk [bools (tabC ((2 : Nat) ^ n) (nl l) (0 : Nat) (0 : Nat))] [] []).toks ++ tk (ic (tru t))) []) = (AV.sl (ints (ic (tru t))) (ic (tru t)).length (rm (0 : Nat) (ic (tru t))), H.mk [] (tk (ic (tru t))) [])) ∧ True) (by kernel_rfl) ?_
  refine ⟨by first | exact told_shl (by first | exact Int.natCast_nonneg _ | omega) (by with_reducible assumption) | exact told_shl (by omega) rfl, ?_⟩
  refine ⟨by first | exact mk_u64s (by kernel_rfl) (by omega) | exact mk_ints (by kernel_rfl) (by omega) | exact mk_bools (by kernel_rfl) (by omega), ?_⟩
  refine ⟨hlp, ?_⟩
  refine And.intro ?_ ?_
  · skip
    intro y
    intro w1
    intro u
    refine ⟨acall_hit (c := c72m t (2 ^ n) hT h64) () _ rfl hp72, ?_⟩
    exact leave_acc' _ _
  · skip
    trivial
noncomputable def c23 : PCtr Tryd.prog := slctr ok23 (X := Nat × List Int × Room) (fun x => [I x.1, ls x.2.1 x.2.2])
  (fun x => (x.1 ≤ 6 ∧ lim x.2.1.length) ∧ rok x.2.1 x.2.2 ∧ oks x.1 x.2.1) (fun x => ls (lst (cls (fm (nl x.2.1)))) (rn (lst (cls (fm (nl x.2.1))))))
  (by
    rintro ⟨n, l, r⟩ ⟨n', l', r'⟩ e _ _
    simp at e
    obtain ⟨_, h3, _⟩ := e
    subst h3; rfl) (fun x => by simp [AV.bnds, AV.bnd, AV.wk, rm_wk_bnd]) (fun x => by simp [AV.bnd, AV.bnds, rm_wk_bnd])
  (fun x hx => ⟨_, _, _, acc (lst (cls (fm (nl x.2.1)))), tk (lst (cls (fm (nl x.2.1)))), .eff _ rfl .nil, r23 x.1 x.2.1 x.2.2.wk _ rfl (tabC_len _ _ _ _) (p64 hx.1.1) hx.1.1 hx.1.2 (by simpa using hx.2.1) hx.2.2, by simp [AV.plain, AV.plains, plains_ints, plains_rows], by first | (simp only [AV.wkd, wkds_ints]; done) | simp [AV.wkd, AV.wkds, Room.wk]⟩)
end Go.Proofs.Evd

