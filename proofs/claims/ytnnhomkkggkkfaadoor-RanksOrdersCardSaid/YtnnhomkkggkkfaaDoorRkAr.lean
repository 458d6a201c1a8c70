/- Layer 2: how the first best order of each set begins, by the program. -/
import Derived.Test.YtnnhomkkggkkfaaDoorRkAm
import Derived.Test.YtnnhomkkggkkfaaDoorRkL
import Derived.Test.YtnnhomkkggkkfaaDoorRkT
import Derived.Test.YtnnhomkkggkkfaaDoorVm9
import Derived.Test.YtnnhomkkggkkfaaDoorVm8
import Derived.KernelRfl
set_option linter.unusedSimpArgs false
set_option linter.unusedVariables false
set_option linter.unnecessarySimpa false
set_option maxHeartbeats 4000000
set_option maxRecDepth 100000
namespace Go.Proofs.Rnk
open Go Go.VM
open Go.Proofs.Sur (andn andn_bit andn_le i_wrap i_and i_or i_andn i_shl i_shr bit_01)

noncomputable abbrev En9 (cs : List (Ctr Tryd.prog)) : Env := ⟨Tryd.prog, Sof (P := Tryd.prog) cs, Pof (P := Tryd.prog) [], H.nil.base, 299⟩
abbrev prI (x : Nat × Nat) : Pr := ((x.1 : Int), (x.2 : Int))
/-- the table after some sets -/
def tbl (A : Nat → Nat) (n j : Nat) : List Pr := (List.range n).map fun x => prI (tb A j x)
@[simp] theorem tbl_len (A : Nat → Nat) (n j : Nat) : (tbl A n j).length = n := by simp [tbl]
theorem tbl_get {A : Nat → Nat} {n j x : Nat} (h : x < n) : (tbl A n j).getD x pair0 = prI (tb A j x) := by
  simp [tbl, List.getD_eq_getElem?_getD, h]
theorem tbl_zero (A : Nat → Nat) (n : Nat) : tbl A n 0 = List.replicate n pair0 := by
  apply List.ext_getElem
  · simp
  · intro i h1 h2; simp [tbl, tb]
theorem tbl_set {A : Nat → Nat} {n j : Nat} (h : j + 1 < n) : (tbl A n j).set (j + 1) (prI (tb A (j + 1) (j + 1))) = tbl A n (j + 1) := by
  apply List.ext_getElem
  · simp
  · intro i h1 h2
    have hi : i < n := by simpa using h1
    rw [List.getElem_set]
    by_cases e : j + 1 = i
    · subst e; simp [tbl]
    · rw [if_neg e]
      simp only [tbl, List.getElem_map, List.getElem_range]
      have : tb A (j + 1) i = tb A j i := by rw [tb, if_neg (fun q => e q.symm)]
      rw [this]
theorem ldfm_pair {P : Program} {t : TypeId} (hu : (P.underlying t).isSome = true) (ha : isAggT P t = false) {l : List Pr} {i : Nat} (h : i < l.length) : aLoad P t ((pairsA l).drop (i * 2 + 1)) = some (I (l.getD i pair0).2) := by
  cases hq : P.underlying t with
  | none => rw [hq] at hu; cases hu
  | some u =>
    have e : l.drop i = l[i] :: l.drop (i + 1) := List.drop_eq_getElem_cons h
    have e2 : l.getD i pair0 = l[i] := by simp [List.getD_eq_getElem?_getD, List.getElem?_eq_getElem h]
    have e3 : (pairsA l).drop (i * 2 + 1) = I (l.getD i pair0).2 :: pairsA (l.drop (i + 1)) := by
      rw [← List.drop_drop, pairsA_drop, e, e2]; rfl
    rw [e3]
    simp [aLoad, hq, ha]
theorem ixm_pairs0 {P : Program} {t : TypeId} (hu : (elemT P t).bind (sizeT P) = some 2) {b n c z : Nat} {k : IntKind} {i : Nat} (h : i < n) :
    aIndexAddr P t (.msl b 0 n c z) (.int k i) = some (.ptr b (0 + i * 2)) := by rw [Nat.zero_add]; exact ixm_pairs hu h
/-- the search in a set, the table being known -/
abbrev fbs (A : Nat → Nat) (s k : Nat) : Nat × Nat := fb (fun y => (tb A (s - 1) y).2) A s k
theorem tb_fbs {A : Nat → Nat} {j : Nat} : tb A (j + 1) (j + 1) = fbs A (j + 1) (pc (j + 1)) := by rw [tb, if_pos rfl]; rfl
theorem tb_b {A : Nat → Nat} : ∀ {j x : Nat}, x < 256 → (tb A j x).2 ≤ 28 := fun {j x} hx => by
  rcases Nat.lt_or_ge j x with q | q
  · rw [tb_gt q]; omega
  · rw [tb_le q]
    have h1 := (ag_spec (A := A) hx).1
    have h2 := c2_mono (pc_le x)
    have e : c2 8 = 28 := rfl
    have : (tb A x x).2 = ag A x := rfl
    omega
theorem fbs_b {A : Nat → Nat} {s : Nat} : ∀ k, (fbs A s k).2 ≤ 29 ∧ (fbs A s k).1 < 8
  | 0 => by simp [fb]
  | k + 1 => by
    have ih := @fbs_b A s k
    simp only [fbs, fb] at ih ⊢
    split
    · refine ⟨by show co A s (el s k) + _ ≤ 29; have := ih.1; omega, ?_⟩
      show el s k < 8
      simp only [el, List.getD_eq_getElem?_getD]
      cases hq : (els s)[k]? with
      | none => simp
      | some x =>
        have := List.mem_of_getElem? hq
        simp only [els, List.mem_filter, List.mem_range] at this
        simpa using this.1
    · exact ih
abbrev h75 (t : List Int) (r : Room) (j : Nat) : H := ⟨[[ls t r], pairsA (tbl (sn t) (2 ^ t.length) j), [.msl 1 0 (2 ^ t.length) (2 ^ t.length) 2], [I (j + 1 : Nat)]], [], []⟩
abbrev h75r (t : List Int) (r : Room) (j k : Nat) : H := ⟨[[ls t r], pairsA (tbl (sn t) (2 ^ t.length) j), [.msl 1 0 (2 ^ t.length) (2 ^ t.length) 2], [I (j + 1 : Nat)], [I (fbs (sn t) (j + 1) k).1, I (fbs (sn t) (j + 1) k).2], [I (dI (j + 1 : Nat) k)]], [], []⟩
abbrev o75r (t : List Int) (r : Room) (j : Nat) : List Out := [.mk Unit .normal [1, 3, 4, 5] (fun _ => True) (fun _ => [.ptr 0 0, .ptr 2 0, .ptr 3 0, .ptr 4 0]) (fun _ => h75r t r j (pc (j + 1))) (fun _ => [])]
noncomputable abbrev cs75 : List (Ctr Tryd.prog) := [c57.to, c72]
theorem ct75 : Ctrs Tryd.prog M72 cs75 := .pure _ (.eff c72 rfl .nil)
theorem simp75r : allSimpleM M72 (rangeBody (rangeAt Tryd.f75 0)) = true := by kernel_rfl
theorem lp75r (t : List Int) (r : Room) (h : Tn t) (hr : rok t r) (j : Nat) (hj : j + 1 < 2 ^ t.length) :
    RangeS (En6 cs75) (rangeAt Tryd.f75 0) 53 [1, 3, 4, 5, 21] [.ptr 0 0, .ptr 2 0, .ptr 3 0, .ptr 4 0, .fn (.func 95) [] [.ptr 5 0]] (h75r t r j 0) (o75r t r j) := by
  have hR : Rests (En6 cs75) M72 := rests mixed ct75
  have h8 := h.s.2
  have p8 := pow8 h8
  have hj8 : j + 1 < 256 := by omega
  refine range_at hR (by kernel_rfl) simp75r (players_itN (p := Pof (P := Tryd.prog) []) (b := 5) (s := j + 1) hj8 rfl) (fun u => rfl) (fun k => rfl) none (by intro nb h; cases h) (fun k h => h = h75r t r j k) rfl (by intro nb h; cases h) ?_ ?_
  · rintro k _ hk hown rfl
    have hm := el_mem hk
    have hbits : el (j + 1) k < t.length := by
      apply Classical.byContradiction
      intro hn
      have : (j + 1).testBit (el (j + 1) k) = false := Nat.testBit_lt_two_pow (Nat.lt_of_lt_of_le hj (Nat.pow_le_pow_right (by decide) (by omega)))
      rw [this] at hm; cases hm.1
    have hri := rok_idx hr hbits
    have hsn := h.sn (el (j + 1) k)
    have ev1 := pw_shl (n := el (j + 1) k) (by omega)
    have h2 : 2 ^ el (j + 1) k < 2 ^ 8 := Nat.pow_lt_pow_right (by decide) (by omega)
    have hrl := rem_lt_self (p := el (j + 1) k) hj8 hm.1
    have ev2 : IntKind.i64.wrap ((BitVec.ofInt IntKind.i64.bits ((j + 1 : Nat) : Int) &&& ~~~BitVec.ofInt IntKind.i64.bits ((2 ^ el (j + 1) k : Nat) : Int)).toNat : Int) = ((rem (j + 1) (el (j + 1) k) : Nat) : Int) := i_andn (by omega)
    have ev3 : IntKind.i64.wrap ((BitVec.ofInt IntKind.i64.bits ((rem (j + 1) (el (j + 1) k) : Nat) : Int) &&& ~~~BitVec.ofInt IntKind.i64.bits (t.getD (el (j + 1) k) i0)).toNat : Int) = ((andn (rem (j + 1) (el (j + 1) k)) (sn t (el (j + 1) k)) : Nat) : Int) := by
      have := i_andn (a := rem (j + 1) (el (j + 1) k)) (b := sn t (el (j + 1) k)) (by omega)
      rw [hsn.2] at this
      exact this
    have p57 : andn (rem (j + 1) (el (j + 1) k)) (sn t (el (j + 1) k)) < 256 := Nat.lt_of_le_of_lt (andn_le (by omega)) (by omega)
    have hrn : rem (j + 1) (el (j + 1) k) < 2 ^ t.length := by omega
    have hrn' : rem (j + 1) (el (j + 1) k) < (tbl (sn t) (2 ^ t.length) j).length := by rw [tbl_len]; exact hrn
    have htg : ((tbl (sn t) (2 ^ t.length) j).getD (rem (j + 1) (el (j + 1) k)) pair0).2 = (((tb (sn t) j (rem (j + 1) (el (j + 1) k))).2 : Nat) : Int) := by rw [tbl_get hrn]
    have hld : aLoad Tryd.prog 3 (List.drop (0 + rem (j + 1) (el (j + 1) k) * 2 + 1) (pairsA (tbl (sn t) (2 ^ t.length) j))) = some (I ((tbl (sn t) (2 ^ t.length) j).getD (rem (j + 1) (el (j + 1) k)) pair0).2) := by
      rw [Nat.zero_add]; exact ldfm_pair (by kernel_rfl) (by kernel_rfl) hrn'
    have hb := tb_b (A := sn t) (j := j) (x := rem (j + 1) (el (j + 1) k)) (by omega)
    have hpc := pc_le (andn (rem (j + 1) (el (j + 1) k)) (sn t (el (j + 1) k)))
    have ev4 : IntKind.i64.wrap (((pc (andn (rem (j + 1) (el (j + 1) k)) (sn t (el (j + 1) k))) : Nat) : Int) + ((tbl (sn t) (2 ^ t.length) j).getD (rem (j + 1) (el (j + 1) k)) pair0).2) = ((co (sn t) (j + 1) (el (j + 1) k) + (tb (sn t) j (rem (j + 1) (el (j + 1) k))).2 : Nat) : Int) := by
      rw [htg, wr _ (by omega) (by omega)]; simp only [co]; omega
    by_cases c : co (sn t) (j + 1) (el (j + 1) k) + (tb (sn t) j (rem (j + 1) (el (j + 1) k))).2 < (fbs (sn t) (j + 1) k).2
    · have c' : ((co (sn t) (j + 1) (el (j + 1) k) + (tb (sn t) j (rem (j + 1) (el (j + 1) k))).2 : Nat) : Int) < (((fbs (sn t) (j + 1) k).2 : Nat) : Int) := by omega
      have hk1 : fbs (sn t) (j + 1) (k + 1) = (el (j + 1) k, co (sn t) (j + 1) (el (j + 1) k) + (tb (sn t) j (rem (j + 1) (el (j + 1) k))).2) := by
        simp only [fbs, fb]; exact if_pos c
      refine ⟨[Ans.o (Orc.val 25 (I (↑((2 : Nat) ^ el (j + (1 : Nat)) k) : Int)) H.nil), Ans.o (Orc.val 26 (I (↑(rem (j + (1 : Nat)) (el (j + (1 : Nat)) k)) : Int)) H.nil), Ans.o (Orc.val 30 (AV.cptr (ints (List.drop (el (j + (1 : Nat)) k) t))) H.nil), Ans.o (Orc.val 31 (I (t.getD (el (j + (1 : Nat)) k) i0)) H.nil), Ans.o (Orc.val 32 (I (↑(andn (rem (j + (1 : Nat)) (el (j + (1 : Nat)) k)) (sn t (el (j + (1 : Nat)) k))) : Int)) H.nil), Ans.o (Orc.val 33 (I (↑(pc (andn (rem (j + (1 : Nat)) (el (j + (1 : Nat)) k)) (sn t (el (j + (1 : Nat)) k)))) : Int)) (H.mk [[AV.sl (ints t) t.length r], pairsA (tbl (sn t) ((2 : Nat) ^ t.length) j), [AV.msl 1 0 ((2 : Nat) ^ t.length) ((2 : Nat) ^ t.length) (2 : Nat)], [I (↑(j + (1 : Nat)) : Int)], [I (↑(fbs (sn t) (j + (1 : Nat)) k).fst : Int), I (↑(fbs (sn t) (j + (1 : Nat)) k).snd : Int)], [I (dI (↑(j + (1 : Nat)) : Int) k)]] [] [])), Ans.o (Orc.val 36 (AV.ptr 1 ((0 : Nat) + rem (j + (1 : Nat)) (el (j + (1 : Nat)) k) * (2 : Nat))) H.nil), Ans.o (Orc.val 38 (I ((tbl (sn t) ((2 : Nat) ^ t.length) j).getD (rem (j + (1 : Nat)) (el (j + (1 : Nat)) k)) pair0).snd) H.nil), Ans.o (Orc.val 39 (I (↑(co (sn t) (j + (1 : Nat)) (el (j + (1 : Nat)) k) + (tb (sn t) j (rem (j + (1 : Nat)) (el (j + (1 : Nat)) k))).snd) : Int)) H.nil), Ans.o (Orc.b true)], fun u => of_eq (aBin Tryd.prog BinOp.shl (3 : Nat) (I 1) (I (↑(el (j + (1 : Nat)) k) : Int)) = some (I (↑((2 : Nat) ^ el (j + (1 : Nat)) k) : Int)) ∧ aBin Tryd.prog BinOp.andNot (3 : Nat) (I (↑(j + (1 : Nat)) : Int)) (I (↑((2 : Nat) ^ el (j + (1 : Nat)) k) : Int)) = some (I (↑(rem (j + (1 : Nat)) (el (j + (1 : Nat)) k)) : Int)) ∧ aIndexAddr Tryd.prog (22 : Nat) (AV.sl (ints t) t.length r) (I (↑(el (j + (1 : Nat)) k) : Int)) = some (AV.cptr (ints (List.drop (el (j + (1 : Nat)) k) t))) ∧ aLoad Tryd.prog (3 : Nat) (ints (List.drop (el (j + (1 : Nat)) k) t)) = some (I (t.getD (el (j + (1 : Nat)) k) i0)) ∧ aBin Tryd.prog BinOp.andNot (3 : Nat) (I (↑(rem (j + (1 : Nat)) (el (j + (1 : Nat)) k)) : Int)) (I (t.getD (el (j + (1 : Nat)) k) i0)) = some (I (↑(andn (rem (j + (1 : Nat)) (el (j + (1 : Nat)) k)) (sn t (el (j + (1 : Nat)) k))) : Int)) ∧ aCall (Sof cs75) (AV.fn (Fn.func (57 : Nat)) [] []) [I (↑(andn (rem (j + (1 : Nat)) (el (j + (1 : Nat)) k)) (sn t (el (j + (1 : Nat)) k))) : Int)] (H.mk [[AV.sl (ints t) t.length r], pairsA (tbl (sn t) ((2 : Nat) ^ t.length) j), [AV.msl 1 0 ((2 : Nat) ^ t.length) ((2 : Nat) ^ t.length) (2 : Nat)], [I (↑(j + (1 : Nat)) : Int)], [I (↑(fbs (sn t) (j + (1 : Nat)) k).fst : Int), I (↑(fbs (sn t) (j + (1 : Nat)) k).snd : Int)], [I (dI (↑(j + (1 : Nat)) : Int) k)]] [] []) = some (I (↑(pc (andn (rem (j + (1 : Nat)) (el (j + (1 : Nat)) k)) (sn t (el (j + (1 : Nat)) k)))) : Int), H.mk [[AV.sl (ints t) t.length r], pairsA (tbl (sn t) ((2 : Nat) ^ t.length) j), [AV.msl 1 0 ((2 : Nat) ^ t.length) ((2 : Nat) ^ t.length) (2 : Nat)], [I (↑(j + (1 : Nat)) : Int)], [I (↑(fbs (sn t) (j + (1 : Nat)) k).fst : Int), I (↑(fbs (sn t) (j + (1 : Nat)) k).snd : Int)], [I (dI (↑(j + (1 : Nat)) : Int) k)]] [] []) ∧ aIndexAddr Tryd.prog (64 : Nat) (AV.msl 1 0 ((2 : Nat) ^ t.length) ((2 : Nat) ^ t.length) (2 : Nat)) (I (↑(rem (j + (1 : Nat)) (el (j + (1 : Nat)) k)) : Int)) = some (AV.ptr 1 ((0 : Nat) + rem (j + (1 : Nat)) (el (j + (1 : Nat)) k) * (2 : Nat))) ∧ aLoad Tryd.prog (3 : Nat) (List.drop ((0 : Nat) + rem (j + (1 : Nat)) (el (j + (1 : Nat)) k) * (2 : Nat) + #[Field.mk "player" (3 : Nat) (0 : Nat) false "" "planchet/ranks" (0 : Nat), Field.mk "against" (3 : Nat) (1 : Nat) false "" "planchet/ranks" (8 : Nat)][(1 : Nat)].offset) (pairsA (tbl (sn t) ((2 : Nat) ^ t.length) j))) = some (I ((tbl (sn t) ((2 : Nat) ^ t.length) j).getD (rem (j + (1 : Nat)) (el (j + (1 : Nat)) k)) pair0).snd) ∧ aBin Tryd.prog BinOp.add (3 : Nat) (I (↑(pc (andn (rem (j + (1 : Nat)) (el (j + (1 : Nat)) k)) (sn t (el (j + (1 : Nat)) k)))) : Int)) (I ((tbl (sn t) ((2 : Nat) ^ t.length) j).getD (rem (j + (1 : Nat)) (el (j + (1 : Nat)) k)) pair0).snd) = some (I (↑(co (sn t) (j + (1 : Nat)) (el (j + (1 : Nat)) k) + (tb (sn t) j (rem (j + (1 : Nat)) (el (j + (1 : Nat)) k))).snd) : Int)) ∧ (↑(co (sn t) (j + (1 : Nat)) (el (j + (1 : Nat)) k) + (tb (sn t) j (rem (j + (1 : Nat)) (el (j + (1 : Nat)) k))).snd) : Int) < (↑(fbs (sn t) (j + (1 : Nat)) k).snd : Int) ∧ True ∧ Keep (powI (5 : Nat) (↑(j + (1 : Nat)) : Int) k (H.mk [[AV.sl (ints t) t.length r], pairsA (tbl (sn t) ((2 : Nat) ^ t.length) j), [AV.msl 1 0 ((2 : Nat) ^ t.length) ((2 : Nat) ^ t.length) (2 : Nat)], [I (↑(j + (1 : Nat)) : Int)], [I (↑(el (j + (1 : Nat)) k) : Int), I (↑(co (sn t) (j + (1 : Nat)) (el (j + (1 : Nat)) k) + (tb (sn t) j (rem (j + (1 : Nat)) (el (j + (1 : Nat)) k))).snd) : Int)], [I (dI (↑(j + (1 : Nat)) : Int) k)]] [] []) ∧ H.mk [[AV.sl (ints t) t.length r], pairsA (tbl (sn t) ((2 : Nat) ^ t.length) j), [AV.msl 1 0 ((2 : Nat) ^ t.length) ((2 : Nat) ^ t.length) (2 : Nat)], [I (↑(j + (1 : Nat)) : Int)], [I (↑(el (j + (1 : Nat)) k) : Int), I (↑(co (sn t) (j + (1 : Nat)) (el (j + (1 : Nat)) k) + (tb (sn t) j (rem (j + (1 : Nat)) (el (j + (1 : Nat)) k))).snd) : Int)], [I (dI (↑(j + (1 : Nat)) : Int) (k + (1 : Nat)))]] [] [] = H.mk [[AV.sl (ints t) t.length r], pairsA (tbl (sn t) ((2 : Nat) ^ t.length) j), [AV.msl 1 0 ((2 : Nat) ^ t.length) ((2 : Nat) ^ t.length) (2 : Nat)], [I (↑(j + (1 : Nat)) : Int)], [I (↑(fbs (sn t) (j + (1 : Nat)) (k + (1 : Nat))).fst : Int), I (↑(fbs (sn t) (j + (1 : Nat)) (k + (1 : Nat))).snd : Int)], [I (dI (↑(j + (1 : Nat)) : Int) (k + (1 : Nat)))]] [] [])) (by kernel_rfl) ?_⟩
      refine ⟨by first | exact told_shl (by first | exact Int.natCast_nonneg _ | omega) (by with_reducible assumption) | exact told_shl (by omega) rfl, ?_⟩
      refine ⟨told_andn (by with_reducible assumption), ?_⟩
      refine ⟨ix_ints (by kernel_rfl) hbits hri, ?_⟩
      refine ⟨by first | exact ld_ints (by kernel_rfl) (by kernel_rfl) (by omega) | exact ldm_ints (by kernel_rfl) (by kernel_rfl) (by first | omega | (simp; omega)), ?_⟩
      refine ⟨told_andn (by with_reducible assumption), ?_⟩
      refine ⟨acall_hit (c := c57.to) (andn (rem (j + 1) (el (j + 1) k)) (sn t (el (j + 1) k))) _ rfl p57, ?_⟩
      refine ⟨ixm_pairs0 (by kernel_rfl) hrn, ?_⟩
      refine ⟨hld, ?_⟩
      refine ⟨told_add (by with_reducible assumption), ?_⟩
      refine ⟨by first | with_reducible assumption | omega | assumption, ?_⟩
      refine ⟨by trivial, ?_⟩
      exact ⟨rfl, by rw [hk1]⟩
    · have c' : (((fbs (sn t) (j + 1) k).2 : Nat) : Int) ≤ ((co (sn t) (j + 1) (el (j + 1) k) + (tb (sn t) j (rem (j + 1) (el (j + 1) k))).2 : Nat) : Int) := by omega
      have hk1 : fbs (sn t) (j + 1) (k + 1) = fbs (sn t) (j + 1) k := by
        simp only [fbs, fb]; exact if_neg c
      refine ⟨[Ans.o (Orc.val 25 (I (↑((2 : Nat) ^ el (j + (1 : Nat)) k) : Int)) H.nil), Ans.o (Orc.val 26 (I (↑(rem (j + (1 : Nat)) (el (j + (1 : Nat)) k)) : Int)) H.nil), Ans.o (Orc.val 30 (AV.cptr (ints (List.drop (el (j + (1 : Nat)) k) t))) H.nil), Ans.o (Orc.val 31 (I (t.getD (el (j + (1 : Nat)) k) i0)) H.nil), Ans.o (Orc.val 32 (I (↑(andn (rem (j + (1 : Nat)) (el (j + (1 : Nat)) k)) (sn t (el (j + (1 : Nat)) k))) : Int)) H.nil), Ans.o (Orc.val 33 (I (↑(pc (andn (rem (j + (1 : Nat)) (el (j + (1 : Nat)) k)) (sn t (el (j + (1 : Nat)) k)))) : Int)) (H.mk [[AV.sl (ints t) t.length r], pairsA (tbl (sn t) ((2 : Nat) ^ t.length) j), [AV.msl 1 0 ((2 : Nat) ^ t.length) ((2 : Nat) ^ t.length) (2 : Nat)], [I (↑(j + (1 : Nat)) : Int)], [I (↑(fbs (sn t) (j + (1 : Nat)) k).fst : Int), I (↑(fbs (sn t) (j + (1 : Nat)) k).snd : Int)], [I (dI (↑(j + (1 : Nat)) : Int) k)]] [] [])), Ans.o (Orc.val 36 (AV.ptr 1 ((0 : Nat) + rem (j + (1 : Nat)) (el (j + (1 : Nat)) k) * (2 : Nat))) H.nil), Ans.o (Orc.val 38 (I ((tbl (sn t) ((2 : Nat) ^ t.length) j).getD (rem (j + (1 : Nat)) (el (j + (1 : Nat)) k)) pair0).snd) H.nil), Ans.o (Orc.val 39 (I (↑(co (sn t) (j + (1 : Nat)) (el (j + (1 : Nat)) k) + (tb (sn t) j (rem (j + (1 : Nat)) (el (j + (1 : Nat)) k))).snd) : Int)) H.nil), Ans.o (Orc.b false)], fun u => of_eq (aBin Tryd.prog BinOp.shl (3 : Nat) (I 1) (I (↑(el (j + (1 : Nat)) k) : Int)) = some (I (↑((2 : Nat) ^ el (j + (1 : Nat)) k) : Int)) ∧ aBin Tryd.prog BinOp.andNot (3 : Nat) (I (↑(j + (1 : Nat)) : Int)) (I (↑((2 : Nat) ^ el (j + (1 : Nat)) k) : Int)) = some (I (↑(rem (j + (1 : Nat)) (el (j + (1 : Nat)) k)) : Int)) ∧ aIndexAddr Tryd.prog (22 : Nat) (AV.sl (ints t) t.length r) (I (↑(el (j + (1 : Nat)) k) : Int)) = some (AV.cptr (ints (List.drop (el (j + (1 : Nat)) k) t))) ∧ aLoad Tryd.prog (3 : Nat) (ints (List.drop (el (j + (1 : Nat)) k) t)) = some (I (t.getD (el (j + (1 : Nat)) k) i0)) ∧ aBin Tryd.prog BinOp.andNot (3 : Nat) (I (↑(rem (j + (1 : Nat)) (el (j + (1 : Nat)) k)) : Int)) (I (t.getD (el (j + (1 : Nat)) k) i0)) = some (I (↑(andn (rem (j + (1 : Nat)) (el (j + (1 : Nat)) k)) (sn t (el (j + (1 : Nat)) k))) : Int)) ∧ aCall (Sof cs75) (AV.fn (Fn.func (57 : Nat)) [] []) [I (↑(andn (rem (j + (1 : Nat)) (el (j + (1 : Nat)) k)) (sn t (el (j + (1 : Nat)) k))) : Int)] (H.mk [[AV.sl (ints t) t.length r], pairsA (tbl (sn t) ((2 : Nat) ^ t.length) j), [AV.msl 1 0 ((2 : Nat) ^ t.length) ((2 : Nat) ^ t.length) (2 : Nat)], [I (↑(j + (1 : Nat)) : Int)], [I (↑(fbs (sn t) (j + (1 : Nat)) k).fst : Int), I (↑(fbs (sn t) (j + (1 : Nat)) k).snd : Int)], [I (dI (↑(j + (1 : Nat)) : Int) k)]] [] []) = some (I (↑(pc (andn (rem (j + (1 : Nat)) (el (j + (1 : Nat)) k)) (sn t (el (j + (1 : Nat)) k)))) : Int), H.mk [[AV.sl (ints t) t.length r], pairsA (tbl (sn t) ((2 : Nat) ^ t.length) j), [AV.msl 1 0 ((2 : Nat) ^ t.length) ((2 : Nat) ^ t.length) (2 : Nat)], [I (↑(j + (1 : Nat)) : Int)], [I (↑(fbs (sn t) (j + (1 : Nat)) k).fst : Int), I (↑(fbs (sn t) (j + (1 : Nat)) k).snd : Int)], [I (dI (↑(j + (1 : Nat)) : Int) k)]] [] []) ∧ aIndexAddr Tryd.prog (64 : Nat) (AV.msl 1 0 ((2 : Nat) ^ t.length) ((2 : Nat) ^ t.length) (2 : Nat)) (I (↑(rem (j + (1 : Nat)) (el (j + (1 : Nat)) k)) : Int)) = some (AV.ptr 1 ((0 : Nat) + rem (j + (1 : Nat)) (el (j + (1 : Nat)) k) * (2 : Nat))) ∧ aLoad Tryd.prog (3 : Nat) (List.drop ((0 : Nat) + rem (j + (1 : Nat)) (el (j + (1 : Nat)) k) * (2 : Nat) + #[Field.mk "player" (3 : Nat) (0 : Nat) false "" "planchet/ranks" (0 : Nat), Field.mk "against" (3 : Nat) (1 : Nat) false "" "planchet/ranks" (8 : Nat)][(1 : Nat)].offset) (pairsA (tbl (sn t) ((2 : Nat) ^ t.length) j))) = some (I ((tbl (sn t) ((2 : Nat) ^ t.length) j).getD (rem (j + (1 : Nat)) (el (j + (1 : Nat)) k)) pair0).snd) ∧ aBin Tryd.prog BinOp.add (3 : Nat) (I (↑(pc (andn (rem (j + (1 : Nat)) (el (j + (1 : Nat)) k)) (sn t (el (j + (1 : Nat)) k)))) : Int)) (I ((tbl (sn t) ((2 : Nat) ^ t.length) j).getD (rem (j + (1 : Nat)) (el (j + (1 : Nat)) k)) pair0).snd) = some (I (↑(co (sn t) (j + (1 : Nat)) (el (j + (1 : Nat)) k) + (tb (sn t) j (rem (j + (1 : Nat)) (el (j + (1 : Nat)) k))).snd) : Int)) ∧ (↑(fbs (sn t) (j + (1 : Nat)) k).snd : Int) ≤ (↑(co (sn t) (j + (1 : Nat)) (el (j + (1 : Nat)) k) + (tb (sn t) j (rem (j + (1 : Nat)) (el (j + (1 : Nat)) k))).snd) : Int) ∧ True ∧ Keep (powI (5 : Nat) (↑(j + (1 : Nat)) : Int) k (H.mk [[AV.sl (ints t) t.length r], pairsA (tbl (sn t) ((2 : Nat) ^ t.length) j), [AV.msl 1 0 ((2 : Nat) ^ t.length) ((2 : Nat) ^ t.length) (2 : Nat)], [I (↑(j + (1 : Nat)) : Int)], [I (↑(fbs (sn t) (j + (1 : Nat)) k).fst : Int), I (↑(fbs (sn t) (j + (1 : Nat)) k).snd : Int)], [I (dI (↑(j + (1 : Nat)) : Int) k)]] [] []) ∧ H.mk [[AV.sl (ints t) t.length r], pairsA (tbl (sn t) ((2 : Nat) ^ t.length) j), [AV.msl 1 0 ((2 : Nat) ^ t.length) ((2 : Nat) ^ t.length) (2 : Nat)], [I (↑(j + (1 : Nat)) : Int)], [I (↑(fbs (sn t) (j + (1 : Nat)) k).fst : Int), I (↑(fbs (sn t) (j + (1 : Nat)) k).snd : Int)], [I (dI (↑(j + (1 : Nat)) : Int) (k + (1 : Nat)))]] [] [] = H.mk [[AV.sl (ints t) t.length r], pairsA (tbl (sn t) ((2 : Nat) ^ t.length) j), [AV.msl 1 0 ((2 : Nat) ^ t.length) ((2 : Nat) ^ t.length) (2 : Nat)], [I (↑(j + (1 : Nat)) : Int)], [I (↑(fbs (sn t) (j + (1 : Nat)) (k + (1 : Nat))).fst : Int), I (↑(fbs (sn t) (j + (1 : Nat)) (k + (1 : Nat))).snd : Int)], [I (dI (↑(j + (1 : Nat)) : Int) (k + (1 : Nat)))]] [] [])) (by kernel_rfl) ?_⟩
      refine ⟨by first | exact told_shl (by first | exact Int.natCast_nonneg _ | omega) (by with_reducible assumption) | exact told_shl (by omega) rfl, ?_⟩
      refine ⟨told_andn (by with_reducible assumption), ?_⟩
      refine ⟨ix_ints (by kernel_rfl) hbits hri, ?_⟩
      refine ⟨by first | exact ld_ints (by kernel_rfl) (by kernel_rfl) (by omega) | exact ldm_ints (by kernel_rfl) (by kernel_rfl) (by first | omega | (simp; omega)), ?_⟩
      refine ⟨told_andn (by with_reducible assumption), ?_⟩
      refine ⟨acall_hit (c := c57.to) (andn (rem (j + 1) (el (j + 1) k)) (sn t (el (j + 1) k))) _ rfl p57, ?_⟩
      refine ⟨ixm_pairs0 (by kernel_rfl) hrn, ?_⟩
      refine ⟨hld, ?_⟩
      refine ⟨told_add (by with_reducible assumption), ?_⟩
      refine ⟨by first | with_reducible assumption | omega | assumption, ?_⟩
      refine ⟨by trivial, ?_⟩
      exact ⟨rfl, by rw [hk1]⟩
  · rintro _ rfl u
    exact .inl ⟨(), trivial, rfl, rfl, rfl⟩
abbrev o75 (t : List Int) (r : Room) : List Out := [.mk Unit (.exit 0) [3] (fun _ => True) (fun _ => [.ptr 2 0]) (fun _ => h75 t r (2 ^ t.length - 1)) (fun _ => [])]
theorem simp75 : allSimpleM M72 (loopAt Tryd.f75 0) = true := by kernel_rfl
theorem lp75 (t : List Int) (r : Room) (h : Tn t) (hr : rok t r) (hrb : r.bnd 0 = true) :
    LoopS (En9 cs75) (loopAt Tryd.f75 0) 53 [1, 3, 4] [.ptr 0 0, .ptr 2 0, .ptr 3 0] (h75 t r 0) (o75 t r) := by
  have hR : Rests (En9 cs75) M72 := rests mixed ct75
  have h8 := h.s.2
  have p8 := pow8 h8
  have hpos := Nat.two_pow_pos t.length
  refine loop_p hR simp75 3 6 (Nat.zero_le _) (by decide) (fun j vs H => H = h75 t r j ∧ vs = [.ptr 0 0, .ptr 2 0, .ptr 3 0]) (2 ^ t.length - 1) ⟨rfl, rfl⟩ (fun _ _ _ en => en_nil _ _ _ en) ?_
  rintro j vs h' hj ⟨rfl, rfl⟩
  by_cases hz : ((j + 1 : Nat) : Int) < ((2 ^ t.length : Nat) : Int)
  · have hz' : j + 1 < 2 ^ t.length := by omega
    have ev0 : IntKind.i64.wrap (((j + 1 : Nat) : Int) + 1) = ((j + 1 + 1 : Nat) : Int) := wj1 (j := j + 1) (by omega)
    have lp := (lp75r t r h hr j hz').less (n := 299) (by decide)
    have p72 : True := trivial
    have hfb := fbs_b (A := sn t) (s := j + 1) (pc (j + 1))
    have e1 : prI (fbs (sn t) (j + 1) (pc (j + 1))) = prI (tb (sn t) (j + 1) (j + 1)) := by rw [tb_fbs]
    have hset := tbl_set (A := sn t) hz'
    rw [← e1] at hset
    have hst : aStore Tryd.prog H.nil.base 67 (.ptr 1 (0 + (j + 1) * 2)) (.agg [I (fbs (sn t) (j + 1) (pc (j + 1))).1, I (fbs (sn t) (j + 1) (pc (j + 1))).2]) (h75r t r j (pc (j + 1))) = some ⟨[[ls t r], pairsA (tbl (sn t) (2 ^ t.length) (j + 1)), [.msl 1 0 (2 ^ t.length) (2 ^ t.length) 2], [I (j + 1 : Nat)], [I (fbs (sn t) (j + 1) (pc (j + 1))).1, I (fbs (sn t) (j + 1) (pc (j + 1))).2], [I (dI (j + 1 : Nat) (pc (j + 1)))]], [], []⟩ := by
      rw [Nat.zero_add]
      have := st_pair (P := Tryd.prog) (t := 67) (β := H.nil.base) (by kernel_rfl) (bs := (h75r t r j (pc (j + 1))).blk) (ts := []) (ms := []) (b := 1) (i := j + 1) (l := tbl (sn t) (2 ^ t.length) j) (x := ((fbs (sn t) (j + 1) (pc (j + 1))).1 : Int)) (y := ((fbs (sn t) (j + 1) (pc (j + 1))).2 : Int)) rfl (by rw [tbl_len]; exact hz')
      refine this.trans ?_
      rw [show (tbl (sn t) (2 ^ t.length) j).set (j + 1) (((fbs (sn t) (j + 1) (pc (j + 1))).1 : Int), ((fbs (sn t) (j + 1) (pc (j + 1))).2 : Int)) = tbl (sn t) (2 ^ t.length) (j + 1) from hset]
      rfl
    have hcn : ∀ zs, (H.mk ([ls t r] :: pairsA (tbl (sn t) (2 ^ t.length) (j + 1)) :: [.msl 1 0 (2 ^ t.length) (2 ^ t.length) 2] :: zs) [] []).clean 3 := fun zs cs hcs => by
      simp only [List.take_succ_cons, List.take_zero, List.mem_cons, List.not_mem_nil, or_false] at hcs
      rcases hcs with rfl | rfl | rfl
      · simp [AV.bnds, AV.bnd, hrb]
      · exact pairsA_bnds _ _ _ _
      · simp [AV.bnds, AV.bnd]
    refine ⟨[Ans.o (Orc.b true), Ans.o (Orc.val 21 (AV.fn (Fn.func (95 : FuncId)) [] [AV.ptr 5 0]) (H.mk [[AV.sl (ints t) t.length r], pairsA (tbl (sn t) ((2 : Nat) ^ t.length) j), [AV.msl 1 0 ((2 : Nat) ^ t.length) ((2 : Nat) ^ t.length) (2 : Nat)], [I (↑(j + (1 : Nat)) : Int)], [I 0, I 29], [I (↑(j + (1 : Nat)) : Int)]] [] [])), Ans.loop [(1 : Nat), (3 : Nat), (4 : Nat), (5 : Nat), (21 : Nat)] [Out.mk Unit AX.normal [(1 : Nat), (3 : Nat), (4 : Nat), (5 : Nat)] (fun x => True) (fun x => [AV.ptr 0 0, AV.ptr 2 0, AV.ptr 3 0, AV.ptr 4 0]) (fun x => h75r t r j (pc (j + (1 : Nat)))) fun y => [Ans.o (Orc.val 50 (AV.ptr 1 ((0 : Nat) + (j + (1 : Nat)) * (2 : Nat))) H.nil), Ans.o (Orc.val 9999 (AV.tup []) (H.mk [[ls t r], pairsA (tbl (sn t) ((2 : Nat) ^ t.length) (j + (1 : Nat))), [AV.msl 1 0 ((2 : Nat) ^ t.length) ((2 : Nat) ^ t.length) (2 : Nat)], [I (↑(j + (1 : Nat)) : Int)], [I (↑(fbs (sn t) (j + (1 : Nat)) (pc (j + (1 : Nat)))).fst : Int), I (↑(fbs (sn t) (j + (1 : Nat)) (pc (j + (1 : Nat)))).snd : Int)], [I (dI (↑(j + (1 : Nat)) : Int) (pc (j + (1 : Nat))))]] [] [])), Ans.o (Orc.val 18 (I (↑(j + (1 : Nat) + (1 : Nat)) : Int)) H.nil)]]], fun u => of_eq ((↑(j + (1 : Nat)) : Int) < (↑((2 : Nat) ^ t.length) : Int) ∧ aCall (Sof cs75) (AV.fn (Fn.func (72 : Nat)) [] []) [I (↑(j + (1 : Nat)) : Int)] (H.mk [[AV.sl (ints t) t.length r], pairsA (tbl (sn t) ((2 : Nat) ^ t.length) j), [AV.msl 1 0 ((2 : Nat) ^ t.length) ((2 : Nat) ^ t.length) (2 : Nat)], [I (↑(j + (1 : Nat)) : Int)], [I 0, I 29]] [] []) = some (AV.fn (Fn.func (95 : FuncId)) [] [AV.ptr 5 0], H.mk [[AV.sl (ints t) t.length r], pairsA (tbl (sn t) ((2 : Nat) ^ t.length) j), [AV.msl 1 0 ((2 : Nat) ^ t.length) ((2 : Nat) ^ t.length) (2 : Nat)], [I (↑(j + (1 : Nat)) : Int)], [I 0, I 29], [I (↑(j + (1 : Nat)) : Int)]] [] []) ∧ RangeS (Env.mk Tryd.prog (Sof cs75) (Pof (P := Tryd.prog) []) H.nil.base (299 : Nat)) (rangeAt Tryd.f75 (0 : Nat)) (53 : Nat) [(1 : Nat), (3 : Nat), (4 : Nat), (5 : Nat), (21 : Nat)] [AV.ptr 0 0, AV.ptr 2 0, AV.ptr 3 0, AV.ptr 4 0, AV.fn (Fn.func (95 : FuncId)) [] [AV.ptr 5 0]] (H.mk [[AV.sl (ints t) t.length r], pairsA (tbl (sn t) ((2 : Nat) ^ t.length) j), [AV.msl 1 0 ((2 : Nat) ^ t.length) ((2 : Nat) ^ t.length) (2 : Nat)], [I (↑(j + (1 : Nat)) : Int)], [I 0, I 29], [I (↑(j + (1 : Nat)) : Int)]] [] []) [Out.mk Unit AX.normal [(1 : Nat), (3 : Nat), (4 : Nat), (5 : Nat)] (fun x => True) (fun x => [AV.ptr 0 0, AV.ptr 2 0, AV.ptr 3 0, AV.ptr 4 0]) (fun x => h75r t r j (pc (j + (1 : Nat)))) fun y => [Ans.o (Orc.val 50 (AV.ptr 1 ((0 : Nat) + (j + (1 : Nat)) * (2 : Nat))) H.nil), Ans.o (Orc.val 9999 (AV.tup []) (H.mk [[ls t r], pairsA (tbl (sn t) ((2 : Nat) ^ t.length) (j + (1 : Nat))), [AV.msl 1 0 ((2 : Nat) ^ t.length) ((2 : Nat) ^ t.length) (2 : Nat)], [I (↑(j + (1 : Nat)) : Int)], [I (↑(fbs (sn t) (j + (1 : Nat)) (pc (j + (1 : Nat)))).fst : Int), I (↑(fbs (sn t) (j + (1 : Nat)) (pc (j + (1 : Nat)))).snd : Int)], [I (dI (↑(j + (1 : Nat)) : Int) (pc (j + (1 : Nat))))]] [] [])), Ans.o (Orc.val 18 (I (↑(j + (1 : Nat) + (1 : Nat)) : Int)) H.nil)]] ∧ (∀ (y : Unit), True → ∀ (u : Nat → AV), aIndexAddr Tryd.prog (64 : Nat) (AV.msl 1 0 ((2 : Nat) ^ t.length) ((2 : Nat) ^ t.length) (2 : Nat)) (I (↑(j + (1 : Nat)) : Int)) = some (AV.ptr 1 ((0 : Nat) + (j + (1 : Nat)) * (2 : Nat))) ∧ aStore Tryd.prog H.nil.base (67 : Nat) (AV.ptr 1 ((0 : Nat) + (j + (1 : Nat)) * (2 : Nat))) (AV.agg [I (↑(fbs (sn t) (j + (1 : Nat)) (pc (j + (1 : Nat)))).fst : Int), I (↑(fbs (sn t) (j + (1 : Nat)) (pc (j + (1 : Nat)))).snd : Int)]) (H.mk [[AV.sl (ints t) t.length r], pairsA (tbl (sn t) ((2 : Nat) ^ t.length) j), [AV.msl 1 0 ((2 : Nat) ^ t.length) ((2 : Nat) ^ t.length) (2 : Nat)], [I (↑(j + (1 : Nat)) : Int)], [I (↑(fbs (sn t) (j + (1 : Nat)) (pc (j + (1 : Nat)))).fst : Int), I (↑(fbs (sn t) (j + (1 : Nat)) (pc (j + (1 : Nat)))).snd : Int)], [I (dI (↑(j + (1 : Nat)) : Int) (pc (j + (1 : Nat))))]] [] []) = some (H.mk [[AV.sl (ints t) t.length r], pairsA (tbl (sn t) ((2 : Nat) ^ t.length) (j + (1 : Nat))), [AV.msl 1 0 ((2 : Nat) ^ t.length) ((2 : Nat) ^ t.length) (2 : Nat)], [I (↑(j + (1 : Nat)) : Int)], [I (↑(fbs (sn t) (j + (1 : Nat)) (pc (j + (1 : Nat)))).fst : Int), I (↑(fbs (sn t) (j + (1 : Nat)) (pc (j + (1 : Nat)))).snd : Int)], [I (dI (↑(j + (1 : Nat)) : Int) (pc (j + (1 : Nat))))]] [] []) ∧ aBin Tryd.prog BinOp.add (3 : Nat) (I (↑(j + (1 : Nat)) : Int)) (I 1) = some (I (↑(j + (1 : Nat) + (1 : Nat)) : Int)) ∧ (53 : Nat) = (53 : Nat) ∧ j < (2 : Nat) ^ t.length - (1 : Nat) ∧ Keep (Picks (3 : Nat) (6 : Nat) (H.mk [[AV.sl (ints t) t.length r], pairsA (tbl (sn t) ((2 : Nat) ^ t.length) (j + (1 : Nat))), [AV.msl 1 0 ((2 : Nat) ^ t.length) ((2 : Nat) ^ t.length) (2 : Nat)], [I (↑(j + (1 : Nat)) : Int)], [I (↑(fbs (sn t) (j + (1 : Nat)) (pc (j + (1 : Nat)))).fst : Int), I (↑(fbs (sn t) (j + (1 : Nat)) (pc (j + (1 : Nat)))).snd : Int)], [I (dI (↑(j + (1 : Nat)) : Int) (pc (j + (1 : Nat))))], [I (↑(j + (1 : Nat) + (1 : Nat)) : Int)]] [] []) ∧ (H.mk [[AV.sl (ints t) t.length r], pairsA (tbl (sn t) ((2 : Nat) ^ t.length) (j + (1 : Nat))), [AV.msl 1 0 ((2 : Nat) ^ t.length) ((2 : Nat) ^ t.length) (2 : Nat)], [I (↑(j + (1 : Nat)) : Int)], [I (↑(fbs (sn t) (j + (1 : Nat)) (pc (j + (1 : Nat)))).fst : Int), I (↑(fbs (sn t) (j + (1 : Nat)) (pc (j + (1 : Nat)))).snd : Int)], [I (dI (↑(j + (1 : Nat)) : Int) (pc (j + (1 : Nat))))], [I (↑(j + (1 : Nat) + (1 : Nat)) : Int)]] [] []).clean (3 : Nat) ∧ H.mk [[AV.sl (ints t) t.length r], pairsA (tbl (sn t) ((2 : Nat) ^ t.length) (j + (1 : Nat))), [AV.msl 1 0 ((2 : Nat) ^ t.length) ((2 : Nat) ^ t.length) (2 : Nat)], [I (↑(j + (1 : Nat) + (1 : Nat)) : Int)]] [] [] = H.mk [[AV.sl (ints t) t.length r], pairsA (tbl (sn t) ((2 : Nat) ^ t.length) (j + (1 : Nat))), [AV.msl 1 0 ((2 : Nat) ^ t.length) ((2 : Nat) ^ t.length) (2 : Nat)], [I (↑(j + (1 : Nat) + (1 : Nat)) : Int)]] [] [] ∧ [AV.ptr 0 0, AV.ptr 2 0, AV.ptr 3 0] = [AV.ptr 0 0, AV.ptr 2 0, AV.ptr 3 0])) ∧ True) (by kernel_rfl) ?_⟩
    refine ⟨by first | with_reducible assumption | omega | assumption, ?_⟩
    refine ⟨by (refine acall_hit (c := c72) ((j + 1 : Nat) : Int) _ rfl ?_; trivial), ?_⟩
    refine ⟨lp, ?_⟩
    refine And.intro ?_ ?_
    · skip
      intro y
      intro w1
      intro u
      refine ⟨ixm_pairs0 (by kernel_rfl) hz', ?_⟩
      refine ⟨hst, ?_⟩
      refine ⟨told_add (by with_reducible assumption), ?_⟩
      refine ⟨by first | with_reducible assumption | omega | assumption, ?_⟩
      refine ⟨by first | with_reducible assumption | omega | assumption, ?_⟩
      exact ⟨⟨by decide, _, rfl, rfl⟩, hcn _, rfl, rfl⟩
    · skip
      trivial
  · have hz : ((2 ^ t.length : Nat) : Int) ≤ ((j + 1 : Nat) : Int) := by omega
    have e : j = 2 ^ t.length - 1 := by omega
    subst e
    refine ⟨[Ans.o (Orc.b false)], fun u => of_eq ((↑((2 : Nat) ^ t.length) : Int) ≤ (↑((2 : Nat) ^ t.length - (1 : Nat) + (1 : Nat)) : Int) ∧ (53 : Nat) = (53 : Nat) ∧ hits [Out.mk Unit (AX.exit (0 : Nat)) [(3 : Nat)] (fun x => True) (fun x => [AV.ptr 2 0]) (fun x => h75 t r ((2 : Nat) ^ t.length - (1 : Nat))) fun x => []] (AX.exit (0 : Nat)) [u (0 : Nat), AV.ptr 0 0, u (2 : Nat), AV.ptr 2 0, AV.ptr 3 0, u (5 : Nat), u (6 : Nat), u (7 : Nat), u (8 : Nat), u (9 : Nat), u (10 : Nat), u (11 : Nat), u (12 : Nat), I (↑((2 : Nat) ^ t.length - (1 : Nat) + (1 : Nat)) : Int), AV.msl 1 0 ((2 : Nat) ^ t.length) ((2 : Nat) ^ t.length) (2 : Nat), I (↑((2 : Nat) ^ t.length) : Int), AV.bool false, u (17 : Nat), u (18 : Nat), u (19 : Nat), u (20 : Nat), u (21 : Nat), u (22 : Nat), u (23 : Nat), u (24 : Nat), u (25 : Nat), u (26 : Nat), u (27 : Nat), u (28 : Nat), u (29 : Nat), u (30 : Nat), u (31 : Nat), u (32 : Nat), u (33 : Nat), u (34 : Nat), u (35 : Nat), u (36 : Nat), u (37 : Nat), u (38 : Nat), u (39 : Nat), u (40 : Nat), u (41 : Nat), u (42 : Nat), u (43 : Nat), u (44 : Nat), u (45 : Nat), u (46 : Nat), u (47 : Nat), u (48 : Nat), u (49 : Nat), u (50 : Nat), u (51 : Nat), u (52 : Nat)] (H.mk [[AV.sl (ints t) t.length r], pairsA (tbl (sn t) ((2 : Nat) ^ t.length) ((2 : Nat) ^ t.length - (1 : Nat))), [AV.msl 1 0 ((2 : Nat) ^ t.length) ((2 : Nat) ^ t.length) (2 : Nat)], [I (↑((2 : Nat) ^ t.length - (1 : Nat) + (1 : Nat)) : Int)]] [] [])) (by kernel_rfl) ?_⟩
    refine ⟨by first | with_reducible assumption | omega | assumption, ?_⟩
    refine ⟨by first | with_reducible assumption | omega | assumption, ?_⟩
    exact .inl ⟨(), trivial, rfl, rfl, rfl⟩
/-- the whole table -/
abbrev bsl (t : List Int) : List Pr := tbl (sn t) (2 ^ t.length) (2 ^ t.length - 1)
theorem leave_mp (l : List Pr) (n : Nat) (hn : l.length = n) (ls0 : AV) (zs : List (List AV)) : leave ⟨0, 0, 0⟩ (.msl 1 0 n n 2) ⟨[ls0] :: pairsA l :: zs, [], []⟩ = (.sl (pairsA l) n .full, .nil) := by
  have hz5 : List.map (frz 0 0 ⟨[ls0] :: pairsA l :: zs, [], []⟩ 5) (pairsA l) = pairsA l := frz_pairs 0 0 _ 3 l
  have hb2 : AV.bnds 0 0 0 (pairsA l) = true := pairsA_bnds 0 0 0 l
  have ht : List.take (n * 2) (List.drop 0 (pairsA l)) = pairsA l := by rw [List.drop_zero]; exact List.take_of_length_le (by rw [pairsA_len]; omega)
  have e1 : frz 0 0 ⟨[ls0] :: pairsA l :: zs, [], []⟩ 6 (.msl 1 0 n n 2) = .sl (pairsA l) n .full := by
    simp only [frz, Nat.not_lt_zero, if_false, List.getElem?_cons_zero, List.getElem?_cons_succ, ht, hz5, if_true]
  generalize pairsA l = c at hb2 e1 ⊢
  simp only [leave, e1]
  simp [AV.bnd, hb2, Room.bnd, retok, H.nil]
theorem ok75 : FokM Tryd.prog M72 75 Tryd.f75 := ⟨mixed, by kernel_rfl, by kernel_rfl, by kernel_rfl, by kernel_rfl⟩
theorem r75 (t : List Int) (r : Room) (h : Tn t) (hr : rok t r) (hrb : r.bnd 0 = true) : Body (En9 cs75) M72 Tryd.f75 [ls t r] .nil (.sl (pairsA (bsl t)) (2 ^ t.length) .full, .nil) := by
  have h8 := h.s.2
  have p8 := pow8 h8
  have ev0 := pw_shl (n := t.length) (by omega)
  have lp := lp75 t r h hr hrb
  have hmk := mk_pairs (P := Tryd.prog) (t := 64) (by kernel_rfl) (n := 2 ^ t.length) (h := ⟨[[ls t r]], [], []⟩) (by omega)
  have e0 : pairsA (List.replicate (2 ^ t.length) pair0) = pairsA (tbl (sn t) (2 ^ t.length) 0) := congrArg pairsA (tbl_zero _ _).symm
  rw [e0] at hmk
  have hmk : aMake Tryd.prog 64 ((2 ^ t.length : Nat) : Int) ((2 ^ t.length : Nat) : Int) ⟨[[ls t r]], [], []⟩ = some (.msl 1 0 (2 ^ t.length) (2 ^ t.length) 2, ⟨[[ls t r], pairsA (tbl (sn t) (2 ^ t.length) 0)], [], []⟩) := hmk
  have lv := leave_mp (bsl t) (2 ^ t.length) (by simp) (ls t r)
  refine body_s ([Ans.o (Orc.val 11 (I (↑((2 : Nat) ^ t.length) : Int)) H.nil), Ans.o (Orc.val 12 (AV.msl (H.mk [[ls t r]] [] []).blk.length (0 : Nat) ((2 : Nat) ^ t.length) ((2 : Nat) ^ t.length) (2 : Nat)) (H.mk ((H.mk [[ls t r]] [] []).blk ++ [pairsA (tbl (sn t) ((2 : Nat) ^ t.length) (0 : Nat))]) (H.mk [[ls t r]] [] []).toks (H.mk [[ls t r]] [] []).maps)), Ans.loop [(1 : Nat), (3 : Nat), (4 : Nat)] [Out.mk Unit (AX.exit (0 : Nat)) [(3 : Nat)] (fun x => True) (fun x => [AV.ptr 2 0]) (fun x => h75 t r ((2 : Nat) ^ t.length - (1 : Nat))) fun y => []]]) (aBin Tryd.prog BinOp.shl (3 : Nat) (I 1) (I (↑t.length : Int)) = some (I (↑((2 : Nat) ^ t.length) : Int)) ∧ aMake Tryd.prog (64 : Nat) (↑((2 : Nat) ^ t.length) : Int) (↑((2 : Nat) ^ t.length) : Int) (H.mk [[AV.sl (ints t) t.length r]] [] []) = some (AV.msl 1 0 ((2 : Nat) ^ t.length) ((2 : Nat) ^ t.length) (2 : Nat), H.mk [[AV.sl (ints t) t.length r], pairsA (tbl (sn t) ((2 : Nat) ^ t.length) (0 : Nat))] [] []) ∧ LoopS (Env.mk Tryd.prog (Sof cs75) (Pof (P := Tryd.prog) []) H.nil.base (299 : Nat)) (loopAt Tryd.f75 (0 : Nat)) (53 : Nat) [(1 : Nat), (3 : Nat), (4 : Nat)] [AV.ptr 0 0, AV.ptr 2 0, AV.ptr 3 0] (H.mk [[AV.sl (ints t) t.length r], pairsA (tbl (sn t) ((2 : Nat) ^ t.length) (0 : Nat)), [AV.msl 1 0 ((2 : Nat) ^ t.length) ((2 : Nat) ^ t.length) (2 : Nat)], [I 1]] [] []) [Out.mk Unit (AX.exit (0 : Nat)) [(3 : Nat)] (fun x => True) (fun x => [AV.ptr 2 0]) (fun x => h75 t r ((2 : Nat) ^ t.length - (1 : Nat))) fun y => []] ∧ (∀ (y : Unit), True → ∀ (u : Nat → AV), leave (Base.mk H.nil.blk.length H.nil.toks.length H.nil.maps.length) (AV.msl 1 0 ((2 : Nat) ^ t.length) ((2 : Nat) ^ t.length) (2 : Nat)) (H.mk [[AV.sl (ints t) t.length r], pairsA (tbl (sn t) ((2 : Nat) ^ t.length) ((2 : Nat) ^ t.length - (1 : Nat))), [AV.msl 1 0 ((2 : Nat) ^ t.length) ((2 : Nat) ^ t.length) (2 : Nat)], [I (↑((2 : Nat) ^ t.length - (1 : Nat) + (1 : Nat)) : Int)]] [] []) = (AV.sl (pairsA (bsl t)) ((2 : Nat) ^ t.length) Room.full, H.mk [] [] [])) ∧ True) (by kernel_rfl) ?_
  refine ⟨by first | exact told_shl (by first | exact Int.natCast_nonneg _ | omega) (by with_reducible assumption) | exact told_shl (by omega) rfl, ?_⟩
  refine ⟨hmk, ?_⟩
  refine ⟨lp, ?_⟩
  refine And.intro ?_ ?_
  · skip
    intro y
    intro w1
    intro u
    exact lv _
  · skip
    trivial
/-- 'firstBest' -/
noncomputable def c75 : PCtr Tryd.prog := sctr ok75 (X := List Int × Room) (fun x => [ls x.1 x.2]) (fun x => Tn x.1 ∧ rok x.1 x.2) (fun x => .sl (pairsA (bsl x.1)) (2 ^ x.1.length) .full)
  (by rintro ⟨l, r⟩ ⟨m, s⟩ e _ _; simp at e; simp only [e.1]) (fun x => by simp [AV.bnds, AV.bnd, AV.wk, rm_wk_bnd]) (fun x => by simp [AV.bnd, Room.bnd]) (fun x hx => ⟨_, _, _, ct75, r75 x.1 x.2.wk hx.1 (by simpa using hx.2) (rm_wk_bnd _)⟩)
end Go.Proofs.Rnk

