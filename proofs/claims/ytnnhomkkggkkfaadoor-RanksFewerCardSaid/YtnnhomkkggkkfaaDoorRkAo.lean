/- Layer 2: results turned, by the program. -/
import Derived.Test.YtnnhomkkggkkfaaDoorRkAn
import Derived.Test.YtnnhomkkggkkfaaDoorRkAj
import Derived.KernelRfl
set_option linter.unusedSimpArgs false
set_option linter.unusedVariables false
set_option linter.unnecessarySimpa false
set_option maxHeartbeats 4000000
set_option maxRecDepth 100000
namespace Go.Proofs.Rnk
open Go Go.VM
open Go.Proofs.Sur (andn andn_bit andn_le i_wrap i_and i_or i_xor i_andn i_shl i_shr bit_01)

theorem pw_shlX {x : Int} (h0 : 0 ≤ x) (h : x ≤ 62) : IntKind.i64.wrap (1 * 2 ^ min x.toNat IntKind.i64.bits) = ((2 ^ x.toNat : Nat) : Int) := by
  obtain ⟨n, rfl⟩ : ∃ n : Nat, x = n := ⟨x.toNat, by omega⟩
  exact pw_shl (n := n) (by omega)
/-- the first half of a turn -/
def T0 (A : Nat → Nat) (a b : Nat) : Nat → Nat := fun e => if e = a then A a ^^^ 2 ^ b else A e
theorem T0_ne {A : Nat → Nat} {a b i : Nat} (h : i ≠ a) : T0 A a b i = A i := by simp only [T0, h, if_false]
theorem T0_T1 {A : Nat → Nat} {a b : Nat} (hne : a ≠ b) : (∀ i, i ≠ b → T1 A a b i = T0 A a b i) ∧ T1 A a b b = T0 A a b b ^^^ 2 ^ a := by
  constructor
  · intro i hi
    simp only [T1, T0, hi, if_false]
    by_cases c : i = a
    · subst c; simp
    · simp [c]
  · simp [T1, T0, Ne.symm hne]
structure TS (n : Nat) (A : Nat → Nat) (x y : Int) : Prop where
  d0 : 0 ≤ x
  d1 : x < (n : Int)
  d2 : 0 ≤ y
  d3 : y < (n : Int)
  d6 : x ≤ 62
  d7 : y ≤ 62
  e0 : x.toNat < n
  e1 : y.toNat < n
  ev1 : IntKind.i64.wrap (1 * 2 ^ min x.toNat IntKind.i64.bits) = ((2 ^ x.toNat : Nat) : Int)
  ev2 : IntKind.i64.wrap (1 * 2 ^ min y.toNat IntKind.i64.bits) = ((2 ^ y.toNat : Nat) : Int)
  ev3 : IntKind.i64.wrap ((BitVec.ofInt IntKind.i64.bits ((wl n A).getD x.toNat i0) ^^^ BitVec.ofInt IntKind.i64.bits ((2 ^ y.toNat : Nat) : Int)).toNat : Int) = ((T0 A x.toNat y.toNat x.toNat : Nat) : Int)
  hs0 : (wl n A).set x.toNat ((T0 A x.toNat y.toNat x.toNat : Nat) : Int) = wl n (T0 A x.toNat y.toNat)
  ev4 : IntKind.i64.wrap ((BitVec.ofInt IntKind.i64.bits ((wl n (T0 A x.toNat y.toNat)).getD y.toNat i0) ^^^ BitVec.ofInt IntKind.i64.bits ((2 ^ x.toNat : Nat) : Int)).toNat : Int) = ((T1 A x.toNat y.toNat y.toNat : Nat) : Int)
  hs1 : (wl n (T0 A x.toNat y.toNat)).set y.toNat ((T1 A x.toNat y.toNat y.toNat : Nat) : Int) = wl n (T1 A x.toNat y.toNat)
theorem ts_ok {n : Nat} {A : Nat → Nat} {l : List Pr} {k : Nat} (h : PK n l k) (h8 : n ≤ 8) (hA : ∀ e, A e < 2 ^ n) : TS n A (l.getD k pair0).1 (l.getD k pair0).2 := by
  have h1 := h.a; have h2 := h.b; have h3 := h.c
  have hne := h.ne.1
  have p8 := pow8 h8
  have q1 : 2 ^ (l.getD k pair0).1.toNat < 2 ^ 8 := Nat.pow_lt_pow_right (by decide) (by omega)
  have q2 : 2 ^ (l.getD k pair0).2.toNat < 2 ^ 8 := Nat.pow_lt_pow_right (by decide) (by omega)
  have a1 := hA (l.getD k pair0).1.toNat
  have a2 := hA (l.getD k pair0).2.toNat
  have ex : (l.getD k pair0).1.toNat < n := by omega
  have ey : (l.getD k pair0).2.toNat < n := by omega
  obtain ⟨t1, t2⟩ := T0_T1 (A := A) hne
  refine ⟨h1, by omega, by omega, h3, by omega, by omega, ex, ey, pw_shlX h1 (by omega), pw_shlX (by omega) (by omega), ?_, ?_, ?_, ?_⟩
  · rw [wl_get A ex, T0, if_pos rfl]
    exact i_xor (by omega) (by omega)
  · exact wl_set A (T0 A _ _) ex fun i hi => T0_ne hi
  · rw [wl_get _ ey, t2]
    have : T0 A (l.getD k pair0).1.toNat (l.getD k pair0).2.toNat (l.getD k pair0).2.toNat = A (l.getD k pair0).2.toNat := T0_ne (Ne.symm hne)
    rw [this]
    exact i_xor (by omega) (by omega)
  · exact wl_set (T0 A _ _) (T1 A _ _) ey fun i hi => t1 i hi
noncomputable abbrev cs47 : List (Ctr Tryd.prog) := [c56.to, c81.to, c54m]
theorem ct47 : Ctrs Tryd.prog M54 cs47 := .pure _ (.pure _ (.eff c54m rfl .nil))
abbrev o47 (t : List Int) (l : List Pr) : List Out := [.mk Unit (.exit 0) [6] (fun _ => True) (fun _ => [mR t.length]) (fun _ => hR t.length (tn t l)) (fun _ => [])]
theorem simp47 : allSimpleM M54 (loopAt Tryd.f47 0) = true := by kernel_rfl
theorem lp47 (t : List Int) (h : Tn t) (l : List Pr) (r : Room) (hr : rok l r) (hrb : r.bnd 0 = true) (hl : prs t.length l) (hll : l.length ≤ 28) :
    LoopS (En6 cs47) (loopAt Tryd.f47 0) 49 [6, 21, 22, 23] [mR t.length, pz l r, I l.length, I 0] (hR t.length (tv (sn t) l 0)) (o47 t l) := by
  have hRs : Rests (En6 cs47) M54 := rests mixed ct47
  have h8 := h.s.2
  refine loop_s hRs simp47 (some 1) (by intro nb h; cases h; exact ⟨Nat.zero_le _, Nat.le_refl 1⟩) (fun k vs H => H = hR t.length (tv (sn t) l k) ∧ vs = [mR t.length, pz l r, I l.length, I k]) l.length ⟨rfl, rfl⟩ (by rintro nb h j vs h' ⟨rfl, _⟩; cases h; exact Nat.le_refl 1) ?_
  rintro k vs H hk ⟨rfl, rfl⟩
  by_cases hz : (k : Int) < l.length
  · have hz' : k < l.length := by omega
    have hri := rok_idx hr hz'
    have ev0 := wj1 (j := k) (by omega)
    have hcl : AV.bnds 1 0 0 [mR t.length, pz l r, I l.length, I (k + 1 : Nat)] = true := by simp [AV.bnds, AV.bnd, hrb]
    have hcn : ∀ z, (H.mk [ints (wl t.length (tv (sn t) l (k + 1))), z] [] []).clean 1 := fun z cs hcs => by simp at hcs; subst hcs; exact ints_bnds _ _ _ _
    obtain ⟨d0, d1, d2, d3, d6, d7, e0, e1, ev1, ev2, ev3, hs0, ev4, hs1⟩ := ts_ok (A := tv (sn t) l k) (hl k hz') h8 (fun e => tv_lt h (fun j hj => hl j (by omega)) e)
    have hs1' : (wl t.length (T0 (tv (sn t) l k) (p1 l k) (p2 l k))).set (p2 l k) ((T1 (tv (sn t) l k) (p1 l k) (p2 l k) (p2 l k) : Nat) : Int) = wl t.length (tv (sn t) l (k + 1)) := hs1
    rw [← hs0] at ev4
    refine ⟨[Ans.o (Orc.b true), Ans.o (Orc.val 25 (AV.cptr (pairsA (List.drop k l))) H.nil), Ans.o (Orc.val 26 (AV.agg [I (l.getD k pair0).fst, I (l.getD k pair0).snd]) H.nil), Ans.o (Orc.val 30 (AV.ptr 0 (l.getD k pair0).fst.toNat) H.nil), Ans.o (Orc.val 31 (I ((wl t.length (tv (sn t) l k)).getD (l.getD k pair0).fst.toNat i0)) H.nil), Ans.o (Orc.val 34 (I (↑((2 : Nat) ^ (l.getD k pair0).snd.toNat) : Int)) H.nil), Ans.o (Orc.val 35 (I (↑(T0 (tv (sn t) l k) (l.getD k pair0).fst.toNat (l.getD k pair0).snd.toNat (l.getD k pair0).fst.toNat) : Int)) H.nil), Ans.o (Orc.val 36 (AV.ptr 0 (l.getD k pair0).fst.toNat) H.nil), Ans.o (Orc.val 9999 (AV.tup []) (H.mk [ints ((wl t.length (tv (sn t) l k)).set (l.getD k pair0).fst.toNat (↑(T0 (tv (sn t) l k) (l.getD k pair0).fst.toNat (l.getD k pair0).snd.toNat (l.getD k pair0).fst.toNat) : Int)), [I (l.getD k pair0).fst, I (l.getD k pair0).snd]] [] [])), Ans.o (Orc.val 40 (AV.ptr 0 (l.getD k pair0).snd.toNat) H.nil), Ans.o (Orc.val 41 (I (((wl t.length (tv (sn t) l k)).set (l.getD k pair0).fst.toNat (↑(T0 (tv (sn t) l k) (l.getD k pair0).fst.toNat (l.getD k pair0).snd.toNat (l.getD k pair0).fst.toNat) : Int)).getD (l.getD k pair0).snd.toNat i0)) H.nil), Ans.o (Orc.val 44 (I (↑((2 : Nat) ^ (l.getD k pair0).fst.toNat) : Int)) H.nil), Ans.o (Orc.val 45 (I (↑(T1 (tv (sn t) l k) (l.getD k pair0).fst.toNat (l.getD k pair0).snd.toNat (l.getD k pair0).snd.toNat) : Int)) H.nil), Ans.o (Orc.val 46 (AV.ptr 0 (l.getD k pair0).snd.toNat) H.nil), Ans.o (Orc.val 9999 (AV.tup []) (H.mk [ints (((wl t.length (tv (sn t) l k)).set (l.getD k pair0).fst.toNat (↑(T0 (tv (sn t) l k) (l.getD k pair0).fst.toNat (l.getD k pair0).snd.toNat (l.getD k pair0).fst.toNat) : Int)).set (l.getD k pair0).snd.toNat (↑(T1 (tv (sn t) l k) (l.getD k pair0).fst.toNat (l.getD k pair0).snd.toNat (l.getD k pair0).snd.toNat) : Int)), [I (l.getD k pair0).fst, I (l.getD k pair0).snd]] [] [])), Ans.o (Orc.val 47 (I (↑(k + (1 : Nat)) : Int)) H.nil)], fun u => of_eq ((↑k : Int) < (↑l.length : Int) ∧ aIndexAddr Tryd.prog (45 : Nat) (AV.sl (pairsA l) l.length r) (I (↑k : Int)) = some (AV.cptr (pairsA (List.drop k l))) ∧ aLoad Tryd.prog (54 : Nat) (pairsA (List.drop k l)) = some (AV.agg [I (l.getD k pair0).fst, I (l.getD k pair0).snd]) ∧ aIndexAddr Tryd.prog (22 : Nat) (AV.msl 0 0 t.length (9223372036854775808 : Nat) (1 : Nat)) (I (l.getD k pair0).fst) = some (AV.ptr 0 (l.getD k pair0).fst.toNat) ∧ aLoad Tryd.prog (3 : Nat) (List.drop (l.getD k pair0).fst.toNat (ints (wl t.length (tv (sn t) l k)))) = some (I ((wl t.length (tv (sn t) l k)).getD (l.getD k pair0).fst.toNat i0)) ∧ aBin Tryd.prog BinOp.shl (3 : Nat) (I 1) (I (l.getD k pair0).snd) = some (I (↑((2 : Nat) ^ (l.getD k pair0).snd.toNat) : Int)) ∧ aBin Tryd.prog BinOp.xor (3 : Nat) (I ((wl t.length (tv (sn t) l k)).getD (l.getD k pair0).fst.toNat i0)) (I (↑((2 : Nat) ^ (l.getD k pair0).snd.toNat) : Int)) = some (I (↑(T0 (tv (sn t) l k) (l.getD k pair0).fst.toNat (l.getD k pair0).snd.toNat (l.getD k pair0).fst.toNat) : Int)) ∧ aIndexAddr Tryd.prog (22 : Nat) (AV.msl 0 0 t.length (9223372036854775808 : Nat) (1 : Nat)) (I (l.getD k pair0).fst) = some (AV.ptr 0 (l.getD k pair0).fst.toNat) ∧ aStore Tryd.prog H.nil.base (3 : Nat) (AV.ptr 0 (l.getD k pair0).fst.toNat) (I (↑(T0 (tv (sn t) l k) (l.getD k pair0).fst.toNat (l.getD k pair0).snd.toNat (l.getD k pair0).fst.toNat) : Int)) (H.mk [ints (wl t.length (tv (sn t) l k)), [I (l.getD k pair0).fst, I (l.getD k pair0).snd]] [] []) = some (H.mk [ints ((wl t.length (tv (sn t) l k)).set (l.getD k pair0).fst.toNat (↑(T0 (tv (sn t) l k) (l.getD k pair0).fst.toNat (l.getD k pair0).snd.toNat (l.getD k pair0).fst.toNat) : Int)), [I (l.getD k pair0).fst, I (l.getD k pair0).snd]] [] []) ∧ aIndexAddr Tryd.prog (22 : Nat) (AV.msl 0 0 t.length (9223372036854775808 : Nat) (1 : Nat)) (I (l.getD k pair0).snd) = some (AV.ptr 0 (l.getD k pair0).snd.toNat) ∧ aLoad Tryd.prog (3 : Nat) (List.drop (l.getD k pair0).snd.toNat (ints ((wl t.length (tv (sn t) l k)).set (l.getD k pair0).fst.toNat (↑(T0 (tv (sn t) l k) (l.getD k pair0).fst.toNat (l.getD k pair0).snd.toNat (l.getD k pair0).fst.toNat) : Int)))) = some (I (((wl t.length (tv (sn t) l k)).set (l.getD k pair0).fst.toNat (↑(T0 (tv (sn t) l k) (l.getD k pair0).fst.toNat (l.getD k pair0).snd.toNat (l.getD k pair0).fst.toNat) : Int)).getD (l.getD k pair0).snd.toNat i0)) ∧ aBin Tryd.prog BinOp.shl (3 : Nat) (I 1) (I (l.getD k pair0).fst) = some (I (↑((2 : Nat) ^ (l.getD k pair0).fst.toNat) : Int)) ∧ aBin Tryd.prog BinOp.xor (3 : Nat) (I (((wl t.length (tv (sn t) l k)).set (l.getD k pair0).fst.toNat (↑(T0 (tv (sn t) l k) (l.getD k pair0).fst.toNat (l.getD k pair0).snd.toNat (l.getD k pair0).fst.toNat) : Int)).getD (l.getD k pair0).snd.toNat i0)) (I (↑((2 : Nat) ^ (l.getD k pair0).fst.toNat) : Int)) = some (I (↑(T1 (tv (sn t) l k) (l.getD k pair0).fst.toNat (l.getD k pair0).snd.toNat (l.getD k pair0).snd.toNat) : Int)) ∧ aIndexAddr Tryd.prog (22 : Nat) (AV.msl 0 0 t.length (9223372036854775808 : Nat) (1 : Nat)) (I (l.getD k pair0).snd) = some (AV.ptr 0 (l.getD k pair0).snd.toNat) ∧ aStore Tryd.prog H.nil.base (3 : Nat) (AV.ptr 0 (l.getD k pair0).snd.toNat) (I (↑(T1 (tv (sn t) l k) (l.getD k pair0).fst.toNat (l.getD k pair0).snd.toNat (l.getD k pair0).snd.toNat) : Int)) (H.mk [ints ((wl t.length (tv (sn t) l k)).set (l.getD k pair0).fst.toNat (↑(T0 (tv (sn t) l k) (l.getD k pair0).fst.toNat (l.getD k pair0).snd.toNat (l.getD k pair0).fst.toNat) : Int)), [I (l.getD k pair0).fst, I (l.getD k pair0).snd]] [] []) = some (H.mk [ints (((wl t.length (tv (sn t) l k)).set (l.getD k pair0).fst.toNat (↑(T0 (tv (sn t) l k) (l.getD k pair0).fst.toNat (l.getD k pair0).snd.toNat (l.getD k pair0).fst.toNat) : Int)).set (l.getD k pair0).snd.toNat (↑(T1 (tv (sn t) l k) (l.getD k pair0).fst.toNat (l.getD k pair0).snd.toNat (l.getD k pair0).snd.toNat) : Int)), [I (l.getD k pair0).fst, I (l.getD k pair0).snd]] [] []) ∧ aBin Tryd.prog BinOp.add (3 : Nat) (I (↑k : Int)) (I 1) = some (I (↑(k + (1 : Nat)) : Int)) ∧ (49 : Nat) = (49 : Nat) ∧ k < l.length ∧ Keep (AV.bnds (1 : Nat) (0 : Nat) (0 : Nat) [AV.msl 0 0 t.length (9223372036854775808 : Nat) (1 : Nat), AV.sl (pairsA l) l.length r, I (↑l.length : Int), I (↑(k + (1 : Nat)) : Int)] = true ∧ (H.mk [ints (((wl t.length (tv (sn t) l k)).set (l.getD k pair0).fst.toNat (↑(T0 (tv (sn t) l k) (l.getD k pair0).fst.toNat (l.getD k pair0).snd.toNat (l.getD k pair0).fst.toNat) : Int)).set (l.getD k pair0).snd.toNat (↑(T1 (tv (sn t) l k) (l.getD k pair0).fst.toNat (l.getD k pair0).snd.toNat (l.getD k pair0).snd.toNat) : Int)), [I (l.getD k pair0).fst, I (l.getD k pair0).snd]] [] []).clean (1 : Nat) ∧ H.mk [ints (((wl t.length (tv (sn t) l k)).set (l.getD k pair0).fst.toNat (↑(T0 (tv (sn t) l k) (l.getD k pair0).fst.toNat (l.getD k pair0).snd.toNat (l.getD k pair0).fst.toNat) : Int)).set (l.getD k pair0).snd.toNat (↑(T1 (tv (sn t) l k) (l.getD k pair0).fst.toNat (l.getD k pair0).snd.toNat (l.getD k pair0).snd.toNat) : Int))] [] [] = H.mk [ints (wl t.length (tv (sn t) l (k + (1 : Nat))))] [] [] ∧ [AV.msl 0 0 t.length (9223372036854775808 : Nat) (1 : Nat), AV.sl (pairsA l) l.length r, I (↑l.length : Int), I (↑(k + (1 : Nat)) : Int)] = [AV.msl 0 0 t.length (9223372036854775808 : Nat) (1 : Nat), AV.sl (pairsA l) l.length r, I (↑l.length : Int), I (↑(k + (1 : Nat)) : Int)])) (by kernel_rfl) ?_⟩
    refine ⟨by first | with_reducible assumption | omega | assumption, ?_⟩
    refine ⟨ix_pairs (by kernel_rfl) hz' hri, ?_⟩
    refine ⟨ld_pairs (by kernel_rfl) (by kernel_rfl) (by kernel_rfl) (by omega), ?_⟩
    refine ⟨by first | exact ixm0_int (by kernel_rfl) d0 d1 | exact ixm0_int (by kernel_rfl) d2 d3, ?_⟩
    refine ⟨by first | exact ldm_ints (by kernel_rfl) (by kernel_rfl) (by rw [wl_len]; exact e0) | exact ldm_ints (by kernel_rfl) (by kernel_rfl) (by rw [List.length_set, wl_len]; exact e1), ?_⟩
    refine ⟨by first | exact told_shl (by first | exact Int.natCast_nonneg _ | omega) (by with_reducible assumption) | exact told_shl (by omega) rfl, ?_⟩
    refine ⟨told_xor (by with_reducible assumption), ?_⟩
    refine ⟨by first | exact ixm0_int (by kernel_rfl) d0 d1 | exact ixm0_int (by kernel_rfl) d2 d3, ?_⟩
    refine ⟨by first | exact st_ints (by kernel_rfl) rfl (by rw [wl_len]; exact e0) | exact st_ints (by kernel_rfl) rfl (by rw [List.length_set, wl_len]; exact e1), ?_⟩
    refine ⟨by first | exact ixm0_int (by kernel_rfl) d0 d1 | exact ixm0_int (by kernel_rfl) d2 d3, ?_⟩
    refine ⟨by first | exact ldm_ints (by kernel_rfl) (by kernel_rfl) (by rw [wl_len]; exact e0) | exact ldm_ints (by kernel_rfl) (by kernel_rfl) (by rw [List.length_set, wl_len]; exact e1), ?_⟩
    refine ⟨by first | exact told_shl (by first | exact Int.natCast_nonneg _ | omega) (by with_reducible assumption) | exact told_shl (by omega) rfl, ?_⟩
    refine ⟨told_xor (by with_reducible assumption), ?_⟩
    refine ⟨by first | exact ixm0_int (by kernel_rfl) d0 d1 | exact ixm0_int (by kernel_rfl) d2 d3, ?_⟩
    refine ⟨by first | exact st_ints (by kernel_rfl) rfl (by rw [wl_len]; exact e0) | exact st_ints (by kernel_rfl) rfl (by rw [List.length_set, wl_len]; exact e1), ?_⟩
    refine ⟨told_add (by with_reducible assumption), ?_⟩
    refine ⟨by first | with_reducible assumption | omega | assumption, ?_⟩
    refine ⟨by first | with_reducible assumption | omega | assumption, ?_⟩
    (rw [hs0, hs1']; exact ⟨hcl, hcn _, rfl, rfl⟩)
  · have hz : (l.length : Int) ≤ k := by omega
    have e : k = l.length := by omega
    subst e
    refine ⟨[Ans.o (Orc.b false)], fun u => of_eq ((↑l.length : Int) ≤ (↑l.length : Int) ∧ (49 : Nat) = (49 : Nat) ∧ hits [Out.mk Unit (AX.exit (0 : Nat)) [(6 : Nat)] (fun x => True) (fun x => [mR t.length]) (fun x => hR t.length (tn t l)) fun x => []] (AX.exit (0 : Nat)) [u (0 : Nat), u (1 : Nat), u (2 : Nat), u (3 : Nat), u (4 : Nat), u (5 : Nat), AV.msl 0 0 t.length (9223372036854775808 : Nat) (1 : Nat), u (7 : Nat), u (8 : Nat), u (9 : Nat), u (10 : Nat), u (11 : Nat), u (12 : Nat), u (13 : Nat), u (14 : Nat), u (15 : Nat), u (16 : Nat), u (17 : Nat), u (18 : Nat), u (19 : Nat), u (20 : Nat), AV.sl (pairsA l) l.length r, I (↑l.length : Int), I (↑l.length : Int), AV.bool false, u (25 : Nat), u (26 : Nat), u (27 : Nat), u (28 : Nat), u (29 : Nat), u (30 : Nat), u (31 : Nat), u (32 : Nat), u (33 : Nat), u (34 : Nat), u (35 : Nat), u (36 : Nat), u (37 : Nat), u (38 : Nat), u (39 : Nat), u (40 : Nat), u (41 : Nat), u (42 : Nat), u (43 : Nat), u (44 : Nat), u (45 : Nat), u (46 : Nat), u (47 : Nat), u (48 : Nat)] (H.mk [ints (wl t.length (tv (sn t) l l.length))] [] [])) (by kernel_rfl) ?_⟩
    refine ⟨by first | with_reducible assumption | omega | assumption, ?_⟩
    refine ⟨by first | with_reducible assumption | omega | assumption, ?_⟩
    exact .inl ⟨(), trivial, rfl, rfl, rfl⟩
theorem ok47 : FokM Tryd.prog M54 47 Tryd.f47 := ⟨mixed, by kernel_rfl, by kernel_rfl, by kernel_rfl, by kernel_rfl⟩
/-- what is asked of a slice of pairs -/
abbrev pP (l : List Pr) (r : Room) : Prop := lim l.length ∧ rok l r ∧ emp l r
theorem leave_mRt (n : Nat) (A : Nat → Nat) (hn : n ≤ 8) (bs : List (List AV)) : leave ⟨0, 0, 0⟩ (.tup [mR n, I 0]) ⟨ints (wl n A) :: bs, [], []⟩ = (.tup [.sl (ints (wl n A)) n .no, I 0], .nil) := by
  have hz := enc_frz ints_c1 (wl n A) 0 0 ⟨ints (wl n A) :: bs, [], []⟩ 3
  have hb2 := enc_bnds ints_c1 (wl n A) 0 0 0
  have ht : List.take (n * 1) (List.drop 0 (ints (wl n A))) = ints (wl n A) := by rw [Nat.mul_one, List.drop_zero]; exact List.take_of_length_le (by simp)
  have hz5 : List.map (frz 0 0 ⟨ints (wl n A) :: bs, [], []⟩ 4) (ints (wl n A)) = ints (wl n A) := hz
  have hb2 : AV.bnds 0 0 0 (ints (wl n A)) = true := hb2
  have hnc : ¬ noCap = n := by intro q; rw [← q] at hn; exact absurd hn (by decide)
  have e1 : frz 0 0 ⟨ints (wl n A) :: bs, [], []⟩ 6 (.tup [mR n, I 0]) = .tup [.sl (ints (wl n A)) n .no, I 0] := by
    simp only [frz, List.map_cons, List.map_nil, Nat.not_lt_zero, if_false, List.getElem?_cons_zero, ht, hz5, if_neg hnc]
  generalize ints (wl n A) = c at hb2 e1 ⊢
  simp only [leave, e1]
  simp [AV.bnd, AV.bnds, hb2, Room.bnd, retok, H.nil]
theorem r47t (t : List Int) (h : Tn t) (l : List Pr) (r : Room) (hp : pP l r) (hrb : r.bnd 0 = true) (hl : PB t.length l) : Body (En6 cs47) M54 Tryd.f47 [ls t .no, pz l r] .nil (.tup [.sl (ints (tnl t l)) t.length .no, I 0], .nil) := by
  have h8 := h.s.2
  have h1 := h.s.1
  have hrt : rok t .no := fun _ => no_ne
  have hb := tn_t h
  have hpb := pB_t hl
  have p56 : (lim t.length ∧ rok t .no) ∧ inI t := ⟨⟨by simp only [lim]; omega, hrt⟩, fun i _ => by have := h.s8 i; simp only [s8] at this; simp only [i64]; omega⟩
  have lp := lp47 t h l r hp.2.1 hrb (fun j hj => (hl.h.h j hj).p) hl.le
  have e : ints t = ints (wl t.length (tv (sn t) l 0)) := congrArg ints (wl_sn h).symm
  simp only [hR] at lp
  rw [← e] at lp
  have lv := leave_mRt t.length (tn t l) h8
  refine body_s ([Ans.o (Orc.val 10 (AV.bool true) (H.mk [] [] [])), Ans.o (Orc.val 16 (AV.bool true) (H.mk [] [] [])), Ans.o (Orc.val 20 (AV.msl 0 0 t.length (9223372036854775808 : Nat) (1 : Nat)) (H.mk [ints t] [] [])), Ans.loop [(6 : Nat), (21 : Nat), (22 : Nat), (23 : Nat)] [Out.mk Unit (AX.exit (0 : Nat)) [(6 : Nat)] (fun x => True) (fun x => [mR t.length]) (fun x => hR t.length (tn t l)) fun y => []]]) (aCall (Sof cs47) (AV.fn (Fn.func (56 : Nat)) [] []) [AV.sl (ints t) t.length Room.no] (H.mk [] [] []) = some (AV.bool true, H.mk [] [] []) ∧ aCall (Sof cs47) (AV.fn (Fn.func (81 : Nat)) [] []) [AV.sl (pairsA l) l.length r, I (↑t.length : Int)] (H.mk [] [] []) = some (AV.bool true, H.mk [] [] []) ∧ aCall (Sof cs47) (AV.fn (Fn.func (54 : Nat)) [] []) [AV.sl (ints t) t.length Room.no] (H.mk [] [] []) = some (AV.msl 0 0 t.length (9223372036854775808 : Nat) (1 : Nat), H.mk [ints t] [] []) ∧ LoopS (Env.mk Tryd.prog (Sof cs47) (Pof (P := Tryd.prog) []) H.nil.base (300 : Nat)) (loopAt Tryd.f47 (0 : Nat)) (49 : Nat) [(6 : Nat), (21 : Nat), (22 : Nat), (23 : Nat)] [AV.msl 0 0 t.length (9223372036854775808 : Nat) (1 : Nat), AV.sl (pairsA l) l.length r, I (↑l.length : Int), I 0] (H.mk [ints t] [] []) [Out.mk Unit (AX.exit (0 : Nat)) [(6 : Nat)] (fun x => True) (fun x => [mR t.length]) (fun x => hR t.length (tn t l)) fun y => []] ∧ (∀ (y : Unit), True → ∀ (u : Nat → AV), leave (Base.mk H.nil.blk.length H.nil.toks.length H.nil.maps.length) (AV.tup [AV.msl 0 0 t.length (9223372036854775808 : Nat) (1 : Nat), I 0]) (H.mk [ints (wl t.length (tn t l))] [] []) = (AV.tup [AV.sl (ints (tnl t l)) t.length Room.no, I 0], H.mk [] [] [])) ∧ True) (by kernel_rfl) ?_
  refine ⟨acall_b (acall_hit (c := c56.to) (t, .no) _ rfl p56) hb, ?_⟩
  refine ⟨acall_b (acall_hit (c := c81.to) ((l, r), t.length) _ rfl hp) hpb, ?_⟩
  refine ⟨acall_hit (c := c54m) t _ rfl ⟨rfl, h1, h8⟩, ?_⟩
  refine ⟨lp, ?_⟩
  refine And.intro ?_ ?_
  · skip
    intro y
    intro w1
    intro u
    exact lv _
  · skip
    trivial
theorem r47p (t : List Int) (s : Room) (hs : rok t s) (h : Tn t) (l : List Pr) (r : Room) (hp : pP l r) (hl : ¬ PB t.length l) : Body (En6 [c56.to, c81.to]) M54 Tryd.f47 [ls t s, pz l r] .nil (.tup [.sl [] 0 .nil, I 2], .nil) := by
  have h8 := h.s.2
  have hb := tn_t h
  have hpb := pB_f hl
  have p56 : (lim t.length ∧ rok t s) ∧ inI t := ⟨⟨by simp only [lim]; omega, hs⟩, fun i _ => by have := h.s8 i; simp only [s8] at this; simp only [i64]; omega⟩
  refine body_s ([Ans.o (Orc.val 10 (AV.bool true) (H.mk [] [] [])), Ans.o (Orc.val 16 (AV.bool false) (H.mk [] [] []))]) (aCall (Sof [c56.to, c81.to]) (AV.fn (Fn.func (56 : Nat)) [] []) [AV.sl (ints t) t.length s] (H.mk [] [] []) = some (AV.bool true, H.mk [] [] []) ∧ aCall (Sof [c56.to, c81.to]) (AV.fn (Fn.func (81 : Nat)) [] []) [AV.sl (pairsA l) l.length r, I (↑t.length : Int)] (H.mk [] [] []) = some (AV.bool false, H.mk [] [] []) ∧ (AV.tup [AV.sl [] (0 : Nat) Room.nil, I 2], H.mk [] [] []) = (AV.tup [AV.sl [] (0 : Nat) Room.nil, I 2], H.mk [] [] [])) (by kernel_rfl) ?_
  refine ⟨acall_b (acall_hit (c := c56.to) (t, s) _ rfl p56) hb, ?_⟩
  refine ⟨acall_b (acall_hit (c := c81.to) ((l, r), t.length) _ rfl hp) hpb, ?_⟩
  first | with_reducible rfl | (refine bleaf_t ?_; omega) | (refine bleaf_f ?_; omega) | (refine ileaf ?_; omega) | rfl | (exfalso; omega)
theorem emp_wk {l : List Pr} {r : Room} (h : emp l r) : emp l r.wk := fun e => by
  cases r <;> first | (cases e; done) | exact h rfl
theorem pP_wk {l : List Pr} {r : Room} (h : pP l r) : pP l r.wk := ⟨h.1, by simpa using h.2.1, emp_wk h.2.2⟩
/-- 'Turn' of a tournament and pairs of it -/
noncomputable def c47t : PCtr Tryd.prog := sctr ok47 (X := List Int × List Pr × Room) (fun x => [ls x.1 .no, pz x.2.1 x.2.2]) (fun x => (Tn x.1 ∧ PB x.1.length x.2.1) ∧ pP x.2.1 x.2.2) (fun x => .tup [.sl (ints (tnl x.1 x.2.1)) x.1.length .no, I 0])
  (by rintro ⟨t, l, r⟩ ⟨t', l', r'⟩ e _ _; simp only [List.cons.injEq, and_true] at e; obtain ⟨e1, e2⟩ := e; simp only [AV.sl.injEq, and_true] at e1; obtain ⟨e1, _⟩ := e1; have := ints_inj e1; subst this; rw [(pz_in e2).1]) (fun x => by simp [AV.bnds, AV.bnd, AV.wk, rm_wk_bnd]) (fun x => by simp [AV.bnd, AV.bnds, Room.bnd])
  (fun x hx => ⟨_, _, _, ct47, r47t x.1 hx.1.1 x.2.1 x.2.2.wk (pP_wk hx.2) (rm_wk_bnd _) hx.1.2⟩)
/-- 'Turn' of what are no pairs -/
noncomputable def c47p : PCtr Tryd.prog := sctr ok47 (X := (List Int × Room) × List Pr × Room) (fun x => [ls x.1.1 x.1.2, pz x.2.1 x.2.2]) (fun x => ((Tn x.1.1 ∧ rok x.1.1 x.1.2) ∧ ¬ PB x.1.1.length x.2.1) ∧ pP x.2.1 x.2.2) (fun _ => .tup [.sl [] 0 .nil, I 2])
  (by intro x y e _ _; rfl) (fun x => by simp [AV.bnds, AV.bnd, AV.wk, rm_wk_bnd]) (fun x => by simp [AV.bnd, AV.bnds, Room.bnd])
  (fun x hx => ⟨_, _, _, .pure _ (.pure _ .nil), r47p x.1.1 x.1.2.wk (by simpa using hx.1.1.2) hx.1.1.1 x.2.1 x.2.2.wk (pP_wk hx.2) hx.1.2⟩)
end Go.Proofs.Rnk

