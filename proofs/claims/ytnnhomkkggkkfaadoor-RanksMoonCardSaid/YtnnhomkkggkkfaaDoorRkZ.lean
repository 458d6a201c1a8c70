/- Layer 2: whom each player reaches, by the program. -/
import Derived.Test.YtnnhomkkggkkfaaDoorRkY
import Derived.Test.YtnnhomkkggkkfaaDoorVm8
import Derived.Test.YtnnhomkkggkkfaaDoorVm7
import Derived.KernelRfl
set_option linter.unusedSimpArgs false
set_option linter.unusedVariables false
set_option linter.unnecessarySimpa false
set_option maxHeartbeats 4000000
set_option maxRecDepth 100000
namespace Go.Proofs.Rnk
open Go Go.VM
open Go.Proofs.Sur (andn andn_bit andn_le i_wrap i_and i_or i_andn i_shl i_shr bit_01)

theorem thaw_call {P : Program} {f : FuncId} {args cs : List AV} {n : Nat} (hc : CallOk P f args .nil (.sl cs n (.tok 0 1)) ⟨[], [n], []⟩) (hcs : AV.inds [] cs = true) :
    CallOk P f args .nil (.msl 0 0 n noCap 1) ⟨[cs], [], []⟩ := by
  intro G w vs s hgl hr
  refine (hc G w vs s hgl hr).mono ?_
  rintro e w' ⟨G1, u, rfl, st, s1, hv⟩
  obtain ⟨G2, s2, st2, rel⟩ := thaw_ok s rfl st s1 (k := 0) (n := n) (z := 1) (cs := cs) rfl rfl hv hcs (by intro x hx; cases hx)
  refine ⟨G2, u, rfl, st2, s2, ?_⟩
  have := rel.1 _ _ (by simp [tOk]) hv
  simpa [thw] using this
def wl (n : Nat) (A : Nat → Nat) : List Int := (List.range n).map fun e => ((A e : Nat) : Int)
@[simp] theorem wl_len (n : Nat) (A : Nat → Nat) : (wl n A).length = n := by simp [wl]
theorem wl_get {n : Nat} (A : Nat → Nat) {k : Nat} (hk : k < n) : (wl n A).getD k i0 = ((A k : Nat) : Int) := by
  simp [wl, List.getD_eq_getElem?_getD, hk]
theorem wl_ext {n : Nat} {A B : Nat → Nat} (h : ∀ e, e < n → A e = B e) : wl n A = wl n B := by
  apply List.map_congr_left
  intro e he
  rw [h e (List.mem_range.1 he)]
theorem wl_set {n : Nat} (A B : Nat → Nat) {k : Nat} (hk : k < n) (h : ∀ i, i ≠ k → B i = A i) : (wl n A).set k ((B k : Nat) : Int) = wl n B := by
  apply List.ext_getElem
  · simp
  · intro i h1 h2
    have hi : i < n := by simpa using h1
    simp only [List.getElem_set]
    by_cases e : k = i
    · subst e; rw [if_pos rfl]; simp [wl]
    · rw [if_neg e]; simp [wl, h i (fun q => e q.symm)]
theorem wl_sn {t : List Int} (h : Tn t) : wl t.length (sn t) = t := by
  apply List.ext_getElem
  · simp
  · intro i h1 h2
    have := (h.sn i).2
    simp only [wl, List.getElem_map, List.getElem_range]
    rw [this]
    simp [ia, List.getD_eq_getElem?_getD, h2]
abbrev mR (n : Nat) : AV := .msl 0 0 n noCap 1
abbrev hR (n : Nat) (A : Nat → Nat) : H := ⟨[ints (wl n A)], [], []⟩
theorem leave_mR (n : Nat) (A : Nat → Nat) (hn : n ≤ 8) : leave ⟨0, 0, 0⟩ (mR n) (hR n A) = (.sl (ints (wl n A)) n .no, .nil) := by
  have hz := enc_frz ints_c1 (wl n A) 0 0 (hR n A) 3
  have hb2 := enc_bnds ints_c1 (wl n A) 0 0 0
  have hl := wl_len n A
  have ht : List.take (n * 1) (List.drop 0 (ints (wl n A))) = ints (wl n A) := by rw [Nat.mul_one, List.drop_zero]; exact List.take_of_length_le (by simp)
  have hz : List.map (frz 0 0 (hR n A) 4) (ints (wl n A)) = ints (wl n A) := hz
  have hz5 : List.map (frz 0 0 (hR n A) 5) (ints (wl n A)) = ints (wl n A) := enc_frz ints_c1 (wl n A) 0 0 (hR n A) 4
  have hz6 : List.map (frz 0 0 (hR n A) 6) (ints (wl n A)) = ints (wl n A) := enc_frz ints_c1 (wl n A) 0 0 (hR n A) 5
  have hb2 : AV.bnds 0 0 0 (ints (wl n A)) = true := hb2
  have hnc : ¬ noCap = n := by intro q; rw [← q] at hn; exact absurd hn (by decide)
  have e1 : frz 0 0 (hR n A) 6 (mR n) = .sl (ints (wl n A)) n .no := by
    simp only [frz, Nat.not_lt_zero, if_false, List.getElem?_cons_zero, ht, hz5, if_neg hnc]
  simp only [hR] at e1 ⊢
  generalize ints (wl n A) = c at hb2 e1 ⊢
  simp only [leave, e1]
  simp [AV.bnd, AV.bnds, hb2, Room.bnd, retok, H.nil]
noncomputable def c54m : Ctr Tryd.prog where
  f := 54
  X := List Int
  args t := [ls t .no]
  pre t h := h = .nil ∧ 1 ≤ t.length ∧ t.length ≤ 8
  res t _ := (mR t.length, ⟨[ints t], [], []⟩)
  det := by
    rintro l m h e _ _
    simp only [List.cons.injEq, AV.sl.injEq, and_true] at e
    have := ints_inj e.1
    subst this; rfl
  ok := by
    rintro t h ⟨rfl, h1, h2⟩
    refine ⟨ok54.call, ?_⟩
    cases t with
    | nil => simp at h1
    | cons x l =>
      have := (r54 x l _ rfl (by omega)).run ok54 .nil rfl
      exact thaw_call this (inds_ints _ _)
noncomputable def c67m : Ctr Tryd.prog where
  f := 67
  X := (Nat × (Nat → Nat)) × Nat × Nat
  args x := [mR x.1.1, I x.2.1, I x.2.2]
  pre x h := h.blk[0]? = some (ints (wl x.1.1 x.1.2)) ∧ (1 ≤ x.1.1 ∧ x.1.1 ≤ 8) ∧ x.2.1 < x.1.1 ∧ x.2.2 ≤ 64 ∧ x.1.2 x.2.1 < 256
  res x h := (.bool ((x.1.2 x.2.1).testBit x.2.2), h)
  det := by
    rintro ⟨⟨n, A⟩, i, j⟩ ⟨⟨m, B⟩, k, l⟩ h e p q
    simp only [List.cons.injEq, AV.int.injEq, AV.msl.injEq, true_and, and_true, Int.natCast_inj] at e
    obtain ⟨rfl, rfl, rfl⟩ := e
    have h1 := p.1.symm.trans q.1
    simp only [Option.some.injEq] at h1
    have h2 := ints_inj h1
    have h3 : A i = B i := by
      have h4 : i < n := p.2.2.1
      have := wl_get A h4
      rw [h2, wl_get B h4] at this
      omega
    simp only [h3]
  ok := by
    rintro ⟨⟨n, A⟩, i, j⟩ h ⟨hb, ⟨h1, h8⟩, hi, hj, hA⟩
    simp only at hb h1 h8 hi hj hA
    have hlen : (wl n A).length = n := wl_len n A
    have hx : s8 (ia (wl n A) i) := by
      show s8 ((wl n A).getD i i0)
      rw [wl_get A hi]; simp only [s8]; omega
    have hc := c67.ok (wl n A, .no, i, j) ⟨⟨fun _ => no_ne, by show i < (wl n A).length; omega⟩, hj, hx⟩
    refine ⟨hc.1, ?_⟩
    have hc := hc.2 .nil
    have hv : View h (mR n) (ls (wl n A) .no) := by
      have := View.msl (h := h) 0 0 n noCap 1 (ints (wl n A)) hb (by simp)
      have e : ((ints (wl n A)).drop 0).take (n * 1) = ints (wl n A) := by rw [List.drop_zero, List.take_of_length_le (by simp)]
      rw [e] at this
      have e2 : ls (wl n A) .no = .sl (ints (wl n A)) n .no := by show AV.sl _ (wl n A).length _ = _; rw [hlen]
      rw [e2]
      exact this
    have e3 : c67.v (wl n A, .no, i, j) = .bool ((A i).testBit j) := by
      show AV.bool (bi ((wl n A).getD i i0) j) = _
      rw [wl_get A hi]; rfl
    have q := hc.view (by rw [e3]; rfl) (.cons hv (.cons (.same _ rfl) (.cons (.same _ rfl) .nil)))
    rw [e3] at q
    exact q
theorem c67m_reads : c67m.Reads := ⟨fun _ _ _ => rfl, fun x h zs hp => by
  refine ⟨⟨?_, hp.2⟩, rfl⟩
  have hlt := (List.getElem?_eq_some_iff.1 hp.1).1
  show (h.blk ++ zs)[0]? = _
  rw [List.getElem?_append_left hlt]; exact hp.1⟩
def g0 (t : List Int) (k : Nat) : Nat → Nat := fun e => if e < k then sn t e ||| 2 ^ e else sn t e
theorem g0_end (t : List Int) : wl t.length (g0 t t.length) = wl t.length (r0 t) := wl_ext fun e he => by simp only [g0, r0, if_pos he]
noncomputable abbrev cs71 : List (Ctr Tryd.prog) := [c54m, c67m]
abbrev M54 : FuncId → Bool := (· == 54)
theorem ct71 : Ctrs Tryd.prog M54 cs71 := .eff c54m rfl (.rd _ c67m_reads .nil)
abbrev o71a (t : List Int) : List Out := [.mk Unit (.exit 0) [3] (fun _ => True) (fun _ => [mR t.length]) (fun _ => hR t.length (g0 t t.length)) (fun _ => [])]
theorem simp71a : allSimpleM M54 (loopAt Tryd.f71 0) = true := by kernel_rfl
theorem lp71a (t : List Int) (h : Tn t) :
    LoopS (En6 cs71) (loopAt Tryd.f71 0) 50 [3, 10, 11] [mR t.length, I t.length, I 0] (hR t.length (g0 t 0)) (o71a t) := by
  have hRs : Rests (En6 cs71) M54 := rests mixed ct71
  have h8 := h.s.2
  refine loop_s hRs simp71a none (by intro _ h; cases h) (fun j vs H => H = hR t.length (g0 t j) ∧ vs = [mR t.length, I t.length, I j]) t.length ⟨rfl, rfl⟩ (by intro _ h; cases h) ?_
  rintro j vs h' hj ⟨rfl, rfl⟩
  by_cases hz : (j : Int) < t.length
  · have hz' : j < t.length := by omega
    have ev0 := wj1 (j := j) (by omega)
    have ev1 := pw_shl (n := j) (by omega)
    have h2 : 2 ^ j < 2 ^ 8 := Nat.pow_lt_pow_right (by decide) (by omega)
    have hsn := h.sn j
    have e0 : g0 t j j = sn t j := by simp only [g0]; rw [if_neg (by omega)]
    have e1 : g0 t (j + 1) j = sn t j ||| 2 ^ j := by simp only [g0]; rw [if_pos (by omega)]
    have ev2 : IntKind.i64.wrap ((BitVec.ofInt IntKind.i64.bits ((wl t.length (g0 t j)).getD j i0) ||| BitVec.ofInt IntKind.i64.bits ((2 ^ j : Nat) : Int)).toNat : Int) = ((g0 t (j + 1) j : Nat) : Int) := by
      rw [wl_get _ hz', e0, e1]
      exact i_or (a := sn t j) (b := 2 ^ j) (by omega) (by omega)
    have hs := wl_set (g0 t j) (g0 t (j + 1)) (k := j) hz' (fun i hi => by
      simp only [g0]
      by_cases q : i < j
      · rw [if_pos q, if_pos (by omega)]
      · rw [if_neg q, if_neg (by omega)])
    refine ⟨[Ans.o (Orc.b true), Ans.o (Orc.val 16 (AV.ptr 0 j) H.nil), Ans.o (Orc.val 17 (I ((wl t.length (g0 t j)).getD j i0)) H.nil), Ans.o (Orc.val 19 (I (↑((2 : Nat) ^ j) : Int)) H.nil), Ans.o (Orc.val 20 (I (↑(g0 t (j + (1 : Nat)) j) : Int)) H.nil), Ans.o (Orc.val 21 (AV.ptr 0 j) H.nil), Ans.o (Orc.val 9999 (AV.tup []) (H.mk [ints ((wl t.length (g0 t j)).set j (↑(g0 t (j + (1 : Nat)) j) : Int))] [] [])), Ans.o (Orc.val 22 (I (↑(j + (1 : Nat)) : Int)) H.nil)], fun u => of_eq ((↑j : Int) < (↑t.length : Int) ∧ aIndexAddr Tryd.prog 22 (AV.msl 0 0 t.length (9223372036854775808 : Nat) (1 : Nat)) (I (↑j : Int)) = some (AV.ptr 0 j) ∧ aLoad Tryd.prog 3 (List.drop j (ints (wl t.length (g0 t j)))) = some (I ((wl t.length (g0 t j)).getD j i0)) ∧ aBin Tryd.prog BinOp.shl (3 : Nat) (I 1) (I (↑j : Int)) = some (I (↑((2 : Nat) ^ j) : Int)) ∧ aBin Tryd.prog BinOp.or (3 : Nat) (I ((wl t.length (g0 t j)).getD j i0)) (I (↑((2 : Nat) ^ j) : Int)) = some (I (↑(g0 t (j + (1 : Nat)) j) : Int)) ∧ aIndexAddr Tryd.prog 22 (AV.msl 0 0 t.length (9223372036854775808 : Nat) (1 : Nat)) (I (↑j : Int)) = some (AV.ptr 0 j) ∧ aStore Tryd.prog H.nil.base 3 (AV.ptr 0 j) (I (↑(g0 t (j + (1 : Nat)) j) : Int)) (H.mk [ints (wl t.length (g0 t j))] [] []) = some (H.mk [ints ((wl t.length (g0 t j)).set j (↑(g0 t (j + (1 : Nat)) j) : Int))] [] []) ∧ aBin Tryd.prog BinOp.add (3 : Nat) (I (↑j : Int)) (I 1) = some (I (↑(j + (1 : Nat)) : Int)) ∧ (50 : Nat) = (50 : Nat) ∧ j < t.length ∧ Keep (H.mk [ints ((wl t.length (g0 t j)).set j (↑(g0 t (j + (1 : Nat)) j) : Int))] [] [] = H.mk [ints (wl t.length (g0 t (j + (1 : Nat))))] [] [] ∧ [AV.msl 0 0 t.length (9223372036854775808 : Nat) (1 : Nat), I (↑t.length : Int), I (↑(j + (1 : Nat)) : Int)] = [AV.msl 0 0 t.length (9223372036854775808 : Nat) (1 : Nat), I (↑t.length : Int), I (↑(j + (1 : Nat)) : Int)])) (by kernel_rfl) ?_⟩
    refine ⟨by first | with_reducible assumption | omega | assumption, ?_⟩
    refine ⟨ixm0 (by kernel_rfl) hz', ?_⟩
    refine ⟨ldm_ints (by kernel_rfl) (by kernel_rfl) (by rw [wl_len]; exact hz'), ?_⟩
    refine ⟨by first | exact told_shl (by first | exact Int.natCast_nonneg _ | omega) (by with_reducible assumption) | exact told_shl (by omega) rfl, ?_⟩
    refine ⟨told_or (by with_reducible assumption), ?_⟩
    refine ⟨ixm0 (by kernel_rfl) hz', ?_⟩
    refine ⟨st_ints (by kernel_rfl) rfl (by rw [wl_len]; exact hz'), ?_⟩
    refine ⟨told_add (by with_reducible assumption), ?_⟩
    refine ⟨by first | with_reducible assumption | omega | assumption, ?_⟩
    refine ⟨by first | with_reducible assumption | omega | assumption, ?_⟩
    exact ⟨by rw [hs], rfl⟩
  · have hz : (t.length : Int) ≤ j := by omega
    have e : j = t.length := by omega
    subst e
    refine ⟨[Ans.o (Orc.b false)], fun u => of_eq ((↑t.length : Int) ≤ (↑t.length : Int) ∧ (50 : Nat) = (50 : Nat) ∧ hits [Out.mk Unit (AX.exit 0) [3] (fun x => True) (fun x => [mR t.length]) (fun x => hR t.length (g0 t t.length)) fun x => []] (AX.exit 0) [u (0 : Nat), u (1 : Nat), u (2 : Nat), AV.msl 0 0 t.length (9223372036854775808 : Nat) (1 : Nat), u (4 : Nat), u (5 : Nat), u (6 : Nat), u (7 : Nat), u (8 : Nat), u (9 : Nat), I (↑t.length : Int), I (↑t.length : Int), AV.bool false, u (13 : Nat), u (14 : Nat), u (15 : Nat), u (16 : Nat), u (17 : Nat), u (18 : Nat), u (19 : Nat), u (20 : Nat), u (21 : Nat), u (22 : Nat), u (23 : Nat), u (24 : Nat), u (25 : Nat), u (26 : Nat), u (27 : Nat), u (28 : Nat), u (29 : Nat), u (30 : Nat), u (31 : Nat), u (32 : Nat), u (33 : Nat), u (34 : Nat), u (35 : Nat), u (36 : Nat), u (37 : Nat), u (38 : Nat), u (39 : Nat), u (40 : Nat), u (41 : Nat), u (42 : Nat), u (43 : Nat), u (44 : Nat), u (45 : Nat), u (46 : Nat), u (47 : Nat), u (48 : Nat), u (49 : Nat)] (H.mk [ints (wl t.length (g0 t t.length))] [] [])) (by kernel_rfl) ?_⟩
    refine ⟨by first | with_reducible assumption | omega | assumption, ?_⟩
    refine ⟨by first | with_reducible assumption | omega | assumption, ?_⟩
    exact .inl ⟨(), trivial, rfl, rfl, rfl⟩
open Go.Proofs.Ord (Wn W1 W1j W1j_0 W1j_v Rg W1_rg Wn_rg) in
abbrev o71c (n : Nat) (A : Nat → Nat) (v : Nat) : List Out := [.mk Unit (.exit 4) [3, 24, 25] (fun _ => True) (fun _ => [mR n, I n, I v]) (fun _ => hR n (Ord.W1j A v n)) (fun _ => [])]
theorem simp71c : allSimpleM M54 (loopAt Tryd.f71 2) = true := by kernel_rfl
theorem W1j_rg {n : Nat} {A : Nat → Nat} (h : Ord.Rg n A) (v j : Nat) : Ord.Rg n (Ord.W1j A v j) := by
  refine ⟨fun i => ?_, fun i hi => ?_⟩
  · simp only [Ord.W1j]; split
    · exact (Ord.W1_rg h v).1 i
    · exact h.1 i
  · simp only [Ord.W1j]; split
    · exact (Ord.W1_rg h v).2 i hi
    · exact h.2 i hi
theorem rg_lt {n : Nat} {A : Nat → Nat} (h : Ord.Rg n A) (h8 : n ≤ 8) (i : Nat) : A i < 256 := Nat.lt_of_lt_of_le (h.1 i) (pow8 h8)
theorem lp71c (n : Nat) (h1 : 1 ≤ n) (h8 : n ≤ 8) (A : Nat → Nat) (hA : Ord.Rg n A) (v : Nat) (hv : v < n) :
    LoopS (En6 cs71) (loopAt Tryd.f71 2) 50 [3, 5, 24, 25, 29, 30] [mR n, I v, I n, I v, I n, I 0] (hR n (Ord.W1j A v 0)) (o71c n A v) := by
  have hRs : Rests (En6 cs71) M54 := rests mixed ct71
  refine loop_s hRs simp71c none (by intro _ h; cases h) (fun j vs H => H = hR n (Ord.W1j A v j) ∧ vs = [mR n, I v, I n, I v, I n, I j]) n ⟨rfl, rfl⟩ (by intro _ h; cases h) ?_
  rintro j vs h' hj ⟨rfl, rfl⟩
  by_cases hz : (j : Int) < n
  · have hz' : j < n := by omega
    have ev0 := wj1 (j := j) (by omega)
    have hg := W1j_rg hA v j
    have hlt := rg_lt hg h8 j
    have hltv := rg_lt hg h8 v
    have e0 : Ord.W1j A v j j = A j := by simp only [Ord.W1j]; rw [if_neg (by omega)]
    have ev' : Ord.W1j A v j v = A v := Ord.W1j_v A v j
    have e1 : Ord.W1j A v (j + 1) j = Ord.W1 A v j := by simp only [Ord.W1j]; rw [if_pos (by omega)]
    have hoff : ∀ i, i ≠ j → Ord.W1j A v (j + 1) i = Ord.W1j A v j i := fun i hi => by
      simp only [Ord.W1j]
      by_cases q : i < j
      · rw [if_pos q, if_pos (by omega)]
      · rw [if_neg q, if_neg (by omega)]
    have p67 : (H.mk [ints (wl n (Ord.W1j A v j))] [] []).blk[0]? = some (ints (wl n (Ord.W1j A v j))) ∧ (1 ≤ n ∧ n ≤ 8) ∧ j < n ∧ v ≤ 64 ∧ Ord.W1j A v j j < 256 := ⟨rfl, ⟨h1, h8⟩, hz', by omega, hlt⟩
    cases b1 : (Ord.W1j A v j j).testBit v
    · have hs : wl n (Ord.W1j A v (j + 1)) = wl n (Ord.W1j A v j) := wl_ext fun e _ => by
        by_cases q : e = j
        · subst q; rw [e1, e0, Ord.W1, if_neg (by rw [← e0, b1]; simp)]
        · exact hoff e q
      refine ⟨[Ans.o (Orc.b true), Ans.o (Orc.val 36 (AV.bool false) (H.mk [ints (wl n (Ord.W1j A v j))] [] [])), Ans.o (Orc.val 47 (I (↑(j + (1 : Nat)) : Int)) H.nil)], fun u => of_eq ((↑j : Int) < (↑n : Int) ∧ aCall (Sof cs71) (AV.fn (Fn.func 67) [] []) [AV.msl 0 0 n (9223372036854775808 : Nat) (1 : Nat), I (↑j : Int), I (↑v : Int)] (H.mk [ints (wl n (Ord.W1j A v j))] [] []) = some (AV.bool false, H.mk [ints (wl n (Ord.W1j A v j))] [] []) ∧ aBin Tryd.prog BinOp.add (3 : Nat) (I (↑j : Int)) (I 1) = some (I (↑(j + (1 : Nat)) : Int)) ∧ (50 : Nat) = (50 : Nat) ∧ j < n ∧ Keep (H.mk [ints (wl n (Ord.W1j A v j))] [] [] = H.mk [ints (wl n (Ord.W1j A v (j + (1 : Nat))))] [] [] ∧ [AV.msl 0 0 n (9223372036854775808 : Nat) (1 : Nat), I (↑v : Int), I (↑n : Int), I (↑v : Int), I (↑n : Int), I (↑(j + (1 : Nat)) : Int)] = [AV.msl 0 0 n (9223372036854775808 : Nat) (1 : Nat), I (↑v : Int), I (↑n : Int), I (↑v : Int), I (↑n : Int), I (↑(j + (1 : Nat)) : Int)])) (by kernel_rfl) ?_⟩
      refine ⟨by first | with_reducible assumption | omega | assumption, ?_⟩
      refine ⟨acall_b (acall_hit (c := c67m) ((n, Ord.W1j A v j), j, v) _ rfl p67) b1, ?_⟩
      refine ⟨told_add (by with_reducible assumption), ?_⟩
      refine ⟨by first | with_reducible assumption | omega | assumption, ?_⟩
      refine ⟨by first | with_reducible assumption | omega | assumption, ?_⟩
      exact ⟨by rw [hs], rfl⟩
    · have hs := wl_set (Ord.W1j A v j) (Ord.W1j A v (j + 1)) (k := j) hz' hoff
      have e2 : Ord.W1j A v (j + 1) j = Ord.W1j A v j j ||| Ord.W1j A v j v := by rw [e1, e0, ev', Ord.W1, if_pos (by rw [← e0]; exact b1)]
      have ev1 : IntKind.i64.wrap ((BitVec.ofInt IntKind.i64.bits ((wl n (Ord.W1j A v j)).getD j i0) ||| BitVec.ofInt IntKind.i64.bits ((wl n (Ord.W1j A v j)).getD v i0)).toNat : Int) = ((Ord.W1j A v (j + 1) j : Nat) : Int) := by
        rw [wl_get _ hz', wl_get _ hv, e2]
        exact i_or (by omega) (by omega)
      refine ⟨[Ans.o (Orc.b true), Ans.o (Orc.val 36 (AV.bool true) (H.mk [ints (wl n (Ord.W1j A v j))] [] [])), Ans.o (Orc.val 39 (AV.ptr 0 j) H.nil), Ans.o (Orc.val 40 (I ((wl n (Ord.W1j A v j)).getD j i0)) H.nil), Ans.o (Orc.val 43 (AV.ptr 0 v) H.nil), Ans.o (Orc.val 44 (I ((wl n (Ord.W1j A v j)).getD v i0)) H.nil), Ans.o (Orc.val 45 (I (↑(Ord.W1j A v (j + (1 : Nat)) j) : Int)) H.nil), Ans.o (Orc.val 46 (AV.ptr 0 j) H.nil), Ans.o (Orc.val 9999 (AV.tup []) (H.mk [ints ((wl n (Ord.W1j A v j)).set j (↑(Ord.W1j A v (j + (1 : Nat)) j) : Int))] [] [])), Ans.o (Orc.val 47 (I (↑(j + (1 : Nat)) : Int)) H.nil)], fun u => of_eq ((↑j : Int) < (↑n : Int) ∧ aCall (Sof cs71) (AV.fn (Fn.func 67) [] []) [AV.msl 0 0 n (9223372036854775808 : Nat) (1 : Nat), I (↑j : Int), I (↑v : Int)] (H.mk [ints (wl n (Ord.W1j A v j))] [] []) = some (AV.bool true, H.mk [ints (wl n (Ord.W1j A v j))] [] []) ∧ aIndexAddr Tryd.prog 22 (AV.msl 0 0 n (9223372036854775808 : Nat) (1 : Nat)) (I (↑j : Int)) = some (AV.ptr 0 j) ∧ aLoad Tryd.prog 3 (List.drop j (ints (wl n (Ord.W1j A v j)))) = some (I ((wl n (Ord.W1j A v j)).getD j i0)) ∧ aIndexAddr Tryd.prog 22 (AV.msl 0 0 n (9223372036854775808 : Nat) (1 : Nat)) (I (↑v : Int)) = some (AV.ptr 0 v) ∧ aLoad Tryd.prog 3 (List.drop v (ints (wl n (Ord.W1j A v j)))) = some (I ((wl n (Ord.W1j A v j)).getD v i0)) ∧ aBin Tryd.prog BinOp.or (3 : Nat) (I ((wl n (Ord.W1j A v j)).getD j i0)) (I ((wl n (Ord.W1j A v j)).getD v i0)) = some (I (↑(Ord.W1j A v (j + (1 : Nat)) j) : Int)) ∧ aIndexAddr Tryd.prog 22 (AV.msl 0 0 n (9223372036854775808 : Nat) (1 : Nat)) (I (↑j : Int)) = some (AV.ptr 0 j) ∧ aStore Tryd.prog H.nil.base 3 (AV.ptr 0 j) (I (↑(Ord.W1j A v (j + (1 : Nat)) j) : Int)) (H.mk [ints (wl n (Ord.W1j A v j))] [] []) = some (H.mk [ints ((wl n (Ord.W1j A v j)).set j (↑(Ord.W1j A v (j + (1 : Nat)) j) : Int))] [] []) ∧ aBin Tryd.prog BinOp.add (3 : Nat) (I (↑j : Int)) (I 1) = some (I (↑(j + (1 : Nat)) : Int)) ∧ (50 : Nat) = (50 : Nat) ∧ j < n ∧ Keep (H.mk [ints ((wl n (Ord.W1j A v j)).set j (↑(Ord.W1j A v (j + (1 : Nat)) j) : Int))] [] [] = H.mk [ints (wl n (Ord.W1j A v (j + (1 : Nat))))] [] [] ∧ [AV.msl 0 0 n (9223372036854775808 : Nat) (1 : Nat), I (↑v : Int), I (↑n : Int), I (↑v : Int), I (↑n : Int), I (↑(j + (1 : Nat)) : Int)] = [AV.msl 0 0 n (9223372036854775808 : Nat) (1 : Nat), I (↑v : Int), I (↑n : Int), I (↑v : Int), I (↑n : Int), I (↑(j + (1 : Nat)) : Int)])) (by kernel_rfl) ?_⟩
      refine ⟨by first | with_reducible assumption | omega | assumption, ?_⟩
      refine ⟨acall_b (acall_hit (c := c67m) ((n, Ord.W1j A v j), j, v) _ rfl p67) b1, ?_⟩
      refine ⟨by first | exact ixm0 (by kernel_rfl) hz' | exact ixm0 (by kernel_rfl) hv, ?_⟩
      refine ⟨by first | exact ldm_ints (by kernel_rfl) (by kernel_rfl) (by rw [wl_len]; exact hz') | exact ldm_ints (by kernel_rfl) (by kernel_rfl) (by rw [wl_len]; exact hv), ?_⟩
      refine ⟨by first | exact ixm0 (by kernel_rfl) hz' | exact ixm0 (by kernel_rfl) hv, ?_⟩
      refine ⟨by first | exact ldm_ints (by kernel_rfl) (by kernel_rfl) (by rw [wl_len]; exact hz') | exact ldm_ints (by kernel_rfl) (by kernel_rfl) (by rw [wl_len]; exact hv), ?_⟩
      refine ⟨told_or (by with_reducible assumption), ?_⟩
      refine ⟨by first | exact ixm0 (by kernel_rfl) hz' | exact ixm0 (by kernel_rfl) hv, ?_⟩
      refine ⟨st_ints (by kernel_rfl) rfl (by rw [wl_len]; exact hz'), ?_⟩
      refine ⟨told_add (by with_reducible assumption), ?_⟩
      refine ⟨by first | with_reducible assumption | omega | assumption, ?_⟩
      refine ⟨by first | with_reducible assumption | omega | assumption, ?_⟩
      exact ⟨by rw [hs], rfl⟩
  · have hz : (n : Int) ≤ j := by omega
    have e : j = n := by omega
    subst e
    refine ⟨[Ans.o (Orc.b false)], fun u => of_eq ((↑j : Int) ≤ (↑j : Int) ∧ (50 : Nat) = (50 : Nat) ∧ hits [Out.mk Unit (AX.exit 4) [3, 24, 25] (fun x => True) (fun x => [mR j, I (↑j : Int), I (↑v : Int)]) (fun x => hR j (Ord.W1j A v j)) fun x => []] (AX.exit 4) [u (0 : Nat), u (1 : Nat), u (2 : Nat), AV.msl 0 0 j (9223372036854775808 : Nat) (1 : Nat), u (4 : Nat), I (↑v : Int), u (6 : Nat), u (7 : Nat), u (8 : Nat), u (9 : Nat), u (10 : Nat), u (11 : Nat), u (12 : Nat), u (13 : Nat), u (14 : Nat), u (15 : Nat), u (16 : Nat), u (17 : Nat), u (18 : Nat), u (19 : Nat), u (20 : Nat), u (21 : Nat), u (22 : Nat), u (23 : Nat), I (↑j : Int), I (↑v : Int), u (26 : Nat), u (27 : Nat), u (28 : Nat), I (↑j : Int), I (↑j : Int), AV.bool false, u (32 : Nat), u (33 : Nat), u (34 : Nat), u (35 : Nat), u (36 : Nat), u (37 : Nat), u (38 : Nat), u (39 : Nat), u (40 : Nat), u (41 : Nat), u (42 : Nat), u (43 : Nat), u (44 : Nat), u (45 : Nat), u (46 : Nat), u (47 : Nat), u (48 : Nat), u (49 : Nat)] (H.mk [ints (wl j (Ord.W1j A v j))] [] [])) (by kernel_rfl) ?_⟩
    refine ⟨by first | with_reducible assumption | omega | assumption, ?_⟩
    refine ⟨by first | with_reducible assumption | omega | assumption, ?_⟩
    exact .inl ⟨(), trivial, rfl, rfl, rfl⟩
abbrev o71b (t : List Int) : List Out := [.mk Unit (.exit 2) [3] (fun _ => True) (fun _ => [mR t.length]) (fun _ => hR t.length (Ord.Wn (r0 t) t.length)) (fun _ => [])]
theorem simp71b : allSimpleM M54 (loopAt Tryd.f71 1) = true := by kernel_rfl
theorem lp71b (t : List Int) (h : Tn t) :
    LoopS (En6 cs71) (loopAt Tryd.f71 1) 50 [3, 24, 25] [mR t.length, I t.length, I 0] (hR t.length (Ord.Wn (r0 t) 0)) (o71b t) := by
  have hRs : Rests (En6 cs71) M54 := rests mixed ct71
  have h8 := h.s.2
  have h1 := h.s.1
  refine loop_s hRs simp71b none (by intro _ h; cases h) (fun j vs H => H = hR t.length (Ord.Wn (r0 t) j) ∧ vs = [mR t.length, I t.length, I j]) t.length ⟨rfl, rfl⟩ (by intro _ h; cases h) ?_
  rintro j vs h' hj ⟨rfl, rfl⟩
  by_cases hz : (j : Int) < t.length
  · have hz' : j < t.length := by omega
    have ev0 := wj1 (j := j) (by omega)
    have lp := lp71c t.length h1 h8 (Ord.Wn (r0 t) j) (Ord.Wn_rg (r0_rg h) j) j hz'
    rw [Ord.W1j_0] at lp
    have hs : wl t.length (Ord.W1j (Ord.Wn (r0 t) j) j t.length) = wl t.length (Ord.Wn (r0 t) (j + 1)) := wl_ext fun e he => by
      simp only [Ord.W1j, Ord.Wn]; rw [if_pos he]
    refine ⟨[Ans.o (Orc.b true), Ans.loop [3, 5, 24, 25, 29, 30] [Out.mk Unit (AX.exit 4) [3, 24, 25] (fun x => True) (fun x => [mR t.length, I (↑t.length : Int), I (↑j : Int)]) (fun x => hR t.length (Ord.W1j (Ord.Wn (r0 t) j) j t.length)) fun y => [Ans.o (Orc.val 48 (I (↑(j + (1 : Nat)) : Int)) H.nil)]]], fun u => of_eq ((↑j : Int) < (↑t.length : Int) ∧ LoopS (Env.mk Tryd.prog (Sof cs71) (Pof (P := Tryd.prog) []) H.nil.base (300 : Nat)) (loopAt Tryd.f71 2) 50 [3, 5, 24, 25, 29, 30] [AV.msl 0 0 t.length (9223372036854775808 : Nat) (1 : Nat), I (↑j : Int), I (↑t.length : Int), I (↑j : Int), I (↑t.length : Int), I 0] (H.mk [ints (wl t.length (Ord.Wn (r0 t) j))] [] []) [Out.mk Unit (AX.exit 4) [3, 24, 25] (fun x => True) (fun x => [mR t.length, I (↑t.length : Int), I (↑j : Int)]) (fun x => hR t.length (Ord.W1j (Ord.Wn (r0 t) j) j t.length)) fun y => [Ans.o (Orc.val 48 (I (↑(j + (1 : Nat)) : Int)) H.nil)]] ∧ (∀ (y : Unit), True → ∀ (u : Nat → AV), aBin Tryd.prog BinOp.add (3 : Nat) (I (↑j : Int)) (I 1) = some (I (↑(j + (1 : Nat)) : Int)) ∧ (50 : Nat) = (50 : Nat) ∧ j < t.length ∧ Keep (H.mk [ints (wl t.length (Ord.W1j (Ord.Wn (r0 t) j) j t.length))] [] [] = H.mk [ints (wl t.length (Ord.Wn (r0 t) (j + (1 : Nat))))] [] [] ∧ [AV.msl 0 0 t.length (9223372036854775808 : Nat) (1 : Nat), I (↑t.length : Int), I (↑(j + (1 : Nat)) : Int)] = [AV.msl 0 0 t.length (9223372036854775808 : Nat) (1 : Nat), I (↑t.length : Int), I (↑(j + (1 : Nat)) : Int)])) ∧ True) (by kernel_rfl) ?_⟩
    refine ⟨by first | with_reducible assumption | omega | assumption, ?_⟩
    refine ⟨lp, ?_⟩
    refine And.intro ?_ ?_
    · skip
      intro y
      intro w1
      intro u
      refine ⟨told_add (by with_reducible assumption), ?_⟩
      refine ⟨by first | with_reducible assumption | omega | assumption, ?_⟩
      refine ⟨by first | with_reducible assumption | omega | assumption, ?_⟩
      exact ⟨by rw [hs], rfl⟩
    · skip
      trivial
  · have hz : (t.length : Int) ≤ j := by omega
    have e : j = t.length := by omega
    subst e
    refine ⟨[Ans.o (Orc.b false)], fun u => of_eq ((↑t.length : Int) ≤ (↑t.length : Int) ∧ (50 : Nat) = (50 : Nat) ∧ hits [Out.mk Unit (AX.exit 2) [3] (fun x => True) (fun x => [mR t.length]) (fun x => hR t.length (Ord.Wn (r0 t) t.length)) fun x => []] (AX.exit 2) [u (0 : Nat), u (1 : Nat), u (2 : Nat), AV.msl 0 0 t.length (9223372036854775808 : Nat) (1 : Nat), u (4 : Nat), u (5 : Nat), u (6 : Nat), u (7 : Nat), u (8 : Nat), u (9 : Nat), u (10 : Nat), u (11 : Nat), u (12 : Nat), u (13 : Nat), u (14 : Nat), u (15 : Nat), u (16 : Nat), u (17 : Nat), u (18 : Nat), u (19 : Nat), u (20 : Nat), u (21 : Nat), u (22 : Nat), u (23 : Nat), I (↑t.length : Int), I (↑t.length : Int), AV.bool false, u (27 : Nat), u (28 : Nat), u (29 : Nat), u (30 : Nat), u (31 : Nat), u (32 : Nat), u (33 : Nat), u (34 : Nat), u (35 : Nat), u (36 : Nat), u (37 : Nat), u (38 : Nat), u (39 : Nat), u (40 : Nat), u (41 : Nat), u (42 : Nat), u (43 : Nat), u (44 : Nat), u (45 : Nat), u (46 : Nat), u (47 : Nat), u (48 : Nat), u (49 : Nat)] (H.mk [ints (wl t.length (Ord.Wn (r0 t) t.length))] [] [])) (by kernel_rfl) ?_⟩
    refine ⟨by first | with_reducible assumption | omega | assumption, ?_⟩
    refine ⟨by first | with_reducible assumption | omega | assumption, ?_⟩
    exact .inl ⟨(), trivial, rfl, rfl, rfl⟩
abbrev rws (t : List Int) : List Int := wl t.length (rch t)
theorem ok71 : FokM Tryd.prog (· == 54) 71 Tryd.f71 := ⟨mixed, by kernel_rfl, by kernel_rfl, by kernel_rfl, by kernel_rfl⟩
theorem r71 (t : List Int) (hp : Tn t) : Body ⟨Tryd.prog, Sof (P := Tryd.prog) [c54m, c67m], Pof (P := Tryd.prog) [], H.nil.base, 300⟩ (· == 54) Tryd.f71 [ls t .no] .nil (.sl (ints (rws t)) t.length .no, .nil) := by
  have h := hp
  have h8 := h.s.2
  have h1 := h.s.1
  have l1 := lp71a t h
  have l2 := lp71b t h
  have e1 : wl t.length (g0 t 0) = t := by
    have e := wl_sn h
    have e' : wl t.length (g0 t 0) = wl t.length (sn t) := wl_ext fun e _ => by simp only [g0]; rw [if_neg (by omega)]
    exact e'.trans e
  have e3 : wl t.length (Ord.Wn (r0 t) t.length) = rws t := wl_ext fun e he => Wn_rch h he
  have lv : leave ⟨0, 0, 0⟩ (mR t.length) (hR t.length (Ord.Wn (r0 t) t.length)) = (.sl (ints (rws t)) t.length .no, .nil) := (leave_mR _ _ h8).trans (by rw [e3])
  rw [show hR t.length (Ord.Wn (r0 t) 0) = hR t.length (g0 t t.length) from congrArg (fun l => H.mk [ints l] [] []) (g0_end t).symm] at l2
  simp only [hR] at l1
  rw [e1] at l1
  refine body_s ([Ans.o (Orc.val 8 (AV.msl 0 0 t.length (9223372036854775808 : Nat) (1 : Nat)) (H.mk [ints t] [] [])), Ans.loop [3, 10, 11] [Out.mk Unit (AX.exit 0) [3] (fun x => True) (fun x => [mR t.length]) (fun x => hR t.length (g0 t t.length)) fun y => [Ans.loop [3, 24, 25] [Out.mk Unit (AX.exit 2) [3] (fun x => True) (fun x => [mR t.length]) (fun x => hR t.length (Ord.Wn (r0 t) t.length)) fun y => []]]]]) (aCall (Sof [c54m, c67m]) (AV.fn (Fn.func 54) [] []) [ls t Room.no] (H.mk [] [] []) = some (AV.msl 0 0 t.length (9223372036854775808 : Nat) (1 : Nat), H.mk [ints t] [] []) ∧ LoopS (En6 [c54m, c67m]) (loopAt Tryd.f71 0) 50 [3, 10, 11] [AV.msl 0 0 t.length (9223372036854775808 : Nat) (1 : Nat), I (↑t.length : Int), I 0] (H.mk [ints t] [] []) [Out.mk Unit (AX.exit 0) [3] (fun x => True) (fun x => [mR t.length]) (fun x => hR t.length (g0 t t.length)) fun y => [Ans.loop [3, 24, 25] [Out.mk Unit (AX.exit 2) [3] (fun x => True) (fun x => [mR t.length]) (fun x => hR t.length (Ord.Wn (r0 t) t.length)) fun y => []]]] ∧ (∀ (y : Unit), True → ∀ (u : Nat → AV), LoopS (En6 [c54m, c67m]) (loopAt Tryd.f71 1) 50 [3, 24, 25] [AV.msl 0 0 t.length (9223372036854775808 : Nat) (1 : Nat), I (↑t.length : Int), I 0] (H.mk [ints (wl t.length (g0 t t.length))] [] []) [Out.mk Unit (AX.exit 2) [3] (fun x => True) (fun x => [mR t.length]) (fun x => hR t.length (Ord.Wn (r0 t) t.length)) fun y => []] ∧ (∀ (y : Unit), True → ∀ (u : Nat → AV), leave (Base.mk H.nil.blk.length H.nil.toks.length H.nil.maps.length) (AV.msl 0 0 t.length (9223372036854775808 : Nat) (1 : Nat)) (H.mk [ints (wl t.length (Ord.Wn (r0 t) t.length))] [] []) = (AV.sl (ints (rws t)) t.length Room.no, H.mk [] [] [])) ∧ True) ∧ True) (by kernel_rfl) ?_
  refine ⟨acall_hit (c := c54m) t _ rfl ⟨rfl, h1, h8⟩, ?_⟩
  refine ⟨l1, ?_⟩
  refine And.intro ?_ ?_
  · skip
    intro y
    intro w1
    intro u
    refine ⟨l2, ?_⟩
    refine And.intro ?_ ?_
    · skip
      intro y
      intro w4
      intro u
      exact lv
    · skip
      trivial
  · skip
    trivial
noncomputable def c71 : PCtr Tryd.prog := sctr ok71 (X := List Int) (fun x => [ls x .no]) (fun x => Tn x) (fun x => .sl (ints (rws x)) x.length .no) (by intro x y e _ _; simp [Int.natCast_inj] at e; simp [e]) (fun x => by simp [AV.bnds, AV.bnd, AV.wk, rm_wk_bnd]) (fun x => by first | rfl | (simp [AV.bnd, rm_wk_bnd]; done)  | (simp [AV.bnd, AV.bnds, rm_wk_bnd]; done) | simp [AV.bnd, AV.bnds, Room.bnd, rm_wk_bnd]) (fun x hx => ⟨_, _, _, .eff c54m rfl (.rd _ c67m_reads (.nil)), r71 (x) hx⟩)
end Go.Proofs.Rnk

