/- Layer 9: scores, by the reference; the law. -/
import Derived.Test.YthodoagjojmliaaBtO
import Derived.KernelRfl
set_option linter.unusedSimpArgs false
set_option linter.unusedVariables false
set_option linter.unnecessarySimpa false
set_option maxHeartbeats 4000000
set_option maxRecDepth 100000
namespace Go.Proofs.Bts
open Go Go.VM

def zs (n j : Nat) : List Pr := (List.range n).map fun i => if i < j then (0, 1) else pair0
theorem zs_len (n j : Nat) : (zs n j).length = n := by simp [zs]
theorem zs_0 (n : Nat) : List.replicate n pair0 = zs n 0 := by simp [zs, List.map_const']
theorem zs_set {n j : Nat} : (zs n j).set j (0, 1) = zs n (j + 1) := by
  apply List.ext_getElem
  · simp [zs]
  · intro i h1 h2
    simp only [zs, List.getElem_set, List.getElem_map, List.getElem_range]
    by_cases e : j = i
    · subst e; simp
    · rw [if_neg e]
      by_cases h : i < j
      · rw [if_pos h, if_pos (by omega)]
      · rw [if_neg h, if_neg (by omega)]
/-- the chances of one who is sure of a world -/
def sureP (n k : Nat) : List Pr := (zs n n).set k (1, 1)
theorem sureP_len (n k : Nat) : (sureP n k).length = n := by simp [sureP, zs_len]
theorem sureP_get {n k i : Nat} (h : i < n) : (sureP n k).getD i pair0 = if k = i then (1, 1) else (0, 1) := by
  simp only [sureP, List.getD_eq_getElem?_getD, List.getElem?_set, zs_len]
  by_cases e : k = i
  · subst e; simp [h]
  · simp [e, zs, h]
theorem sureP_ok {n k i : Nat} (h : i < n) : okP ((sureP n k).getD i pair0) := by
  rw [sureP_get h]
  by_cases e : k = i
  · rw [if_pos e]; exact ⟨by decide, ⟨by decide, by decide⟩, by decide⟩
  · rw [if_neg e]; exact ⟨by decide, ⟨by decide, by decide⟩, by decide⟩
theorem sureP_den {n k i : Nat} (h : i < n) : ((sureP n k).getD i pair0).2 = 1 := by
  rw [sureP_get h]; split <;> rfl
theorem sureP_dn (n k : Nat) : ∀ {j : Nat}, j ≤ n → dn (sureP n k) j = 1
  | 0, _ => rfl
  | j + 1, h => by rw [dn_succ, sureP_dn n k (by omega), sureP_den (by omega)]; decide
theorem sureP_nums (n k : Nat) : nums (sureP n k) = uv n k := by
  apply List.ext_getElem
  · rw [nmL_len, sureP_len, uv_len]
  · intro i h1 h2
    rw [uv_len] at h2
    have e1 := nmL_get (sureP n k) (i := i) (j := (sureP n k).length) (by rw [sureP_len]; exact h2)
    have e2 := uv_get (k := k) h2
    have q1 : (nums (sureP n k))[i] = (nums (sureP n k)).getD i i0 := by simp [List.getD_eq_getElem?_getD, h1]
    have q2 : (uv n k)[i]'(by rw [uv_len]; exact h2) = (uv n k).getD i i0 := by simp [List.getD_eq_getElem?_getD, uv_len, h2]
    rw [q1, q2]
    refine e1.trans (Eq.trans ?_ e2.symm)
    rw [nm, sureP_len, sureP_dn n k (Nat.le_refl n), sureP_get h2]
    by_cases e : k = i
    · rw [if_pos e, if_pos e]; rfl
    · rw [if_neg e, if_neg e]; rfl
theorem sureP_j (n k : Nat) : jOK (sureP n k) := ⟨fun i hi => sureP_ok (by rw [sureP_len] at hi; exact hi), by rw [sureP_len, sureP_dn n k (Nat.le_refl n)]; decide⟩
theorem sureP_M {n k : Nat} (h : n ≤ 1000) : pM (sureP n k) .no := ⟨by rw [sureP_len]; exact h, fun _ => no_ne, fun i hi => by
  rw [sureP_len] at hi
  rw [sureP_get hi]
  split <;> exact ⟨⟨by decide, by decide⟩, by decide, by decide⟩⟩
/-- the average, where the other chances may still be written -/
noncomputable def c51v : Ctr Try.prog where
  f := 51
  X := (List Pr × Room) × List Pr × Nat × Nat
  args x := [pz x.1.1 x.1.2, .msl x.2.2.1 0 x.2.2.2 x.2.2.2 2]
  pre x h := h.blk[x.2.2.1]? = some (pairsA x.2.1) ∧ x.2.1.length = x.2.2.2 ∧ pE x.1.1 x.1.2 x.2.1 .no ∧ x.1.2.bnd 0 = true
  res x h := (avV (nums x.1.1) (dn x.1.1 x.1.1.length : Nat) (nums x.2.1) (dn x.2.1 x.2.1.length : Nat), h)
  det := by
    rintro ⟨⟨a, r⟩, c, b, n⟩ ⟨⟨a', r'⟩, c', b', n'⟩ h e p q
    simp only [List.cons.injEq, and_true, AV.msl.injEq, true_and] at e
    obtain ⟨e1, rfl, rfl, _⟩ := e
    have e1 : a = a' := pz_det e1
    subst e1
    have h1 := p.1.symm.trans q.1
    simp only [Option.some.injEq] at h1
    have h2 : c = c' := pairsA_inj h1
    rw [h2]
  ok := by
    rintro ⟨⟨a, r⟩, c, b, n⟩ h ⟨hb, hn, hp, hr⟩
    try simp only at hb hn hp hr
    subst hn
    have hc := c51.ok (a, r, c, .no) hp
    refine ⟨hc.1, ?_⟩
    have hv : View h (.msl b 0 c.length c.length 2) (.sl (pairsA c) c.length .no) := by
      have := View.msl (h := h) b 0 c.length c.length 2 (pairsA c) hb (by simp)
      have e : ((pairsA c).drop 0).take (c.length * 2) = pairsA c := by rw [List.drop_zero, List.take_of_length_le (by simp)]
      rw [e] at this
      exact this
    exact (hc.2 .nil).view rfl (.cons (.same _ (by simp [AV.bnd, hr])) (.cons hv .nil))
theorem c51v_reads : c51v.Reads := ⟨fun _ _ _ => rfl, fun x h zs hp => by
  refine ⟨⟨?_, hp.2⟩, rfl⟩
  have hlt := (List.getElem?_eq_some_iff.1 hp.1).1
  show (h.blk ++ zs)[x.2.2.1]? = _
  rw [List.getElem?_append_left hlt]; exact hp.1⟩
theorem ixz2 {P : Program} {t : TypeId} (hu : (elemT P t).bind (sizeT P) = some 2) {b n c z : Nat} {k : IntKind} {i : Nat} (h : i < n) : aIndexAddr P t (.msl b 0 n c z) (.int k i) = some (.ptr b (0 + i * 2)) := by
  rw [Nat.zero_add]; exact ixm_pairs hu h
abbrev hS (l : List Pr) : H := ⟨[[I 0, I 0], pairsA l], [], []⟩
abbrev mS (n : Nat) : AV := .msl 1 0 n n 2
abbrev o50 (l : List Pr) (r : Room) (k : Nat) : List Out := [.mk Unit (.exit 0) [0, 1, 4, 5] (fun _ => True) (fun _ => [pz l r, I k, .ptr 0 0, mS l.length]) (fun _ => hS (zs l.length l.length)) (fun _ => [])]
theorem simp50 : allSimpleM none1 (loopAt Try.f50 0) = true := by kernel_rfl
theorem lp50 (l : List Pr) (r : Room) (k : Nat) (h1 : l.length ≤ 1000) :
    LoopS (En6 [c92.to, c51v]) (loopAt Try.f50 0) 27 [0, 1, 4, 5, 11, 12] [pz l r, I k, .ptr 0 0, mS l.length, I l.length, I 0] (hS (List.replicate l.length pair0)) (o50 l r k) := by
  have hR : Rests (En6 [c92.to, c51v]) none1 := rests mixed (.pure _ (.rd _ c51v_reads .nil))
  refine loop_s hR simp50 none (by intro _ h; cases h) (fun j vs h => h = hS (zs l.length j) ∧ vs = [pz l r, I k, .ptr 0 0, mS l.length, I l.length, I (j : Nat)]) l.length ⟨by rw [zs_0], rfl⟩ (by intro _ h; cases h) ?_
  rintro j vs h hj ⟨rfl, rfl⟩
  by_cases hz : (j : Int) < l.length
  · have hz' : j < l.length := by omega
    have hzs : j < (zs l.length j).length := by rw [zs_len]; omega
    have ev0 := wj1 (j := j) (by omega)
    have hst : aStore Try.prog H.nil.base 47 (.ptr 1 (0 + j * 2)) (.agg [I 0, I 1]) ⟨[[I 0, I 0], pairsA (zs l.length j)], [], []⟩ = some ⟨[[I 0, I 0], pairsA (zs l.length (j + 1))], [], []⟩ := by
      rw [Nat.zero_add, st_pair (by kernel_rfl) (l := zs l.length j) rfl hzs, zs_set]; rfl
    refine ⟨[Ans.o (Orc.b true), Ans.o (Orc.val 17 (AV.agg [I 0, I 1]) (H.mk [[I 0, I 0], pairsA (zs l.length j)] [] [])), Ans.o (Orc.val 18 (AV.ptr 1 ((0 : Nat) + j * (2 : Nat))) H.nil), Ans.o (Orc.val 9999 (AV.tup []) (H.mk [[I 0, I 0], pairsA (zs l.length (j + (1 : Nat)))] [] [])), Ans.o (Orc.val 19 (I (↑(j + (1 : Nat)) : Int)) H.nil)], fun u => of_eq ((↑j : Int) < (↑l.length : Int) ∧ aCall (Sof [c92.to, c51v]) (AV.fn (Fn.func (92 : Nat)) [] []) [I 0] (H.mk [[I 0, I 0], pairsA (zs l.length j)] [] []) = some (AV.agg [I 0, I 1], H.mk [[I 0, I 0], pairsA (zs l.length j)] [] []) ∧ aIndexAddr Try.prog (23 : Nat) (AV.msl 1 0 l.length l.length (2 : Nat)) (I (↑j : Int)) = some (AV.ptr 1 ((0 : Nat) + j * (2 : Nat))) ∧ aStore Try.prog H.nil.base (47 : Nat) (AV.ptr 1 ((0 : Nat) + j * (2 : Nat))) (AV.agg [I 0, I 1]) (H.mk [[I 0, I 0], pairsA (zs l.length j)] [] []) = some (H.mk [[I 0, I 0], pairsA (zs l.length (j + (1 : Nat)))] [] []) ∧ aBin Try.prog BinOp.add (3 : Nat) (I (↑j : Int)) (I 1) = some (I (↑(j + (1 : Nat)) : Int)) ∧ (27 : Nat) = (27 : Nat) ∧ j < l.length ∧ Keep (H.mk [[I 0, I 0], pairsA (zs l.length (j + (1 : Nat)))] [] [] = H.mk [[I 0, I 0], pairsA (zs l.length (j + (1 : Nat)))] [] [] ∧ [AV.sl (pairsA l) l.length r, I (↑k : Int), AV.ptr 0 0, AV.msl 1 0 l.length l.length (2 : Nat), I (↑l.length : Int), I (↑(j + (1 : Nat)) : Int)] = [AV.sl (pairsA l) l.length r, I (↑k : Int), AV.ptr 0 0, AV.msl 1 0 l.length l.length (2 : Nat), I (↑l.length : Int), I (↑(j + (1 : Nat)) : Int)])) (by kernel_rfl) ?_⟩
    refine ⟨by first | with_reducible assumption | omega | assumption, ?_⟩
    refine ⟨acall_hit (c := c92.to) (0 : Int) _ rfl trivial, ?_⟩
    refine ⟨ixz2 (by kernel_rfl) hz', ?_⟩
    refine ⟨hst, ?_⟩
    refine ⟨told_add (by with_reducible assumption), ?_⟩
    refine ⟨by first | with_reducible assumption | omega | assumption, ?_⟩
    refine ⟨by first | with_reducible assumption | omega | assumption, ?_⟩
    exact ⟨rfl, rfl⟩
  · have hz : (l.length : Int) ≤ j := by omega
    have e : j = l.length := by omega
    subst e
    refine ⟨[Ans.o (Orc.b false)], fun u => of_eq ((↑l.length : Int) ≤ (↑l.length : Int) ∧ (27 : Nat) = (27 : Nat) ∧ hits [Out.mk Unit (AX.exit (0 : Nat)) [(0 : Nat), (1 : Nat), (4 : Nat), (5 : Nat)] (fun x => True) (fun x => [pz l r, I (↑k : Int), AV.ptr 0 0, mS l.length]) (fun x => hS (zs l.length l.length)) fun x => []] (AX.exit (0 : Nat)) [AV.sl (pairsA l) l.length r, I (↑k : Int), u (2 : Nat), u (3 : Nat), AV.ptr 0 0, AV.msl 1 0 l.length l.length (2 : Nat), u (6 : Nat), u (7 : Nat), u (8 : Nat), u (9 : Nat), u (10 : Nat), I (↑l.length : Int), I (↑l.length : Int), AV.bool false, u (14 : Nat), u (15 : Nat), u (16 : Nat), u (17 : Nat), u (18 : Nat), u (19 : Nat), u (20 : Nat), u (21 : Nat), u (22 : Nat), u (23 : Nat), u (24 : Nat), u (25 : Nat), u (26 : Nat)] (H.mk [[I 0, I 0], pairsA (zs l.length l.length)] [] [])) (by kernel_rfl) ?_⟩
    refine ⟨by first | with_reducible assumption | omega | assumption, ?_⟩
    refine ⟨by first | with_reducible assumption | omega | assumption, ?_⟩
    exact .inl ⟨(), trivial, rfl, rfl, rfl⟩
theorem ok50 : FokM Try.prog none1 50 Try.f50 := ⟨mixed, by kernel_rfl, by kernel_rfl, by kernel_rfl, by kernel_rfl⟩
abbrev pC (l : List Pr) (r : Room) (k : Nat) : Prop := pM l r ∧ fcB l = true ∧ k < l.length
theorem r50 (l : List Pr) (r : Rm) (k : Nat) (hp : pC l r.wk k) : Body (En6 [c92.to, c51v]) none1 Try.f50 [pz l r.wk, I k] .nil (frA (scP l (k : Nat)), .nil) := by
  obtain ⟨hM, hf, hk⟩ := hp
  have hl := lp50 l r.wk k hM.1
  have h1000 := hM.1
  have hk' : (k : Int) < l.length := by omega
  have hkz : k < (zs l.length l.length).length := by rw [zs_len]; omega
  obtain ⟨⟨h1, h2⟩, h3⟩ := fcB_b hf
  have e := (sc_t hf hk).1
  rw [(fcB_d hf).1, (fcB_d hf).2, ← sureP_nums] at e
  have hmk : aMake Try.prog 23 l.length l.length ⟨[[I 0, I 0]], [], []⟩ = some (.msl 1 0 l.length l.length 2, ⟨[[I 0, I 0], pairsA (List.replicate l.length pair0)], [], []⟩) := mk_pairs (by kernel_rfl) (by omega)
  have hst : aStore Try.prog H.nil.base 47 (.ptr 1 (0 + k * 2)) (.agg [I 1, I 1]) ⟨[[I 0, I 0], pairsA (zs l.length l.length)], [], []⟩ = some ⟨[[I 0, I 0], pairsA (sureP l.length k)], [], []⟩ := by
    rw [Nat.zero_add, st_pair (by kernel_rfl) (l := zs l.length l.length) rfl hkz]; rfl
  have p51 : pE l r.wk (sureP l.length k) .no := ⟨⟨hM, sureP_M hM.1⟩, ⟨h2, sureP_j _ _⟩, ⟨h1.1.2, sureP_len _ _⟩, h3, by rw [sureP_len, sureP_dn _ _ (Nat.le_refl _)]; decide⟩
  have e3 : ((dn (sureP l.length k) (sureP l.length k).length : Nat) : Int) = 1 := by rw [sureP_len, sureP_dn _ _ (Nat.le_refl _)]; rfl
  rw [e, ← e3]
  refine body_s ([Ans.o (Orc.val 9 (AV.msl 1 0 l.length l.length (2 : Nat)) (H.mk [[I 0, I 0], pairsA (List.replicate l.length pair0)] [] [])), Ans.loop [(0 : Nat), (1 : Nat), (4 : Nat), (5 : Nat), (11 : Nat), (12 : Nat)] [Out.mk Unit (AX.exit (0 : Nat)) [(0 : Nat), (1 : Nat), (4 : Nat), (5 : Nat)] (fun x => True) (fun x => [pz l (Room.wk r), I (↑k : Int), AV.ptr 0 0, mS l.length]) (fun x => hS (zs l.length l.length)) fun y => [Ans.o (Orc.val 22 (AV.agg [I 1, I 1]) (H.mk [[I 0, I 0], pairsA (zs l.length l.length)] [] [])), Ans.o (Orc.val 23 (AV.ptr 1 ((0 : Nat) + k * (2 : Nat))) H.nil), Ans.o (Orc.val 9999 (AV.tup []) (H.mk [[I 0, I 0], pairsA (sureP l.length k)] [] [])), Ans.o (Orc.val 26 (AV.agg [I (lwN (avN (nums l) (↑(dn l l.length) : Int) (nums (sureP l.length k)) (↑(dn (sureP l.length k) (sureP l.length k).length) : Int)) (avD (↑(dn l l.length) : Int) (↑(dn (sureP l.length k) (sureP l.length k).length) : Int))), I (lwD (avN (nums l) (↑(dn l l.length) : Int) (nums (sureP l.length k)) (↑(dn (sureP l.length k) (sureP l.length k).length) : Int)) (avD (↑(dn l l.length) : Int) (↑(dn (sureP l.length k) (sureP l.length k).length) : Int)))]) (H.mk [[I 0, I 0], pairsA (sureP l.length k)] [] []))]]]) (aMake Try.prog (23 : Nat) (↑l.length : Int) (↑l.length : Int) (H.mk [[I 0, I 0]] [] []) = some (AV.msl 1 0 l.length l.length (2 : Nat), H.mk [[I 0, I 0], pairsA (List.replicate l.length pair0)] [] []) ∧ LoopS (Env.mk Try.prog (Sof [c92.to, c51v]) (Pof (P := Try.prog) []) H.nil.base (300 : Nat)) (loopAt Try.f50 (0 : Nat)) (27 : Nat) [(0 : Nat), (1 : Nat), (4 : Nat), (5 : Nat), (11 : Nat), (12 : Nat)] [AV.sl (pairsA l) l.length (Room.wk r), I (↑k : Int), AV.ptr 0 0, AV.msl 1 0 l.length l.length (2 : Nat), I (↑l.length : Int), I 0] (H.mk [[I 0, I 0], pairsA (List.replicate l.length pair0)] [] []) [Out.mk Unit (AX.exit (0 : Nat)) [(0 : Nat), (1 : Nat), (4 : Nat), (5 : Nat)] (fun x => True) (fun x => [pz l (Room.wk r), I (↑k : Int), AV.ptr 0 0, mS l.length]) (fun x => hS (zs l.length l.length)) fun y => [Ans.o (Orc.val 22 (AV.agg [I 1, I 1]) (H.mk [[I 0, I 0], pairsA (zs l.length l.length)] [] [])), Ans.o (Orc.val 23 (AV.ptr 1 ((0 : Nat) + k * (2 : Nat))) H.nil), Ans.o (Orc.val 9999 (AV.tup []) (H.mk [[I 0, I 0], pairsA (sureP l.length k)] [] [])), Ans.o (Orc.val 26 (AV.agg [I (lwN (avN (nums l) (↑(dn l l.length) : Int) (nums (sureP l.length k)) (↑(dn (sureP l.length k) (sureP l.length k).length) : Int)) (avD (↑(dn l l.length) : Int) (↑(dn (sureP l.length k) (sureP l.length k).length) : Int))), I (lwD (avN (nums l) (↑(dn l l.length) : Int) (nums (sureP l.length k)) (↑(dn (sureP l.length k) (sureP l.length k).length) : Int)) (avD (↑(dn l l.length) : Int) (↑(dn (sureP l.length k) (sureP l.length k).length) : Int)))]) (H.mk [[I 0, I 0], pairsA (sureP l.length k)] [] []))]] ∧ (∀ (y : Unit), True → ∀ (u : Nat → AV), aCall (Sof [c92.to, c51v]) (AV.fn (Fn.func (92 : Nat)) [] []) [I 1] (H.mk [[I 0, I 0], pairsA (zs l.length l.length)] [] []) = some (AV.agg [I 1, I 1], H.mk [[I 0, I 0], pairsA (zs l.length l.length)] [] []) ∧ aIndexAddr Try.prog (23 : Nat) (AV.msl 1 0 l.length l.length (2 : Nat)) (I (↑k : Int)) = some (AV.ptr 1 ((0 : Nat) + k * (2 : Nat))) ∧ aStore Try.prog H.nil.base (47 : Nat) (AV.ptr 1 ((0 : Nat) + k * (2 : Nat))) (AV.agg [I 1, I 1]) (H.mk [[I 0, I 0], pairsA (zs l.length l.length)] [] []) = some (H.mk [[I 0, I 0], pairsA (sureP l.length k)] [] []) ∧ aCall (Sof [c92.to, c51v]) (AV.fn (Fn.func (51 : Nat)) [] []) [AV.sl (pairsA l) l.length (Room.wk r), AV.msl 1 0 l.length l.length (2 : Nat)] (H.mk [[I 0, I 0], pairsA (sureP l.length k)] [] []) = some (AV.agg [I (lwN (avN (nums l) (↑(dn l l.length) : Int) (nums (sureP l.length k)) (↑(dn (sureP l.length k) (sureP l.length k).length) : Int)) (avD (↑(dn l l.length) : Int) (↑(dn (sureP l.length k) (sureP l.length k).length) : Int))), I (lwD (avN (nums l) (↑(dn l l.length) : Int) (nums (sureP l.length k)) (↑(dn (sureP l.length k) (sureP l.length k).length) : Int)) (avD (↑(dn l l.length) : Int) (↑(dn (sureP l.length k) (sureP l.length k).length) : Int)))], H.mk [[I 0, I 0], pairsA (sureP l.length k)] [] []) ∧ (AV.agg [I (lwN (avN (nums l) (↑(dn l l.length) : Int) (nums (sureP l.length k)) (↑(dn (sureP l.length k) (sureP l.length k).length) : Int)) (avD (↑(dn l l.length) : Int) (↑(dn (sureP l.length k) (sureP l.length k).length) : Int))), I (lwD (avN (nums l) (↑(dn l l.length) : Int) (nums (sureP l.length k)) (↑(dn (sureP l.length k) (sureP l.length k).length) : Int)) (avD (↑(dn l l.length) : Int) (↑(dn (sureP l.length k) (sureP l.length k).length) : Int)))], H.mk [] [] []) = (AV.agg [I (lw (avN (nums l) (↑(dn l l.length) : Int) (nums (sureP l.length k)) (↑(dn (sureP l.length k) (sureP l.length k).length) : Int)) (avD (↑(dn l l.length) : Int) (↑(dn (sureP l.length k) (sureP l.length k).length) : Int))).fst, I (lw (avN (nums l) (↑(dn l l.length) : Int) (nums (sureP l.length k)) (↑(dn (sureP l.length k) (sureP l.length k).length) : Int)) (avD (↑(dn l l.length) : Int) (↑(dn (sureP l.length k) (sureP l.length k).length) : Int))).snd], H.mk [] [] [])) ∧ True) (by kernel_rfl) ?_
  refine ⟨hmk, ?_⟩
  refine ⟨hl, ?_⟩
  refine And.intro ?_ ?_
  · skip
    intro y
    intro w1
    intro u
    refine ⟨acall_hit (c := c92.to) (1 : Int) _ rfl trivial, ?_⟩
    refine ⟨ixz2 (by kernel_rfl) hk, ?_⟩
    refine ⟨hst, ?_⟩
    refine ⟨acall_hit (c := c51v) ((l, r.wk), sureP l.length k, 1, l.length) _ rfl ⟨rfl, sureP_len _ _, p51, rm_wk_bnd _⟩, ?_⟩
    rfl
  · skip
    trivial
noncomputable def c50 : PCtr Try.prog := sctr ok50 (X := List Pr × Room × Nat) (fun x => [pz x.1 x.2.1, I x.2.2]) (fun x => pC x.1 x.2.1 x.2.2) (fun x => frA (scP x.1 (x.2.2 : Nat)))
  (by
    rintro ⟨l, r, w⟩ ⟨m, s, v⟩ e _ _
    simp only [List.cons.injEq, and_true, AV.int.injEq, true_and, Int.natCast_inj] at e
    obtain ⟨e1, rfl⟩ := e
    rw [pz_det e1]) (fun x => by simp [AV.bnds, AV.bnd, AV.wk, rm_wk_bnd]) (fun x => rfl)
  (fun x hx => ⟨_, _, _, .pure c92 (.rd _ c51v_reads .nil), r50 x.1 x.2.1 x.2.2 ⟨⟨hx.1.1, by simpa using hx.1.2.1, hx.1.2.2⟩, hx.2⟩⟩)
end Go.Proofs.Bts

