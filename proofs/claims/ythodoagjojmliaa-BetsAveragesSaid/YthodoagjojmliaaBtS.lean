/- Layer 9: sure forecasts; slices of fractions compared; what may still be written, copied. -/
import Derived.Test.YthodoagjojmliaaBtQ
import Derived.Test.YthodoagjojmliaaVm9
import Derived.KernelRfl
set_option linter.unusedSimpArgs false
set_option linter.unusedVariables false
set_option linter.unnecessarySimpa false
set_option maxHeartbeats 4000000
set_option maxRecDepth 100000
namespace Go.Proofs.Bts
open Go Go.VM

theorem sI_uv {f : Nat → Int} {n k : Nat} : ∀ {j : Nat}, j ≤ n → sI (fun i => f i * ia (uv n k) i) j = if k < j then f k else 0
  | 0, _ => rfl
  | j + 1, h => by
    rw [sI, sI_uv (by omega), uv_get (by omega)]
    by_cases e : k = j
    · subst e; simp
    · by_cases h2 : k < j
      · rw [if_pos h2, if_neg e, if_pos (by omega)]; simp
      · rw [if_neg h2, if_neg e, if_neg (by omega)]; simp
theorem pI_uv {a : List Int} {n k : Nat} (h : k < n) : pI a (uv n k) n = ia a k := by
  have := sI_uv (f := ia a) (k := k) (Nat.le_refl n)
  rw [if_pos h] at this
  exact this
theorem sum_uv {n k : Nat} (h : k < n) : sI (ia (uv n k)) n = 1 := by
  have := sI_uv (f := fun _ => 1) (n := n) (k := k) (Nat.le_refl n)
  rw [if_pos h] at this
  rw [← this]
  exact sI_congr fun i hi => by omega
theorem sure_fc {n k : Nat} (h2 : 2 ≤ n) (h5 : n ≤ 5) (hk : k < n) : fcB (sureP n k) = true := by
  have hr : rdO (sureP n k) ∧ jOK (sureP n k) := ⟨⟨by rw [sureP_len]; exact ⟨h2, h5⟩, fun i hi => by rw [sureP_len] at hi; rw [sureP_den hi]; decide⟩, sureP_j n k⟩
  rw [fcB_t hr, decide_eq_true_eq, sureP_nums, sureP_len, sureP_dn n k (Nat.le_refl n), sum_uv hk]; rfl
theorem sure_d {n k : Nat} (h2 : 2 ≤ n) (h5 : n ≤ 5) (hk : k < n) : rdA (sureP n k) = uv n k ∧ rdD (sureP n k) = 1 := by
  have := fcB_d (sure_fc h2 h5 hk)
  rw [this.1, this.2, sureP_nums, sureP_len, sureP_dn n k (Nat.le_refl n)]; exact ⟨rfl, rfl⟩
/-- what lowest terms are -/
theorem lw_mul {N Q : Int} (hQ : 1 ≤ Q) : 1 ≤ gcI (abI N) Q ∧ lwN N Q * gcI (abI N) Q = N ∧ lwD N Q * gcI (abI N) Q = Q := by
  have h1 := gcd1 (abI N) Q hQ
  have ha : (((abI N).toNat : Nat) : Int) = abI N := by have := abI_nn N; omega
  have hq : ((Q.toNat : Nat) : Int) = Q := by omega
  have d1 : gcI (abI N) Q ∣ abI N := by
    have : ((Nat.gcd (abI N).toNat Q.toNat : Nat) : Int) ∣ ((abI N).toNat : Nat) := Int.natCast_dvd_natCast.2 (Nat.gcd_dvd_left _ _)
    rw [ha] at this; exact this
  have d2 : gcI (abI N) Q ∣ Q := by
    have : ((Nat.gcd (abI N).toNat Q.toNat : Nat) : Int) ∣ (Q.toNat : Nat) := Int.natCast_dvd_natCast.2 (Nat.gcd_dvd_right _ _)
    rw [hq] at this; exact this
  have d3 : gcI (abI N) Q ∣ N := by
    rcases (show abI N = N ∨ abI N = -N by simp only [abI]; split <;> simp) with e | e
    · rw [e] at d1 ⊢; exact d1
    · have := Int.dvd_neg.1 (e ▸ d1 : gcI (abI N) Q ∣ -N); exact this
  exact ⟨h1, Int.tdiv_mul_cancel d3, Int.tdiv_mul_cancel d2⟩
theorem lw_self {Q : Int} (hQ : 1 ≤ Q) : lwN Q Q = 1 ∧ lwD Q Q = 1 := by
  have e : abI Q = Q := by simp only [abI]; split <;> omega
  have g : gcI (abI Q) Q = Q := by
    rw [e]
    show ((Nat.gcd Q.toNat Q.toNat : Nat) : Int) = Q
    rw [Nat.gcd_self]; omega
  unfold lwN lwD
  rw [g]
  exact ⟨Int.tdiv_self (by omega), Int.tdiv_self (by omega)⟩
theorem lw_le {N Q : Int} (hQ : 1 ≤ Q) (h1 : -Q ≤ N) (h2 : N ≤ Q) : (1 ≤ lwD N Q ∧ lwD N Q ≤ Q) ∧ (-lwD N Q ≤ lwN N Q ∧ lwN N Q ≤ lwD N Q) ∧ ((lwN N Q = 1 ∧ lwD N Q = 1) ↔ N = Q) := by
  have key : N = Q → lwN N Q = 1 ∧ lwD N Q = 1 := fun h => by rw [h]; exact lw_self hQ
  obtain ⟨g1, e1, e2⟩ := lw_mul (N := N) hQ
  generalize gcI (abI N) Q = g at g1 e1 e2
  generalize lwN N Q = x at e1 key ⊢
  generalize lwD N Q = y at e2 key ⊢
  have hy : 1 ≤ y := by
    rcases Int.lt_or_le 0 y with h | h
    · omega
    · have := Int.mul_le_mul_of_nonneg_right h (show 0 ≤ g by omega); rw [Int.zero_mul] at this; omega
  refine ⟨⟨hy, ?_⟩, ⟨?_, ?_⟩, ?_, key⟩
  · have := Int.mul_le_mul_of_nonneg_left g1 (show 0 ≤ y by omega); omega
  · refine Int.le_of_mul_le_mul_right (a := g) ?_ (by omega); rw [Int.neg_mul]; omega
  · refine Int.le_of_mul_le_mul_right (a := g) ?_ (by omega); omega
  · rintro ⟨rfl, rfl⟩; omega
/-- sums of squares -/
theorem sq_le {f : Nat → Int} {D : Int} : ∀ {n : Nat}, (∀ i, i < n → 0 ≤ f i ∧ f i ≤ D) → 0 ≤ sI (fun i => f i * f i) n ∧ sI (fun i => f i * f i) n ≤ D * sI f n
  | 0, _ => by simp [sI]
  | n + 1, h => by
    have h1 := sq_le (n := n) fun i hi => h i (by omega)
    have h2 := h n (by omega)
    have h3 := Int.mul_nonneg h2.1 h2.1
    have h4 := Int.mul_le_mul_of_nonneg_right h2.2 h2.1
    simp only [sI]
    rw [Int.mul_add]; omega
theorem one_le {f : Nat → Int} {k : Nat} : ∀ {n : Nat}, (∀ i, i < n → 0 ≤ f i) → k < n → f k ≤ sI f n ∧ (sI f n = f k → ∀ i, i < n → i ≠ k → f i = 0)
  | 0, _, hk => absurd hk (Nat.not_lt_zero _)
  | n + 1, h, hk => by
    have h0 := h n (by omega)
    have hs : ∀ {m : Nat}, m ≤ n → 0 ≤ sI f m := fun {m} hm => by
      induction m with
      | zero => simp [sI]
      | succ m ih => have := ih (by omega); have := h m (by omega); simp only [sI]; omega
    by_cases e : k = n
    · subst e
      have hsk : 0 ≤ sI f k := hs (Nat.le_refl k)
      refine ⟨by simp only [sI]; omega, fun hq i hi hne => ?_⟩
      simp only [sI] at hq
      have hz : sI f k = 0 := by omega
      have hi' : i < k := by omega
      have : ∀ m, m ≤ k → sI f m = 0 → ∀ i, i < m → f i = 0 := fun m => by
        induction m with
        | zero => intro _ _ i hi; omega
        | succ m ih =>
          intro hm hz i hi
          simp only [sI] at hz
          have q1 := hs (m := m) (by omega)
          have q2 := h m (by omega)
          by_cases e : i = m
          · subst e; omega
          · exact ih (by omega) (by omega) i (by omega)
      exact this k (Nat.le_refl k) hz i hi'
    · obtain ⟨q1, q2⟩ := one_le (k := k) (n := n) (fun i hi => h i (by omega)) (by omega)
      refine ⟨by simp only [sI]; omega, fun hq i hi hne => ?_⟩
      simp only [sI] at hq
      by_cases e2 : i = n
      · subst e2; omega
      · exact q2 (by omega) i (by omega) hne
/-- a score is at most one, and just that of a sure forecast that is right -/
theorem score_b {a : List Int} {D : Int} {k : Nat} (hD : 1 ≤ D) (hk : k < a.length) (hb : ∀ i, i < a.length → 0 ≤ ia a i ∧ ia a i ≤ D) (hs : sI (ia a) a.length = D) :
    1 ≤ avD D 1 ∧ -avD D 1 ≤ avN a D (uv a.length k) 1 ∧ avN a D (uv a.length k) 1 ≤ avD D 1 ∧ (avN a D (uv a.length k) 1 = avD D 1 ↔ ia a k = D) := by
  have e1 : avN a D (uv a.length k) 1 = 2 * ia a k * D - pI a a a.length * 1 := by unfold avN; rw [pI_uv hk]
  have e2 : avD D 1 = D * D := by unfold avD; rw [Int.mul_one]
  have hq : 1 ≤ D * D := by have := Int.mul_pos (show 0 < D by omega) (show 0 < D by omega); omega
  obtain ⟨s1, s2⟩ := sq_le (f := ia a) (D := D) hb
  rw [hs] at s2
  have es : pI a a a.length = sI (fun i => ia a i * ia a i) a.length := rfl
  obtain ⟨o1, o2⟩ := one_le (f := fun i => ia a i * ia a i) (fun i hi => Int.mul_nonneg (hb i hi).1 (hb i hi).1) hk
  have o1 : ia a k * ia a k ≤ sI (fun i => ia a i * ia a i) a.length := o1
  have hbk := hb k hk
  have m1 := Int.mul_nonneg (show 0 ≤ D - ia a k by omega) (show 0 ≤ D - ia a k by omega)
  have m2 : (D - ia a k) * (D - ia a k) = D * D - 2 * ia a k * D + ia a k * ia a k := by
    rw [Int.sub_mul, Int.mul_sub, Int.mul_sub, Int.mul_comm (ia a k) D, Int.mul_assoc 2, Int.mul_comm (ia a k) D]; omega
  have m3 : 0 ≤ 2 * ia a k * D := Int.mul_nonneg (by omega) (by omega)
  rw [e1, e2, es, Int.mul_one]
  refine ⟨hq, by omega, by omega, fun h => ?_, fun h => ?_⟩
  · have hz : (D - ia a k) * (D - ia a k) = 0 := by omega
    rcases Int.mul_eq_zero.1 hz with h | h <;> omega
  · have o3 := (one_le (f := ia a) (fun i hi => (hb i hi).1) hk).2 (by rw [hs, h])
    have e3 : sI (fun i => ia a i * ia a i) a.length = sI (fun i => D * ia a i) a.length := sI_congr fun i hi => by
      by_cases e : i = k
      · subst e; rw [h]
      · rw [o3 i hi e]; simp
    have e4 : ∀ n, sI (fun i => D * ia a i) n = D * sI (ia a) n := fun n => by
      induction n with
      | zero => simp [sI]
      | succ n ih => simp only [sI]; rw [ih, Int.mul_add]
    rw [e3, e4, hs, h, Int.mul_assoc]; omega
/-- who is that -/
theorem sure_iff {l : List Pr} {k : Nat} (hf : fcB l = true) (hk : k < l.length) : ia (nums l) k = (dn l l.length : Nat) ↔ l = sureP l.length k := by
  obtain ⟨⟨h1, h2⟩, h3⟩ := fcB_b hf
  have hs := hf
  rw [fcB_t ⟨h1, h2⟩, decide_eq_true_eq] at hs
  have el : (nums l).length = l.length := nmL_len _ _
  have hb := nums_b h2
  have hp := dn_pos h2.1 (j := l.length) (Nat.le_refl _)
  constructor
  · intro h
    have o3 := (one_le (f := ia (nums l)) (n := l.length) (fun i hi => (hb i (by omega)).1) hk).2 (by rw [hs, h])
    apply List.ext_getElem
    · rw [sureP_len]
    · intro i hi _
      have g1 : l[i] = l.getD i pair0 := by simp [List.getD_eq_getElem?_getD, hi]
      have g2 : (sureP l.length k)[i]'(by rw [sureP_len]; exact hi) = (sureP l.length k).getD i pair0 := by simp [List.getD_eq_getElem?_getD, sureP_len, hi]
      rw [g1, g2, sureP_get hi]
      obtain ⟨q1, q2, q3⟩ := h2.1 i hi
      obtain ⟨⟨n1, n2, n3⟩, n4, n5⟩ := nm_ok h2.1 hi
      have e2 : ia (nums l) i = nm l i := nmL_get l hi
      have hd : 1 ≤ ((dn l l.length : Nat) : Int).tdiv (l.getD i pair0).2 := by
        rcases Int.lt_or_le 0 (((dn l l.length : Nat) : Int).tdiv (l.getD i pair0).2) with h | h
        · omega
        · have := Int.mul_le_mul_of_nonneg_right h (show 0 ≤ (l.getD i pair0).2 by omega); rw [Int.zero_mul] at this; omega
      by_cases e : k = i
      · subst e
        rw [if_pos rfl]
        rw [e2, nm] at h
        have h := h.trans n3.symm
        have hne : (l.getD k pair0).1 = (l.getD k pair0).2 := Int.eq_of_mul_eq_mul_left (show ((dn l l.length : Nat) : Int).tdiv (l.getD k pair0).2 ≠ 0 by omega) h
        rw [hne] at q3
        have hg : ((Nat.gcd (l.getD k pair0).2.toNat (l.getD k pair0).2.toNat : Nat) : Int) = 1 := q3
        rw [Nat.gcd_self] at hg
        exact Prod.ext (by rw [hne]; show _ = (1 : Int); omega) (by show _ = (1 : Int); omega)
      · rw [if_neg e]
        have hz := o3 i hi (fun q => e q.symm)
        rw [e2, nm] at hz
        have hz : (l.getD i pair0).1 = 0 := by
          rcases Int.mul_eq_zero.1 hz with h | h
          · omega
          · exact h
        rw [hz] at q3
        have hg : ((Nat.gcd (0 : Int).toNat (l.getD i pair0).2.toNat : Nat) : Int) = 1 := q3
        simp only [Int.toNat_zero, Nat.gcd_zero_left] at hg
        exact Prod.ext (by rw [hz]) (by show _ = (1 : Int); omega)
  · intro h
    have e1 : nums l = uv l.length k := by
      have := sureP_nums l.length k
      rw [← h] at this; exact this
    have e2 : dn l l.length = 1 := by
      have := sureP_dn l.length k (Nat.le_refl _)
      rw [← h] at this; exact this
    rw [e1, e2, uv_get hk, if_pos rfl]; rfl
abbrev o42 (l m : List Pr) : List Out :=
  [.mk Unit .ret [4] (fun _ => l ≠ m) (fun _ => [.bool false]) (fun _ => .nil) (fun _ => []),
   .mk Unit (.exit 0) [] (fun _ => l = m) (fun _ => []) (fun _ => .nil) (fun _ => [])]
theorem simp42 : allSimpleM none1 (loopAt Try.f42 0) = true := by kernel_rfl
theorem lp42 (l m : List Pr) (r q : Room) (h0 : lim l.length) (hl : l.length = m.length) (hr0 : rok l r) (hq0 : rok m q) :
    LoopS (En6 []) (loopAt Try.f42 0) 26 [0, 1, 12, 13] [pz l r, pz m q, I l.length, I 0] .nil (o42 l m) := by
  have hR : Rests (En6 []) none1 := rests mixed .nil
  refine loop_s hR simp42 none (by intro _ h; cases h) (fun j vs h => h = .nil ∧ vs = [pz l r, pz m q, I l.length, I (j : Nat)] ∧ ∀ i, i < j → l.getD i pair0 = m.getD i pair0) l.length ⟨rfl, rfl, fun i hi => absurd hi (by omega)⟩ (by intro _ h; cases h) ?_
  rintro j vs h hj ⟨rfl, rfl, ha⟩
  by_cases hz : (j : Int) < l.length
  · have hz' : j < l.length := by omega
    have hzm : j < m.length := by omega
    have hzm' : (j : Int) < m.length := by omega
    have hr := rok_idx hr0 hz'
    have hq := rok_idx hq0 hzm
    have ev0 := wj1 (j := j) (by simp only [lim] at h0; omega)
    refine ⟨[Ans.o (Orc.b true), Ans.o (Orc.val 18 (AV.cptr (pairsA (List.drop j l))) H.nil), Ans.o (Orc.val 19 (AV.agg [I (l.getD j pair0).fst, I (l.getD j pair0).snd]) H.nil), Ans.o (Orc.val 22 (AV.cptr (pairsA (List.drop j m))) H.nil), Ans.o (Orc.val 23 (AV.agg [I (m.getD j pair0).fst, I (m.getD j pair0).snd]) H.nil), Ans.bfork (24 : Nat) [] [Ans.o (Orc.val 25 (I (↑(j + (1 : Nat)) : Int)) H.nil)]], fun u => of_eq ((↑j : Int) < (↑l.length : Int) ∧ aIndexAddr Try.prog (23 : Nat) (AV.sl (pairsA l) l.length r) (I (↑j : Int)) = some (AV.cptr (pairsA (List.drop j l))) ∧ aLoad Try.prog (47 : Nat) (pairsA (List.drop j l)) = some (AV.agg [I (l.getD j pair0).fst, I (l.getD j pair0).snd]) ∧ aIndexAddr Try.prog (23 : Nat) (AV.sl (pairsA m) m.length q) (I (↑j : Int)) = some (AV.cptr (pairsA (List.drop j m))) ∧ aLoad Try.prog (47 : Nat) (pairsA (List.drop j m)) = some (AV.agg [I (m.getD j pair0).fst, I (m.getD j pair0).snd]) ∧ ((!((l.getD j pair0).fst == (m.getD j pair0).fst && ((l.getD j pair0).snd == (m.getD j pair0).snd && true))) = true → (26 : Nat) = (26 : Nat) ∧ hits [Out.mk Unit AX.ret [(4 : Nat)] (fun x => l ≠ m) (fun x => [AV.bool false]) (fun x => H.nil) fun x => [], Out.mk Unit (AX.exit (0 : Nat)) [] (fun x => l = m) (fun x => []) (fun x => H.nil) fun x => []] AX.ret [AV.sl (pairsA l) l.length r, AV.sl (pairsA m) m.length q, u (2 : Nat), u (3 : Nat), AV.bool false, I (↑j : Int), u (6 : Nat), u (7 : Nat), u (8 : Nat), u (9 : Nat), u (10 : Nat), u (11 : Nat), I (↑l.length : Int), I (↑j : Int), AV.bool true, I (↑j : Int), AV.sl (pairsA l) l.length r, I (↑j : Int), AV.cptr (pairsA (List.drop j l)), AV.agg [I (l.getD j pair0).fst, I (l.getD j pair0).snd], AV.sl (pairsA m) m.length q, I (↑j : Int), AV.cptr (pairsA (List.drop j m)), AV.agg [I (m.getD j pair0).fst, I (m.getD j pair0).snd], AV.bool true, u (25 : Nat)] (H.mk [] [] [])) ∧ ((!((l.getD j pair0).fst == (m.getD j pair0).fst && ((l.getD j pair0).snd == (m.getD j pair0).snd && true))) = false → aBin Try.prog BinOp.add (3 : Nat) (I (↑j : Int)) (I 1) = some (I (↑(j + (1 : Nat)) : Int)) ∧ (26 : Nat) = (26 : Nat) ∧ j < l.length ∧ Keep (H.mk [] [] [] = H.mk [] [] [] ∧ [AV.sl (pairsA l) l.length r, AV.sl (pairsA m) m.length q, I (↑l.length : Int), I (↑(j + (1 : Nat)) : Int)] = [AV.sl (pairsA l) l.length r, AV.sl (pairsA m) m.length q, I (↑l.length : Int), I (↑(j + (1 : Nat)) : Int)] ∧ ∀ (i : Nat), i < j + (1 : Nat) → l.getD i pair0 = m.getD i pair0))) (by kernel_rfl) ?_⟩
    refine ⟨by first | with_reducible assumption | omega | assumption, ?_⟩
    refine ⟨by first | exact ix_pairs (by kernel_rfl) hz' hr | exact ix_pairs (by kernel_rfl) hzm hq, ?_⟩
    refine ⟨by first | exact ld_pairs (by kernel_rfl) (by kernel_rfl) (by kernel_rfl) hz' | exact ld_pairs (by kernel_rfl) (by kernel_rfl) (by kernel_rfl) hzm, ?_⟩
    refine ⟨by first | exact ix_pairs (by kernel_rfl) hz' hr | exact ix_pairs (by kernel_rfl) hzm hq, ?_⟩
    refine ⟨by first | exact ld_pairs (by kernel_rfl) (by kernel_rfl) (by kernel_rfl) hz' | exact ld_pairs (by kernel_rfl) (by kernel_rfl) (by kernel_rfl) hzm, ?_⟩
    refine And.intro ?_ ?_
    · skip
      intro w0
      refine ⟨by first | with_reducible assumption | omega | assumption, ?_⟩
      exact .inl ⟨(), fun e => by subst e; simp at w0, rfl, rfl, rfl⟩
    · skip
      intro w0
      refine ⟨told_add (by with_reducible assumption), ?_⟩
      refine ⟨by first | with_reducible assumption | omega | assumption, ?_⟩
      refine ⟨by first | with_reducible assumption | omega | assumption, ?_⟩
      exact ⟨rfl, rfl, all_succ (q := fun i => l.getD i pair0 = m.getD i pair0) ha (by simp at w0; exact Prod.ext (by simp [w0]) (by simp [w0]))⟩
  · have hz : (l.length : Int) ≤ j := by omega
    have e : l = m := List.ext_getElem hl fun i h1 h2 => by
      have := ha i (by omega)
      simpa [List.getD_eq_getElem?_getD, h1, h2] using this
    refine ⟨[Ans.o (Orc.b false)], fun u => of_eq ((↑l.length : Int) ≤ (↑j : Int) ∧ (26 : Nat) = (26 : Nat) ∧ hits [Out.mk Unit AX.ret [(4 : Nat)] (fun x => l ≠ m) (fun x => [AV.bool false]) (fun x => H.nil) fun x => [], Out.mk Unit (AX.exit (0 : Nat)) [] (fun x => l = m) (fun x => []) (fun x => H.nil) fun x => []] (AX.exit (0 : Nat)) [AV.sl (pairsA l) l.length r, AV.sl (pairsA m) m.length q, u (2 : Nat), u (3 : Nat), u (4 : Nat), u (5 : Nat), u (6 : Nat), u (7 : Nat), u (8 : Nat), u (9 : Nat), u (10 : Nat), u (11 : Nat), I (↑l.length : Int), I (↑j : Int), AV.bool false, u (15 : Nat), u (16 : Nat), u (17 : Nat), u (18 : Nat), u (19 : Nat), u (20 : Nat), u (21 : Nat), u (22 : Nat), u (23 : Nat), u (24 : Nat), u (25 : Nat)] (H.mk [] [] [])) (by kernel_rfl) ?_⟩
    refine ⟨by first | with_reducible assumption | omega | assumption, ?_⟩
    refine ⟨by first | with_reducible assumption | omega | assumption, ?_⟩
    exact .inr (.inl ⟨(), e, rfl, rfl, rfl⟩)
open Classical in
noncomputable def eqB (l m : List Pr) : Bool := decide (l = m)
theorem eqB_t {l m : List Pr} (h : l = m) : eqB l m = true := by simp only [eqB, decide_eq_true_eq]; exact h
theorem eqB_f {l m : List Pr} (h : l ≠ m) : eqB l m = false := by simp only [eqB, decide_eq_false_iff_not]; exact h
theorem ok42 : FokM Try.prog none1 42 Try.f42 := ⟨mixed, by kernel_rfl, by kernel_rfl, by kernel_rfl, by kernel_rfl⟩
abbrev p42 (l : List Pr) (r : Room) (m : List Pr) (q : Room) : Prop := (lim l.length ∧ lim m.length) ∧ rok l r ∧ rok m q
theorem r42 (l : List Pr) (r : Room) (m : List Pr) (q : Room) (hp : p42 l r m q) : Body (En6 []) none1 Try.f42 [pz l r, pz m q] .nil (.bool (eqB l m), .nil) := by
  by_cases hl : l.length = m.length
  · have hl' : (l.length : Int) = m.length := by omega
    have lp := lp42 l m r q hp.1.1 hl hp.2.1 hp.2.2
    refine body_s ([Ans.o (Orc.b false), Ans.loop [(0 : Nat), (1 : Nat), (12 : Nat), (13 : Nat)] [Out.mk Unit AX.ret [(4 : Nat)] (fun x => l ≠ m) (fun x => [AV.bool false]) (fun x => H.nil) fun y => [], Out.mk Unit (AX.exit (0 : Nat)) [] (fun x => l = m) (fun x => []) (fun x => H.nil) fun y => []]]) ((↑l.length : Int) = (↑m.length : Int) ∧ LoopS (Env.mk Try.prog (Sof (P := Try.prog) []) (Pof (P := Try.prog) []) H.nil.base (300 : Nat)) (loopAt Try.f42 (0 : Nat)) (26 : Nat) [(0 : Nat), (1 : Nat), (12 : Nat), (13 : Nat)] [AV.sl (pairsA l) l.length r, AV.sl (pairsA m) m.length q, I (↑l.length : Int), I 0] (H.mk [] [] []) [Out.mk Unit AX.ret [(4 : Nat)] (fun x => l ≠ m) (fun x => [AV.bool false]) (fun x => H.nil) fun y => [], Out.mk Unit (AX.exit (0 : Nat)) [] (fun x => l = m) (fun x => []) (fun x => H.nil) fun y => []] ∧ (∀ (y : Unit), l ≠ m → ∀ (u : Nat → AV), (AV.bool false, H.mk [] [] []) = (AV.bool (eqB l m), H.mk [] [] [])) ∧ (∀ (y : Unit), l = m → ∀ (u : Nat → AV), (AV.bool true, H.mk [] [] []) = (AV.bool (eqB l m), H.mk [] [] [])) ∧ True) (by kernel_rfl) ?_
    refine ⟨by first | with_reducible assumption | omega | assumption, ?_⟩
    refine ⟨lp, ?_⟩
    refine And.intro ?_ ?_
    · skip
      intro y
      intro w1
      intro u
      first | rw [eqB_t (by assumption)] | rw [eqB_f (by assumption)]
    · skip
      refine And.intro ?_ ?_
      · skip
        intro y
        intro w1
        intro u
        first | rw [eqB_t (by assumption)] | rw [eqB_f (by assumption)]
      · skip
        trivial
  · have hl' : (l.length : Int) ≠ m.length := by omega
    rw [eqB_f (fun e => hl (by rw [e]))]
    refine body_s ([Ans.o (Orc.b true)]) ((↑l.length : Int) ≠ (↑m.length : Int) ∧ (AV.bool false, H.mk [] [] []) = (AV.bool false, H.mk [] [] [])) (by kernel_rfl) ?_
    refine ⟨by first | with_reducible assumption | omega | assumption, ?_⟩
    rfl
noncomputable def c42 : PCtr Try.prog := sctr ok42 (X := (List Pr × Room) × List Pr × Room) (fun x => [pz x.1.1 x.1.2, pz x.2.1 x.2.2]) (fun x => p42 x.1.1 x.1.2 x.2.1 x.2.2) (fun x => .bool (eqB x.1.1 x.2.1))
  (by
    rintro ⟨⟨l, r⟩, m, s⟩ ⟨⟨l', r'⟩, m', s'⟩ e _ _
    simp only [List.cons.injEq, and_true] at e
    simp only [pz_det e.1, pz_det e.2]) (fun x => by simp [AV.bnds, AV.bnd, AV.wk, rm_wk_bnd]) (fun x => rfl)
  (fun x hx => ⟨_, _, _, .nil, r42 x.1.1 x.1.2.wk x.2.1 x.2.2.wk ⟨hx.1, by simpa using hx.2.1, by simpa using hx.2.2⟩⟩)
theorem view_pz {h : H} {b : Nat} {m : List Pr} (hb : h.blk[b]? = some (pairsA m)) : View h (.msl b 0 m.length m.length 2) (pz m .no) := by
  have := View.msl (h := h) b 0 m.length m.length 2 (pairsA m) hb (by simp)
  have e : ((pairsA m).drop 0).take (m.length * 2) = pairsA m := by rw [List.drop_zero, List.take_of_length_le (by simp)]
  rw [e] at this
  exact this
theorem flats_pairs : ∀ l : List Pr, AV.flats (pairsA l) = true
  | [] => rfl
  | _ :: l => by simp [AV.flats, AV.flat, flats_pairs l]
/-- equality with what may still be written -/
noncomputable def c42v : Ctr Try.prog where
  f := 42
  X := (List Pr × Room) × List Pr × Nat × Nat
  args x := [pz x.1.1 x.1.2, .msl x.2.2.1 0 x.2.2.2 x.2.2.2 2]
  pre x h := h.blk[x.2.2.1]? = some (pairsA x.2.1) ∧ x.2.1.length = x.2.2.2 ∧ (p42 x.1.1 x.1.2 x.2.1 .no) ∧ x.1.2.bnd 0 = true
  res x h := (.bool (eqB x.1.1 x.2.1), h)
  det := by
    rintro ⟨⟨a, r⟩, c, b, n⟩ ⟨⟨a', r'⟩, c', b', n'⟩ h e p q
    simp only [List.cons.injEq, and_true, AV.msl.injEq, true_and] at e
    obtain ⟨e1, rfl, rfl, _⟩ := e
    have e1 : a = a' := pz_det e1
    subst e1
    have h1 := p.1.symm.trans q.1
    simp only [Option.some.injEq] at h1
    have h2 : c = c' := pairsA_inj h1
    rw [h2]
  ok := by
    rintro ⟨⟨a, r⟩, c, b, n⟩ h ⟨hb, hn, hp, hr⟩
    try simp only at hb hn hp hr
    subst hn
    have hc := c42.ok ((a, r), c, .no) hp
    exact ⟨hc.1, (hc.2 .nil).view rfl (.cons (.same _ (by simp [AV.bnd, hr])) (.cons (view_pz hb) .nil))⟩
theorem c42v_reads : c42v.Reads := ⟨fun _ _ _ => rfl, fun x h zs hp => by
  refine ⟨⟨?_, hp.2⟩, rfl⟩
  have hlt := (List.getElem?_eq_some_iff.1 hp.1).1
  show (h.blk ++ zs)[x.2.2.1]? = _
  rw [List.getElem?_append_left hlt]; exact hp.1⟩
/-- a copy, as it is made -/
noncomputable def c58t : Ctr Try.prog where
  f := 58
  X := List Pr × Nat
  args x := [.sl (pairsA x.1) x.2 .no]
  pre x h := h = .nil ∧ x.1.length = x.2 ∧ x.1 ≠ [] ∧ x.2 ≤ 1000000000
  res x _ := (.sl (pairsA x.1) x.2 (.tok 0 2), ⟨[], [x.2], []⟩)
  det := by
    rintro ⟨l, n⟩ ⟨l', n'⟩ h e _ _
    simp only [List.cons.injEq, AV.sl.injEq, and_true] at e
    obtain ⟨e1, rfl⟩ := e
    rw [pairsA_inj e1]
  ok := by
    rintro ⟨l, n⟩ h ⟨rfl, hn, hne, hb⟩
    try simp only at hn hne hb
    cases l with
    | nil => exact absurd rfl hne
    | cons x l => exact ⟨ok58.call, (r58 x l n hn hb).run ok58 .nil rfl⟩
abbrev M58 : FuncId → Bool := fun f => f == 58
theorem ok21m : FokM Try.prog M58 21 Try.f21 := ⟨mixed, by kernel_rfl, by kernel_rfl, by kernel_rfl, by kernel_rfl⟩
theorem r21t (l : List Pr) (hne : l ≠ []) (h8 : l.length ≤ 8) : Body (En6 [c58t]) M58 Try.f21 [pz l .no] .nil (.sl (pairsA l) l.length (.tok 0 2), ⟨[], [l.length], []⟩) := by
  have hk : (l.take (pick2 false (l.length : Int) 8).toNat) = l ∧ (pick2 false (l.length : Int) 8).toNat = l.length ∧ 0 ≤ pick2 false (l.length : Int) 8 ∧ pick2 false (l.length : Int) 8 ≤ 8 ∧ pick2 false (l.length : Int) 8 ≤ l.length := by
    simp only [pick2, Bool.false_eq_true, if_false]
    rw [if_neg (by omega)]
    exact ⟨List.take_of_length_le (by simp), by omega, by omega, by omega, by omega⟩
  have p58 : (l.take (pick2 false (l.length : Int) 8).toNat).length = (pick2 false (l.length : Int) 8).toNat ∧ l.take (pick2 false (l.length : Int) 8).toNat ≠ [] ∧ (pick2 false (l.length : Int) 8).toNat ≤ 1000000000 := ⟨by rw [hk.1, hk.2.1], by rw [hk.1]; exact hne, by omega⟩
  refine body_s ([Ans.o (Orc.val 7 (AV.sl (pairsA (List.take (pick2 false (↑l.length : Int) (8 : Int)).toNat l)) (pick2 false (↑l.length : Int) (8 : Int)).toNat Room.no) H.nil), Ans.o (Orc.val 8 (AV.sl (pairsA (List.take (pick2 false (↑l.length : Int) (8 : Int)).toNat l)) (pick2 false (↑l.length : Int) (8 : Int)).toNat (Room.tok 0 2)) (H.mk [] [(pick2 false (↑l.length : Int) (8 : Int)).toNat] []))]) (aSlice Try.prog (23 : Nat) (AV.sl (pairsA l) l.length Room.no) none (some (I (pick2 false (↑l.length : Int) (8 : Int)))) none (H.mk [] [] []) = some (AV.sl (pairsA (List.take (pick2 false (↑l.length : Int) (8 : Int)).toNat l)) (pick2 false (↑l.length : Int) (8 : Int)).toNat Room.no) ∧ aCall (Sof [c58t]) (AV.fn (Fn.func (58 : Nat)) [] []) [AV.sl (pairsA (List.take (pick2 false (↑l.length : Int) (8 : Int)).toNat l)) (pick2 false (↑l.length : Int) (8 : Int)).toNat Room.no] (H.mk [] [] []) = some (AV.sl (pairsA (List.take (pick2 false (↑l.length : Int) (8 : Int)).toNat l)) (pick2 false (↑l.length : Int) (8 : Int)).toNat (Room.tok 0 2), H.mk [] [(pick2 false (↑l.length : Int) (8 : Int)).toNat] []) ∧ leave (Base.mk H.nil.blk.length H.nil.toks.length H.nil.maps.length) (AV.sl (pairsA (List.take (pick2 false (↑l.length : Int) (8 : Int)).toNat l)) (pick2 false (↑l.length : Int) (8 : Int)).toNat (Room.tok 0 2)) (H.mk [] [(pick2 false (↑l.length : Int) (8 : Int)).toNat] []) = (AV.sl (pairsA l) l.length (Room.tok 0 2), H.mk [] [l.length] [])) (by kernel_rfl) ?_
  refine ⟨sl_pairs (by kernel_rfl) hk.2.2.1 hk.2.2.2.2, ?_⟩
  refine ⟨acall_hit (c := c58t) (l.take (pick2 false (l.length : Int) 8).toNat, (pick2 false (l.length : Int) 8).toNat) _ rfl ⟨rfl, p58⟩, ?_⟩
  (rw [hk.1, hk.2.1]; exact leave_pairs _ _)
/-- 'fracs' of what may still be written -/
noncomputable def c21v : Ctr Try.prog where
  f := 21
  X := List Pr × Nat × Nat
  args x := [.msl x.2.1 0 x.2.2 x.2.2 2]
  pre x h := h.blk[x.2.1]? = some (pairsA x.1) ∧ x.1.length = x.2.2 ∧ x.1 ≠ [] ∧ x.1.length ≤ 8
  res x h := (pz x.1 .no, h)
  det := by
    rintro ⟨c, b, n⟩ ⟨c', b', n'⟩ h e p q
    simp only [List.cons.injEq, and_true, AV.msl.injEq, true_and] at e
    obtain ⟨rfl, rfl, _⟩ := e
    have h1 := p.1.symm.trans q.1
    simp only [Option.some.injEq] at h1
    have h2 : c = c' := pairsA_inj h1
    rw [h2]
  ok := by
    rintro ⟨c, b, n⟩ h ⟨hb, hn, hne, h8⟩
    try simp only at hb hn hne h8
    subst hn
    have hc := (r21t c hne h8).run ok21m (.eff _ rfl .nil) rfl
    exact ⟨ok21m.call, hc.viewNo (flats_pairs c) (.cons (view_pz hb) .nil)⟩
theorem c21v_reads : c21v.Reads := ⟨fun _ _ _ => rfl, fun x h zs hp => by
  refine ⟨⟨?_, hp.2⟩, rfl⟩
  have hlt := (List.getElem?_eq_some_iff.1 hp.1).1
  show (h.blk ++ zs)[x.2.1]? = _
  rw [List.getElem?_append_left hlt]; exact hp.1⟩
end Go.Proofs.Bts

