/- Layer 5: linear programs: a new basis. -/
import Derived.Test.YtlomlnkafakloaaDoorSyc
import Derived.KernelRfl
set_option linter.unusedSimpArgs false
set_option linter.unusedVariables false
set_option linter.unnecessarySimpa false
set_option maxHeartbeats 4000000
set_option maxRecDepth 100000
namespace Go.Proofs.Sur
open Go Go.VM

def mx (f : Nat → Int) (R : List Int) (t : Nat) : List Int := (List.range R.length).map fun k => if k < t then f k else R.getD k i0
theorem mx_len (f : Nat → Int) (R : List Int) (t : Nat) : (mx f R t).length = R.length := by simp [mx]
theorem mx_at (f : Nat → Int) (R : List Int) (t k : Nat) (hk : k < R.length) : (mx f R t).getD k i0 = if k < t then f k else R.getD k i0 := by
  simp only [mx]
  rw [List.getD_eq_getElem?_getD, List.getElem?_map, List.getElem?_range hk]; rfl
theorem getD_ext {l l' : List Int} (h : l.length = l'.length) (h2 : ∀ k, k < l.length → l.getD k i0 = l'.getD k i0) : l = l' := by
  refine List.ext_getElem h fun k h3 h4 => ?_
  have := h2 k h3
  simpa [List.getD_eq_getElem?_getD, List.getElem?_eq_getElem h3, List.getElem?_eq_getElem h4] using this
theorem mx_set (f : Nat → Int) (R : List Int) (t : Nat) (ht : t < R.length) : (mx f R t).set t (f t) = mx f R (t + 1) := by
  refine getD_ext (by simp [mx_len]) fun k hk => ?_
  have hk : k < R.length := by simpa [mx_len] using hk
  rw [mx_at _ _ _ _ hk]
  by_cases e : t = k
  · subst e
    rw [if_pos (by omega)]
    simp [List.getD_eq_getElem?_getD, mx_len, ht]
  · rw [List.getD_eq_getElem?_getD, List.getElem?_set_ne e, ← List.getD_eq_getElem?_getD, mx_at _ _ _ _ hk]
    by_cases h2 : k < t
    · rw [if_pos h2, if_pos (by omega)]
    · rw [if_neg h2, if_neg (by omega)]
theorem mx_zero (f : Nat → Int) (R : List Int) : mx f R 0 = R := by
  refine getD_ext (mx_len ..) fun k hk => ?_
  rw [mx_at _ _ _ _ (by simpa [mx_len] using hk), if_neg (by omega)]
theorem mx_same (f : Nat → Int) (R : List Int) (t t' : Nat) (h : t ≤ t') (hf : ∀ k, t ≤ k → k < t' → f k = R.getD k i0) : mx f R t = mx f R t' := by
  refine getD_ext (by simp [mx_len]) fun k hk => ?_
  have hk : k < R.length := by simpa [mx_len] using hk
  rw [mx_at _ _ _ _ hk, mx_at _ _ _ _ hk]
  by_cases h1 : k < t
  · rw [if_pos h1, if_pos (by omega)]
  · rw [if_neg h1]
    by_cases h2 : k < t'
    · rw [if_pos h2, hf k (by omega) h2]
    · rw [if_neg h2]
theorem mx_full (f : Nat → Int) (R : List Int) : mx f R R.length = (List.range R.length).map f := by
  refine getD_ext (by simp [mx_len]) fun k hk => ?_
  have hk : k < R.length := by simpa [mx_len] using hk
  rw [mx_at _ _ _ _ hk, if_pos hk, List.getD_eq_getElem?_getD, List.getElem?_map, List.getElem?_range hk]; rfl
abbrev tr (n m : Nat) (R : List Int) (l e : Nat) (s : Int) : Nat → Int := trn n m R l e s
theorem tr_row {n m : Nat} {R : List Int} (l e : Nat) (s : Int) {c : Nat} (hc : c < wdt n m) : tr n m R l e s (l * wdt n m + c) = R.getD (l * wdt n m + c) i0 := by
  obtain ⟨d1, _⟩ := dm (wdt n m) l c hc
  simp only [tr, trn]; rw [d1, if_pos rfl]
theorem tr_else {n m : Nat} {R : List Int} {l e j : Nat} (s : Int) {c : Nat} (hc : c < wdt n m) (hj : j ≠ l) : tr n m R l e s (j * wdt n m + c) = (R.getD (j * wdt n m + c) i0 * R.getD (l * wdt n m + e) i0 - R.getD (j * wdt n m + e) i0 * R.getD (l * wdt n m + c) i0).tdiv s := by
  obtain ⟨d1, d2⟩ := dm (wdt n m) j c hc
  simp only [tr, trn]; rw [d1, d2, if_neg hj]
theorem mx_row {n m : Nat} {R : List Int} (hlen : R.length = (m + 1) * wdt n m) {l e : Nat} (hl : l ≤ m) (s : Int) (t : Nat) {c : Nat} (hc : c < wdt n m) : (mx (tr n m R l e s) R t).getD (l * wdt n m + c) i0 = R.getD (l * wdt n m + c) i0 := by
  rw [mx_at _ _ _ _ (by rw [hlen]; exact ix_lt hl hc), tr_row l e s hc]; split <;> rfl
theorem tr_small {x : Int} {s : Int} (h : -52000000 ≤ x ∧ x ≤ 52000000) : -52000000 ≤ x.tdiv s ∧ x.tdiv s ≤ 52000000 := by
  have : (x.tdiv s).natAbs = x.natAbs / s.natAbs := Int.natAbs_tdiv x s
  have h2 : x.natAbs / s.natAbs ≤ x.natAbs := Nat.div_le_self _ _
  omega
theorem ok87 : FokM Tryd.prog none1 87 Tryd.f87 := ⟨mixed, by kernel_rfl, by kernel_rfl, by kernel_rfl, by kernel_rfl⟩
theorem simp87b : allSimpleM none1 (loopAt Tryd.f87 1) = true := by kernel_rfl
theorem simp87 : allSimpleM none1 (loopAt Tryd.f87 0) = true := by kernel_rfl
abbrev mxt (n m : Nat) (R : List Int) (l e : Nat) (s : Int) (t : Nat) : List Int := mx (tr n m R l e s) R t
abbrev o87b (n m : Nat) (R B : List Int) (s : Int) (l e j : Nat) : List Out := [.mk Unit (.exit 2) [0, 1, 2, 6, 7, 24, 25] (fun _ => True) (fun _ => [.ptr 2 0, I (l : Nat), I (e : Nat), .msl 1 (l * wdt n m) (wdt n m) (wdt n m) 1, I (R.getD (l * wdt n m + e) i0), I (m + 1 : Nat), I (j : Nat)]) (fun _ => hG n m (mxt n m R l e s ((j + 1) * wdt n m)) B s) (fun _ => [])]
theorem lp87b (n m : Nat) (R B : List Int) (s : Int) (hn : nm n m) (h : Eqs n m R B) (l e j : Nat) (hl : l < m) (he : e < n + m) (hj : j ≤ m) (hne : j ≠ l) (hs : 0 < s) :
    LoopS (E4 [g89 n m hn]) (loopAt Tryd.f87 1) 77 [0, 1, 2, 6, 7, 9, 10, 24, 25, 39, 40] [.ptr 2 0, I (l : Nat), I (e : Nat), .msl 1 (l * wdt n m) (wdt n m) (wdt n m) 1, I (R.getD (l * wdt n m + e) i0), .msl 1 (j * wdt n m) (wdt n m) (wdt n m) 1, I (R.getD (j * wdt n m + e) i0), I (m + 1 : Nat), I (j : Nat), I (wdt n m : Nat), I 0]
      (hG n m (mxt n m R l e s (j * wdt n m)) B s) (o87b n m R B s l e j) := by
  have hR : Rests (E4 [g89 n m hn]) none1 := rests mixed (ct86 n m hn)
  refine loop_s hR simp87b none (by intro _ h; cases h) (fun c vs H => H = hG n m (mxt n m R l e s (j * wdt n m + c)) B s ∧ vs = [.ptr 2 0, I (l : Nat), I (e : Nat), .msl 1 (l * wdt n m) (wdt n m) (wdt n m) 1, I (R.getD (l * wdt n m + e) i0), .msl 1 (j * wdt n m) (wdt n m) (wdt n m) 1, I (R.getD (j * wdt n m + e) i0), I (m + 1 : Nat), I (j : Nat), I (wdt n m : Nat), I (c : Nat)] ∧ c ≤ wdt n m) (wdt n m) ⟨rfl, rfl, Nat.zero_le _⟩ (by intro _ h; cases h) ?_
  rintro c vs H hc ⟨rfl, rfl, hle⟩
  by_cases hz : (c : Int) < ((wdt n m : Nat) : Int)
  · have hz' : c < wdt n m := by omega
    have hcm : c ≤ n + m := by simp only [wdt] at hz'; omega
    have i1 := wd_ix h (i := j) (c := c) hj hcm
    have i2 := wd_ix h (i := l) (c := c) (by omega) hcm
    have c1 := h.cl j c hj hcm
    have c2 := h.cl l e (by omega) (by omega)
    have c3 := h.cl j e hj (by omega)
    have c4 := h.cl l c (by omega) hcm
    have q1 : (mxt n m R l e s (j * wdt n m + c)).getD (j * wdt n m + c) i0 = R.getD (j * wdt n m + c) i0 := by rw [mx_at _ _ _ _ i1, if_neg (by omega)]
    have q2 : (mxt n m R l e s (j * wdt n m + c)).getD (l * wdt n m + c) i0 = R.getD (l * wdt n m + c) i0 := mx_row h.lenR (by omega) s _ hz'
    have q3 : tr n m R l e s (j * wdt n m + c) = (R.getD (j * wdt n m + c) i0 * R.getD (l * wdt n m + e) i0 - R.getD (j * wdt n m + e) i0 * R.getD (l * wdt n m + c) i0).tdiv s := tr_else s hz' hne
    have q4 : (mxt n m R l e s (j * wdt n m + c)).set (j * wdt n m + c) (tr n m R l e s (j * wdt n m + c)) = mxt n m R l e s (j * wdt n m + (c + 1)) := mx_set _ _ _ i1
    have m1 := mul_sml c1 c2
    have m2 := mul_sml c3 c4
    have ev0 := wr_mul c1 c2
    have ev1 := wr_mul c3 c4
    have ev4 := w_suc (i := c) (by have := wd_lt hn; omega)
    have i3 : j * wdt n m + c < (mxt n m R l e s (j * wdt n m + c)).length := by rw [mx_len]; exact i1
    have i4 : l * wdt n m + c < (mxt n m R l e s (j * wdt n m + c)).length := by rw [mx_len]; exact i2
    generalize mxt n m R l e s (j * wdt n m + c) = S at *
    rw [← q1] at ev0 q3 m1
    rw [← q2] at ev1 q3 m2
    have ev2 : IntKind.i64.wrap ((S.getD (j * wdt n m + c) i0 * R.getD (l * wdt n m + e) i0) - (R.getD (j * wdt n m + e) i0 * S.getD (l * wdt n m + c) i0)) = (S.getD (j * wdt n m + c) i0 * R.getD (l * wdt n m + e) i0) - (R.getD (j * wdt n m + e) i0 * S.getD (l * wdt n m + c) i0) := wr _ (by omega) (by omega)
    have m3 := tr_small (x := (S.getD (j * wdt n m + c) i0 * R.getD (l * wdt n m + e) i0) - (R.getD (j * wdt n m + e) i0 * S.getD (l * wdt n m + c) i0)) (s := s) (by omega)
    have ev3 : IntKind.i64.wrap (((S.getD (j * wdt n m + c) i0 * R.getD (l * wdt n m + e) i0) - (R.getD (j * wdt n m + e) i0 * S.getD (l * wdt n m + c) i0)).tdiv s) = tr n m R l e s (j * wdt n m + c) := by rw [q3]; exact wr _ (by omega) (by omega)
    have hs0 : s ≠ 0 := by omega
    refine ⟨[Ans.o (Orc.b true), Ans.o (Orc.val 47 (AV.ptr 1 (j * wdt n m + c)) H.nil), Ans.o (Orc.val 48 (I (S.getD (j * wdt n m + c) i0)) H.nil), Ans.o (Orc.val 50 (I (S.getD (j * wdt n m + c) i0 * R.getD (l * wdt n m + e) i0)) H.nil), Ans.o (Orc.val 54 (AV.ptr 1 (l * wdt n m + c)) H.nil), Ans.o (Orc.val 55 (I (S.getD (l * wdt n m + c) i0)) H.nil), Ans.o (Orc.val 56 (I (R.getD (j * wdt n m + e) i0 * S.getD (l * wdt n m + c) i0)) H.nil), Ans.o (Orc.val 57 (I (S.getD (j * wdt n m + c) i0 * R.getD (l * wdt n m + e) i0 - R.getD (j * wdt n m + e) i0 * S.getD (l * wdt n m + c) i0)) H.nil), Ans.o (Orc.val 63 (AV.ptr 1 (j * wdt n m + c)) H.nil), Ans.o (Orc.val 9999 (AV.tup []) (H.mk [[I 0, I 0], ints (S.set (j * wdt n m + c) ((S.getD (j * wdt n m + c) i0 * R.getD (l * wdt n m + e) i0 - R.getD (j * wdt n m + e) i0 * S.getD (l * wdt n m + c) i0).tdiv s)), [AV.msl 1 0 ((m + (1 : Nat)) * wdt n m) ((m + (1 : Nat)) * wdt n m) (1 : Nat), I (↑(wdt n m) : Int), AV.msl 3 0 m (9223372036854775808 : Nat) (1 : Nat), I s], ints B] [] [])), Ans.o (Orc.val 64 (I (↑(c + (1 : Nat)) : Int)) H.nil)], fun u => of_eq ((↑c : Int) < (↑(wdt n m) : Int) ∧ aIndexAddr Tryd.prog 22 (AV.msl 1 (j * wdt n m) (wdt n m) (wdt n m) (1 : Nat)) (I (↑c : Int)) = some (AV.ptr 1 (j * wdt n m + c)) ∧ aLoad Tryd.prog 3 (List.drop (j * wdt n m + c) (ints S)) = some (I (S.getD (j * wdt n m + c) i0)) ∧ aBin Tryd.prog BinOp.mul (3 : Nat) (I (S.getD (j * wdt n m + c) i0)) (I (R.getD (l * wdt n m + e) i0)) = some (I (S.getD (j * wdt n m + c) i0 * R.getD (l * wdt n m + e) i0)) ∧ aIndexAddr Tryd.prog 22 (AV.msl 1 (l * wdt n m) (wdt n m) (wdt n m) (1 : Nat)) (I (↑c : Int)) = some (AV.ptr 1 (l * wdt n m + c)) ∧ aLoad Tryd.prog 3 (List.drop (l * wdt n m + c) (ints S)) = some (I (S.getD (l * wdt n m + c) i0)) ∧ aBin Tryd.prog BinOp.mul (3 : Nat) (I (R.getD (j * wdt n m + e) i0)) (I (S.getD (l * wdt n m + c) i0)) = some (I (R.getD (j * wdt n m + e) i0 * S.getD (l * wdt n m + c) i0)) ∧ aBin Tryd.prog BinOp.sub (3 : Nat) (I (S.getD (j * wdt n m + c) i0 * R.getD (l * wdt n m + e) i0)) (I (R.getD (j * wdt n m + e) i0 * S.getD (l * wdt n m + c) i0)) = some (I (S.getD (j * wdt n m + c) i0 * R.getD (l * wdt n m + e) i0 - R.getD (j * wdt n m + e) i0 * S.getD (l * wdt n m + c) i0)) ∧ s ≠ (0 : Int) ∧ IntKind.i64.wrap ((S.getD (j * wdt n m + c) i0 * R.getD (l * wdt n m + e) i0 - R.getD (j * wdt n m + e) i0 * S.getD (l * wdt n m + c) i0).tdiv s) = (S.getD (j * wdt n m + c) i0 * R.getD (l * wdt n m + e) i0 - R.getD (j * wdt n m + e) i0 * S.getD (l * wdt n m + c) i0).tdiv s ∧ aIndexAddr Tryd.prog 22 (AV.msl 1 (j * wdt n m) (wdt n m) (wdt n m) (1 : Nat)) (I (↑c : Int)) = some (AV.ptr 1 (j * wdt n m + c)) ∧ aStore Tryd.prog (Base.mk (4 : Nat) (0 : Nat) (0 : Nat)) (3 : Nat) (AV.ptr 1 (j * wdt n m + c)) (I ((S.getD (j * wdt n m + c) i0 * R.getD (l * wdt n m + e) i0 - R.getD (j * wdt n m + e) i0 * S.getD (l * wdt n m + c) i0).tdiv s)) (H.mk [[I 0, I 0], ints S, [AV.msl 1 0 ((m + (1 : Nat)) * wdt n m) ((m + (1 : Nat)) * wdt n m) (1 : Nat), I (↑(wdt n m) : Int), AV.msl 3 0 m (9223372036854775808 : Nat) (1 : Nat), I s], ints B] [] []) = some (H.mk [[I 0, I 0], ints (S.set (j * wdt n m + c) ((S.getD (j * wdt n m + c) i0 * R.getD (l * wdt n m + e) i0 - R.getD (j * wdt n m + e) i0 * S.getD (l * wdt n m + c) i0).tdiv s)), [AV.msl 1 0 ((m + (1 : Nat)) * wdt n m) ((m + (1 : Nat)) * wdt n m) (1 : Nat), I (↑(wdt n m) : Int), AV.msl 3 0 m (9223372036854775808 : Nat) (1 : Nat), I s], ints B] [] []) ∧ aBin Tryd.prog BinOp.add (3 : Nat) (I (↑c : Int)) (I 1) = some (I (↑(c + (1 : Nat)) : Int)) ∧ (77 : Nat) = (77 : Nat) ∧ c < wdt n m ∧ Keep (H.mk [[I 0, I 0], ints (S.set (j * wdt n m + c) ((S.getD (j * wdt n m + c) i0 * R.getD (l * wdt n m + e) i0 - R.getD (j * wdt n m + e) i0 * S.getD (l * wdt n m + c) i0).tdiv s)), [AV.msl 1 0 ((m + (1 : Nat)) * wdt n m) ((m + (1 : Nat)) * wdt n m) (1 : Nat), I (↑(wdt n m) : Int), AV.msl 3 0 m (9223372036854775808 : Nat) (1 : Nat), I s], ints B] [] [] = H.mk [[I 0, I 0], ints (mxt n m R l e s (j * wdt n m + (c + (1 : Nat)))), [AV.msl 1 0 ((m + (1 : Nat)) * wdt n m) ((m + (1 : Nat)) * wdt n m) (1 : Nat), I (↑(wdt n m) : Int), AV.msl 3 0 m (9223372036854775808 : Nat) (1 : Nat), I s], ints B] [] [] ∧ [AV.ptr 2 0, I (↑l : Int), I (↑e : Int), AV.msl 1 (l * wdt n m) (wdt n m) (wdt n m) (1 : Nat), I (R.getD (l * wdt n m + e) i0), AV.msl 1 (j * wdt n m) (wdt n m) (wdt n m) (1 : Nat), I (R.getD (j * wdt n m + e) i0), I (↑(m + (1 : Nat)) : Int), I (↑j : Int), I (↑(wdt n m) : Int), I (↑(c + (1 : Nat)) : Int)] = [AV.ptr 2 0, I (↑l : Int), I (↑e : Int), AV.msl 1 (l * wdt n m) (wdt n m) (wdt n m) (1 : Nat), I (R.getD (l * wdt n m + e) i0), AV.msl 1 (j * wdt n m) (wdt n m) (wdt n m) (1 : Nat), I (R.getD (j * wdt n m + e) i0), I (↑(m + (1 : Nat)) : Int), I (↑j : Int), I (↑(wdt n m) : Int), I (↑(c + (1 : Nat)) : Int)] ∧ c + (1 : Nat) ≤ wdt n m)) (by kernel_rfl) ?_⟩
    refine ⟨by first | with_reducible assumption | omega | assumption, ?_⟩
    refine ⟨ixm_map (by kernel_rfl) hz', ?_⟩
    refine ⟨by first | exact ldm_ints (by kernel_rfl) (by kernel_rfl) i3 | exact ldm_ints (by kernel_rfl) (by kernel_rfl) i4, ?_⟩
    refine ⟨told_mul (by with_reducible assumption), ?_⟩
    refine ⟨ixm_map (by kernel_rfl) hz', ?_⟩
    refine ⟨by first | exact ldm_ints (by kernel_rfl) (by kernel_rfl) i3 | exact ldm_ints (by kernel_rfl) (by kernel_rfl) i4, ?_⟩
    refine ⟨told_mul (by with_reducible assumption), ?_⟩
    refine ⟨told_sub (by with_reducible assumption), ?_⟩
    refine ⟨by first | with_reducible assumption | omega | assumption, ?_⟩
    refine ⟨wr _ (by omega) (by omega), ?_⟩
    refine ⟨ixm_map (by kernel_rfl) hz', ?_⟩
    refine ⟨st_ints (by kernel_rfl) rfl i3, ?_⟩
    refine ⟨told_add (by with_reducible assumption), ?_⟩
    refine ⟨by first | with_reducible assumption | omega | assumption, ?_⟩
    refine ⟨by first | with_reducible assumption | omega | assumption, ?_⟩
    exact ⟨by rw [← q3, q4], rfl, hz'⟩
  · have hz : ((wdt n m : Nat) : Int) ≤ c := by omega
    have e' : c = wdt n m := by omega
    have e2 : j * wdt n m + c = (j + 1) * wdt n m := by rw [e', Nat.add_mul, Nat.one_mul]
    rw [e2]
    refine ⟨[Ans.o (Orc.b false)], fun u => of_eq ((↑(wdt n m) : Int) ≤ (↑c : Int) ∧ (77 : Nat) = (77 : Nat) ∧ hits [Out.mk Unit (AX.exit 2) [0, 1, 2, 6, 7, 24, 25] (fun x => True) (fun x => [AV.ptr 2 0, I (↑l : Int), I (↑e : Int), AV.msl 1 (l * wdt n m) (wdt n m) (wdt n m) (1 : Nat), I (R.getD (l * wdt n m + e) i0), I (↑(m + (1 : Nat)) : Int), I (↑j : Int)]) (fun x => hG n m (mxt n m R l e s ((j + (1 : Nat)) * wdt n m)) B s) fun x => []] (AX.exit 2) [AV.ptr 2 0, I (↑l : Int), I (↑e : Int), u (3 : Nat), u (4 : Nat), u (5 : Nat), AV.msl 1 (l * wdt n m) (wdt n m) (wdt n m) (1 : Nat), I (R.getD (l * wdt n m + e) i0), u (8 : Nat), AV.msl 1 (j * wdt n m) (wdt n m) (wdt n m) (1 : Nat), I (R.getD (j * wdt n m + e) i0), u (11 : Nat), u (12 : Nat), u (13 : Nat), u (14 : Nat), u (15 : Nat), u (16 : Nat), u (17 : Nat), u (18 : Nat), u (19 : Nat), u (20 : Nat), u (21 : Nat), u (22 : Nat), u (23 : Nat), I (↑(m + (1 : Nat)) : Int), I (↑j : Int), u (26 : Nat), u (27 : Nat), u (28 : Nat), u (29 : Nat), u (30 : Nat), u (31 : Nat), u (32 : Nat), u (33 : Nat), u (34 : Nat), u (35 : Nat), u (36 : Nat), u (37 : Nat), u (38 : Nat), I (↑(wdt n m) : Int), I (↑c : Int), AV.bool false, u (42 : Nat), u (43 : Nat), u (44 : Nat), u (45 : Nat), u (46 : Nat), u (47 : Nat), u (48 : Nat), u (49 : Nat), u (50 : Nat), u (51 : Nat), u (52 : Nat), u (53 : Nat), u (54 : Nat), u (55 : Nat), u (56 : Nat), u (57 : Nat), u (58 : Nat), u (59 : Nat), u (60 : Nat), u (61 : Nat), u (62 : Nat), u (63 : Nat), u (64 : Nat), u (65 : Nat), u (66 : Nat), u (67 : Nat), u (68 : Nat), u (69 : Nat), u (70 : Nat), u (71 : Nat), u (72 : Nat), u (73 : Nat), u (74 : Nat), u (75 : Nat), u (76 : Nat)] (H.mk [[I 0, I 0], ints (mxt n m R l e s ((j + (1 : Nat)) * wdt n m)), [AV.msl 1 0 ((m + (1 : Nat)) * wdt n m) ((m + (1 : Nat)) * wdt n m) (1 : Nat), I (↑(wdt n m) : Int), AV.msl 3 0 m (9223372036854775808 : Nat) (1 : Nat), I s], ints B] [] [])) (by kernel_rfl) ?_⟩
    refine ⟨by first | with_reducible assumption | omega | assumption, ?_⟩
    refine ⟨by first | with_reducible assumption | omega | assumption, ?_⟩
    exact .inl ⟨(), trivial, rfl, rfl, rfl⟩
abbrev o87 (n m : Nat) (R B : List Int) (s : Int) (l e : Nat) : List Out := [.mk Unit (.exit 0) [0, 1, 2, 7] (fun _ => True) (fun _ => [.ptr 2 0, I (l : Nat), I (e : Nat), I (R.getD (l * wdt n m + e) i0)]) (fun _ => hG n m (trnL n m R l e s) B s) (fun _ => [])]
theorem lp87 (n m : Nat) (R B : List Int) (s : Int) (hn : nm n m) (h : Eqs n m R B) (l e : Nat) (hl : l < m) (he : e < n + m) (hs : 0 < s) :
    LoopS (E4 [g89 n m hn]) (loopAt Tryd.f87 0) 77 [0, 1, 2, 6, 7, 24, 25] [.ptr 2 0, I (l : Nat), I (e : Nat), .msl 1 (l * wdt n m) (wdt n m) (wdt n m) 1, I (R.getD (l * wdt n m + e) i0), I (m + 1 : Nat), I 0] (hG n m R B s) (o87 n m R B s l e) := by
  have hR : Rests (E4 [g89 n m hn]) none1 := rests mixed (ct86 n m hn)
  refine loop_s hR simp87 none (by intro _ h; cases h) (fun j vs H => H = hG n m (mxt n m R l e s (j * wdt n m)) B s ∧ vs = [.ptr 2 0, I (l : Nat), I (e : Nat), .msl 1 (l * wdt n m) (wdt n m) (wdt n m) 1, I (R.getD (l * wdt n m + e) i0), I (m + 1 : Nat), I (j : Nat)] ∧ j ≤ m + 1) (m + 1) ⟨by rw [Nat.zero_mul]; simp only [mxt, mx_zero], rfl, Nat.zero_le _⟩ (by intro _ h; cases h) ?_
  rintro j vs H hj ⟨rfl, rfl, hle⟩
  by_cases hz : (j : Int) < ((m + 1 : Nat) : Int)
  · have hz' : j ≤ m := by omega
    have ev0 := w_suc (i := j) (by obtain ⟨_, _, _⟩ := hn; omega)
    by_cases hjl : (j : Int) = l
    · have hjl' : j = l := by omega
      have q : mxt n m R l e s (j * wdt n m) = mxt n m R l e s ((j + 1) * wdt n m) := mx_same _ _ _ _ (Nat.mul_le_mul_right _ (by omega)) fun k h1 h2 => by
        have e1 : k = l * wdt n m + (k - l * wdt n m) := by rw [← hjl']; omega
        rw [Nat.add_mul, Nat.one_mul, hjl'] at h2
        rw [e1]; exact tr_row l e s (by omega)
      refine ⟨[Ans.o (Orc.b true), Ans.o (Orc.b true), Ans.o (Orc.val 65 (I (↑(j + (1 : Nat)) : Int)) H.nil)], fun u => of_eq ((↑j : Int) < (↑(m + (1 : Nat)) : Int) ∧ (↑j : Int) = (↑l : Int) ∧ aBin Tryd.prog BinOp.add (3 : Nat) (I (↑j : Int)) (I 1) = some (I (↑(j + (1 : Nat)) : Int)) ∧ (77 : Nat) = (77 : Nat) ∧ j < m + (1 : Nat) ∧ Keep (H.mk [[I 0, I 0], ints (mxt n m R l e s (j * wdt n m)), [AV.msl 1 0 ((m + (1 : Nat)) * wdt n m) ((m + (1 : Nat)) * wdt n m) (1 : Nat), I (↑(wdt n m) : Int), AV.msl 3 0 m (9223372036854775808 : Nat) (1 : Nat), I s], ints B] [] [] = H.mk [[I 0, I 0], ints (mxt n m R l e s ((j + (1 : Nat)) * wdt n m)), [AV.msl 1 0 ((m + (1 : Nat)) * wdt n m) ((m + (1 : Nat)) * wdt n m) (1 : Nat), I (↑(wdt n m) : Int), AV.msl 3 0 m (9223372036854775808 : Nat) (1 : Nat), I s], ints B] [] [] ∧ [AV.ptr 2 0, I (↑l : Int), I (↑e : Int), AV.msl 1 (l * wdt n m) (wdt n m) (wdt n m) (1 : Nat), I (R.getD (l * wdt n m + e) i0), I (↑(m + (1 : Nat)) : Int), I (↑(j + (1 : Nat)) : Int)] = [AV.ptr 2 0, I (↑l : Int), I (↑e : Int), AV.msl 1 (l * wdt n m) (wdt n m) (wdt n m) (1 : Nat), I (R.getD (l * wdt n m + e) i0), I (↑(m + (1 : Nat)) : Int), I (↑(j + (1 : Nat)) : Int)] ∧ j + (1 : Nat) ≤ m + (1 : Nat))) (by kernel_rfl) ?_⟩
      refine ⟨by first | with_reducible assumption | omega | assumption, ?_⟩
      refine ⟨by first | with_reducible assumption | omega | assumption, ?_⟩
      refine ⟨told_add (by with_reducible assumption), ?_⟩
      refine ⟨by first | with_reducible assumption | omega | assumption, ?_⟩
      refine ⟨by first | with_reducible assumption | omega | assumption, ?_⟩
      exact ⟨by rw [q], rfl, by omega⟩
    · have hjl : (j : Int) ≠ l := hjl
      have hi1 := hsG n m j (mxt n m R l e s (j * wdt n m)) B s hz'
      have lp := lp87b n m R B s hn h l e j hl he hz' (by omega) hs
      have x2 : e < wdt n m := by simp only [wdt]; omega
      have i1 := wd_ix h (i := j) (c := e) hz' (by omega)
      have q1 : (mxt n m R l e s (j * wdt n m)).getD (j * wdt n m + e) i0 = R.getD (j * wdt n m + e) i0 := by rw [mx_at _ _ _ _ i1, if_neg (by omega)]
      have i2 : j * wdt n m + e < (mxt n m R l e s (j * wdt n m)).length := by rw [mx_len]; exact i1
      rw [← q1] at lp
      refine ⟨[Ans.o (Orc.b true), Ans.o (Orc.b false), Ans.o (Orc.val 33 (AV.msl 1 (j * wdt n m) (wdt n m) (wdt n m) (1 : Nat)) (H.mk [[I 0, I 0], ints (mxt n m R l e s (j * wdt n m)), [AV.msl 1 0 ((m + (1 : Nat)) * wdt n m) ((m + (1 : Nat)) * wdt n m) (1 : Nat), I (↑(wdt n m) : Int), AV.msl 3 0 m (9223372036854775808 : Nat) (1 : Nat), I s], ints B] [] [])), Ans.o (Orc.val 36 (AV.ptr 1 (j * wdt n m + e)) H.nil), Ans.o (Orc.val 37 (I ((mxt n m R l e s (j * wdt n m)).getD (j * wdt n m + e) i0)) H.nil), Ans.loop [0, 1, 2, 6, 7, 9, 10, 24, 25, 39, 40] [Out.mk Unit (AX.exit 2) [0, 1, 2, 6, 7, 24, 25] (fun x => True) (fun x => [AV.ptr 2 0, I (↑l : Int), I (↑e : Int), AV.msl 1 (l * wdt n m) (wdt n m) (wdt n m) (1 : Nat), I (R.getD (l * wdt n m + e) i0), I (↑(m + (1 : Nat)) : Int), I (↑j : Int)]) (fun x => hG n m (mxt n m R l e s ((j + (1 : Nat)) * wdt n m)) B s) fun y => [Ans.o (Orc.val 65 (I (↑(j + (1 : Nat)) : Int)) H.nil)]]], fun u => of_eq ((↑j : Int) < (↑(m + (1 : Nat)) : Int) ∧ (↑j : Int) ≠ (↑l : Int) ∧ aCall (Sof [g89 n m hn]) (AV.fn (Fn.func 89) [] []) [AV.ptr 2 0, I (↑j : Int)] (H.mk [[I 0, I 0], ints (mxt n m R l e s (j * wdt n m)), [AV.msl 1 0 ((m + (1 : Nat)) * wdt n m) ((m + (1 : Nat)) * wdt n m) (1 : Nat), I (↑(wdt n m) : Int), AV.msl 3 0 m (9223372036854775808 : Nat) (1 : Nat), I s], ints B] [] []) = some (AV.msl 1 (j * wdt n m) (wdt n m) (wdt n m) (1 : Nat), H.mk [[I 0, I 0], ints (mxt n m R l e s (j * wdt n m)), [AV.msl 1 0 ((m + (1 : Nat)) * wdt n m) ((m + (1 : Nat)) * wdt n m) (1 : Nat), I (↑(wdt n m) : Int), AV.msl 3 0 m (9223372036854775808 : Nat) (1 : Nat), I s], ints B] [] []) ∧ aIndexAddr Tryd.prog 22 (AV.msl 1 (j * wdt n m) (wdt n m) (wdt n m) (1 : Nat)) (I (↑e : Int)) = some (AV.ptr 1 (j * wdt n m + e)) ∧ aLoad Tryd.prog 3 (List.drop (j * wdt n m + e) (ints (mxt n m R l e s (j * wdt n m)))) = some (I ((mxt n m R l e s (j * wdt n m)).getD (j * wdt n m + e) i0)) ∧ LoopS (Env.mk Tryd.prog (Sof [g89 n m hn]) (Pof (P := Tryd.prog) []) (Base.mk (4 : Nat) (0 : Nat) (0 : Nat)) (300 : Nat)) (loopAt Tryd.f87 1) 77 [0, 1, 2, 6, 7, 9, 10, 24, 25, 39, 40] [AV.ptr 2 0, I (↑l : Int), I (↑e : Int), AV.msl 1 (l * wdt n m) (wdt n m) (wdt n m) (1 : Nat), I (R.getD (l * wdt n m + e) i0), AV.msl 1 (j * wdt n m) (wdt n m) (wdt n m) (1 : Nat), I ((mxt n m R l e s (j * wdt n m)).getD (j * wdt n m + e) i0), I (↑(m + (1 : Nat)) : Int), I (↑j : Int), I (↑(wdt n m) : Int), I 0] (H.mk [[I 0, I 0], ints (mxt n m R l e s (j * wdt n m)), [AV.msl 1 0 ((m + (1 : Nat)) * wdt n m) ((m + (1 : Nat)) * wdt n m) (1 : Nat), I (↑(wdt n m) : Int), AV.msl 3 0 m (9223372036854775808 : Nat) (1 : Nat), I s], ints B] [] []) [Out.mk Unit (AX.exit 2) [0, 1, 2, 6, 7, 24, 25] (fun x => True) (fun x => [AV.ptr 2 0, I (↑l : Int), I (↑e : Int), AV.msl 1 (l * wdt n m) (wdt n m) (wdt n m) (1 : Nat), I (R.getD (l * wdt n m + e) i0), I (↑(m + (1 : Nat)) : Int), I (↑j : Int)]) (fun x => hG n m (mxt n m R l e s ((j + (1 : Nat)) * wdt n m)) B s) fun y => [Ans.o (Orc.val 65 (I (↑(j + (1 : Nat)) : Int)) H.nil)]] ∧ (∀ (y : Unit), True → ∀ (u : Nat → AV), aBin Tryd.prog BinOp.add (3 : Nat) (I (↑j : Int)) (I 1) = some (I (↑(j + (1 : Nat)) : Int)) ∧ (77 : Nat) = (77 : Nat) ∧ j < m + (1 : Nat) ∧ Keep (H.mk [[I 0, I 0], ints (mxt n m R l e s ((j + (1 : Nat)) * wdt n m)), [AV.msl 1 0 ((m + (1 : Nat)) * wdt n m) ((m + (1 : Nat)) * wdt n m) (1 : Nat), I (↑(wdt n m) : Int), AV.msl 3 0 m (9223372036854775808 : Nat) (1 : Nat), I s], ints B] [] [] = H.mk [[I 0, I 0], ints (mxt n m R l e s ((j + (1 : Nat)) * wdt n m)), [AV.msl 1 0 ((m + (1 : Nat)) * wdt n m) ((m + (1 : Nat)) * wdt n m) (1 : Nat), I (↑(wdt n m) : Int), AV.msl 3 0 m (9223372036854775808 : Nat) (1 : Nat), I s], ints B] [] [] ∧ [AV.ptr 2 0, I (↑l : Int), I (↑e : Int), AV.msl 1 (l * wdt n m) (wdt n m) (wdt n m) (1 : Nat), I (R.getD (l * wdt n m + e) i0), I (↑(m + (1 : Nat)) : Int), I (↑(j + (1 : Nat)) : Int)] = [AV.ptr 2 0, I (↑l : Int), I (↑e : Int), AV.msl 1 (l * wdt n m) (wdt n m) (wdt n m) (1 : Nat), I (R.getD (l * wdt n m + e) i0), I (↑(m + (1 : Nat)) : Int), I (↑(j + (1 : Nat)) : Int)] ∧ j + (1 : Nat) ≤ m + (1 : Nat))) ∧ True) (by kernel_rfl) ?_⟩
      refine ⟨by first | with_reducible assumption | omega | assumption, ?_⟩
      refine ⟨by first | with_reducible assumption | omega | assumption, ?_⟩
      refine ⟨acall_hit (c := g89 n m hn) (j : Nat) _ rfl hi1, ?_⟩
      refine ⟨ixm_map (by kernel_rfl) x2, ?_⟩
      refine ⟨ldm_ints (by kernel_rfl) (by kernel_rfl) i2, ?_⟩
      refine ⟨lp, ?_⟩
      refine And.intro ?_ ?_
      · skip
        intro y
        intro w1
        intro u
        refine ⟨told_add (by with_reducible assumption), ?_⟩
        refine ⟨by first | with_reducible assumption | omega | assumption, ?_⟩
        refine ⟨by first | with_reducible assumption | omega | assumption, ?_⟩
        exact ⟨rfl, rfl, by omega⟩
      · skip
        trivial
  · have hz : ((m + 1 : Nat) : Int) ≤ j := by omega
    have e' : j = m + 1 := by omega
    have q : mxt n m R l e s (j * wdt n m) = trnL n m R l e s := by
      rw [e', ← h.lenR]; exact mx_full _ _
    rw [q]
    refine ⟨[Ans.o (Orc.b false)], fun u => of_eq ((↑(m + (1 : Nat)) : Int) ≤ (↑j : Int) ∧ (77 : Nat) = (77 : Nat) ∧ hits [Out.mk Unit (AX.exit 0) [0, 1, 2, 7] (fun x => True) (fun x => [AV.ptr 2 0, I (↑l : Int), I (↑e : Int), I (R.getD (l * wdt n m + e) i0)]) (fun x => hG n m (trnL n m R l e s) B s) fun x => []] (AX.exit 0) [AV.ptr 2 0, I (↑l : Int), I (↑e : Int), u (3 : Nat), u (4 : Nat), u (5 : Nat), AV.msl 1 (l * wdt n m) (wdt n m) (wdt n m) (1 : Nat), I (R.getD (l * wdt n m + e) i0), u (8 : Nat), u (9 : Nat), u (10 : Nat), u (11 : Nat), u (12 : Nat), u (13 : Nat), u (14 : Nat), u (15 : Nat), u (16 : Nat), u (17 : Nat), u (18 : Nat), u (19 : Nat), u (20 : Nat), u (21 : Nat), u (22 : Nat), u (23 : Nat), I (↑(m + (1 : Nat)) : Int), I (↑j : Int), AV.bool false, u (27 : Nat), u (28 : Nat), u (29 : Nat), u (30 : Nat), u (31 : Nat), u (32 : Nat), u (33 : Nat), u (34 : Nat), u (35 : Nat), u (36 : Nat), u (37 : Nat), u (38 : Nat), u (39 : Nat), u (40 : Nat), u (41 : Nat), u (42 : Nat), u (43 : Nat), u (44 : Nat), u (45 : Nat), u (46 : Nat), u (47 : Nat), u (48 : Nat), u (49 : Nat), u (50 : Nat), u (51 : Nat), u (52 : Nat), u (53 : Nat), u (54 : Nat), u (55 : Nat), u (56 : Nat), u (57 : Nat), u (58 : Nat), u (59 : Nat), u (60 : Nat), u (61 : Nat), u (62 : Nat), u (63 : Nat), u (64 : Nat), u (65 : Nat), u (66 : Nat), u (67 : Nat), u (68 : Nat), u (69 : Nat), u (70 : Nat), u (71 : Nat), u (72 : Nat), u (73 : Nat), u (74 : Nat), u (75 : Nat), u (76 : Nat)] (H.mk [[I 0, I 0], ints (trnL n m R l e s), [AV.msl 1 0 ((m + (1 : Nat)) * wdt n m) ((m + (1 : Nat)) * wdt n m) (1 : Nat), I (↑(wdt n m) : Int), AV.msl 3 0 m (9223372036854775808 : Nat) (1 : Nat), I s], ints B] [] [])) (by kernel_rfl) ?_⟩
    refine ⟨by first | with_reducible assumption | omega | assumption, ?_⟩
    refine ⟨by first | with_reducible assumption | omega | assumption, ?_⟩
    exact .inl ⟨(), trivial, rfl, rfl, rfl⟩
theorem r87 (n m : Nat) (R B : List Int) (s : Int) (hn : nm n m) (h : Eqs n m R B) (l e : Nat) (hl : l < m) (he : e < n + m) (hs : 0 < s) :
    Body (E4 [g89 n m hn]) none1 Tryd.f87 [.ptr 2 0, I (l : Nat), I (e : Nat)] (hG n m R B s) (.tup [], hG n m (trnL n m R l e s) (B.set l (e : Int)) (R.getD (l * wdt n m + e) i0)) := by
  have hi1 := hsG n m l R B s (by omega)
  have lp := lp87 n m R B s hn h l e hl he hs
  have x2 : e < wdt n m := by simp only [wdt]; omega
  have i1 := wd_ix h (i := l) (c := e) (by omega) (by omega)
  have ev0 := w_suc (i := m) (by obtain ⟨_, _, _⟩ := hn; omega)
  have b1 : l < B.length := by rw [h.lenB]; exact hl
  refine body_s ([Ans.o (Orc.val 14 (AV.msl 1 (l * wdt n m) (wdt n m) (wdt n m) (1 : Nat)) (hG n m R B s)), Ans.o (Orc.val 17 (AV.ptr 1 (l * wdt n m + e)) H.nil), Ans.o (Orc.val 18 (I (R.getD (l * wdt n m + e) i0)) H.nil), Ans.o (Orc.val 24 (I (↑(m + (1 : Nat)) : Int)) H.nil), Ans.loop [0, 1, 2, 6, 7, 24, 25] [Out.mk Unit (AX.exit 0) [0, 1, 2, 7] (fun x => True) (fun x => [AV.ptr 2 0, I (↑l : Int), I (↑e : Int), I (R.getD (l * wdt n m + e) i0)]) (fun x => hG n m (trnL n m R l e s) B s) fun y => [Ans.o (Orc.val 72 (AV.ptr 3 l) H.nil), Ans.o (Orc.val 9999 (AV.tup []) (H.mk [[I 0, I 0], ints (trnL n m R l e s), [AV.msl 1 0 ((m + (1 : Nat)) * wdt n m) ((m + (1 : Nat)) * wdt n m) (1 : Nat), I (↑(wdt n m) : Int), AV.msl 3 0 m (9223372036854775808 : Nat) (1 : Nat), I s], ints (B.set l (↑e : Int))] [] []))]]]) (aCall (Sof [g89 n m hn]) (AV.fn (Fn.func 89) [] []) [AV.ptr 2 0, I (↑l : Int)] (hG n m R B s) = some (AV.msl 1 (l * wdt n m) (wdt n m) (wdt n m) (1 : Nat), H.mk [[I 0, I 0], ints R, [AV.msl 1 0 ((m + (1 : Nat)) * wdt n m) ((m + (1 : Nat)) * wdt n m) (1 : Nat), I (↑(wdt n m) : Int), AV.msl 3 0 m (9223372036854775808 : Nat) (1 : Nat), I s], ints B] [] []) ∧ aIndexAddr Tryd.prog 22 (AV.msl 1 (l * wdt n m) (wdt n m) (wdt n m) (1 : Nat)) (I (↑e : Int)) = some (AV.ptr 1 (l * wdt n m + e)) ∧ aLoad Tryd.prog 3 (List.drop (l * wdt n m + e) (ints R)) = some (I (R.getD (l * wdt n m + e) i0)) ∧ aBin Tryd.prog BinOp.add (3 : Nat) (I (↑m : Int)) (I 1) = some (I (↑(m + (1 : Nat)) : Int)) ∧ LoopS (Env.mk Tryd.prog (Sof [g89 n m hn]) (Pof (P := Tryd.prog) []) (Base.mk (4 : Nat) (0 : Nat) (0 : Nat)) (300 : Nat)) (loopAt Tryd.f87 0) 77 [0, 1, 2, 6, 7, 24, 25] [AV.ptr 2 0, I (↑l : Int), I (↑e : Int), AV.msl 1 (l * wdt n m) (wdt n m) (wdt n m) (1 : Nat), I (R.getD (l * wdt n m + e) i0), I (↑(m + (1 : Nat)) : Int), I 0] (hG n m R B s) [Out.mk Unit (AX.exit 0) [0, 1, 2, 7] (fun x => True) (fun x => [AV.ptr 2 0, I (↑l : Int), I (↑e : Int), I (R.getD (l * wdt n m + e) i0)]) (fun x => hG n m (trnL n m R l e s) B s) fun y => [Ans.o (Orc.val 72 (AV.ptr 3 l) H.nil), Ans.o (Orc.val 9999 (AV.tup []) (H.mk [[I 0, I 0], ints (trnL n m R l e s), [AV.msl 1 0 ((m + (1 : Nat)) * wdt n m) ((m + (1 : Nat)) * wdt n m) (1 : Nat), I (↑(wdt n m) : Int), AV.msl 3 0 m (9223372036854775808 : Nat) (1 : Nat), I s], ints (B.set l (↑e : Int))] [] []))]] ∧ (∀ (y : Unit), True → ∀ (u : Nat → AV), aIndexAddr Tryd.prog 22 (AV.msl 3 0 m (9223372036854775808 : Nat) (1 : Nat)) (I (↑l : Int)) = some (AV.ptr 3 l) ∧ aStore Tryd.prog (Base.mk (4 : Nat) (0 : Nat) (0 : Nat)) (3 : Nat) (AV.ptr 3 l) (I (↑e : Int)) (H.mk [[I 0, I 0], ints (trnL n m R l e s), [AV.msl 1 0 ((m + (1 : Nat)) * wdt n m) ((m + (1 : Nat)) * wdt n m) (1 : Nat), I (↑(wdt n m) : Int), AV.msl 3 0 m (9223372036854775808 : Nat) (1 : Nat), I s], ints B] [] []) = some (H.mk [[I 0, I 0], ints (trnL n m R l e s), [AV.msl 1 0 ((m + (1 : Nat)) * wdt n m) ((m + (1 : Nat)) * wdt n m) (1 : Nat), I (↑(wdt n m) : Int), AV.msl 3 0 m (9223372036854775808 : Nat) (1 : Nat), I s], ints (B.set l (↑e : Int))] [] []) ∧ (AV.tup [], H.mk [[I 0, I 0], ints (trnL n m R l e s), [AV.msl 1 0 ((m + (1 : Nat)) * wdt n m) ((m + (1 : Nat)) * wdt n m) (1 : Nat), I (↑(wdt n m) : Int), AV.msl 3 0 m (9223372036854775808 : Nat) (1 : Nat), I (R.getD (l * wdt n m + e) i0)], ints (B.set l (↑e : Int))] [] []) = (AV.tup [], H.mk [[I 0, I 0], ints (trnL n m R l e s), [AV.msl 1 0 ((m + (1 : Nat)) * wdt n m) ((m + (1 : Nat)) * wdt n m) (1 : Nat), I (↑(wdt n m) : Int), AV.msl 3 0 m (9223372036854775808 : Nat) (1 : Nat), I (R.getD (l * wdt n m + e) i0)], ints (B.set l (↑e : Int))] [] [])) ∧ True) (by kernel_rfl) ?_
  refine ⟨acall_hit (c := g89 n m hn) (l : Nat) _ rfl hi1, ?_⟩
  refine ⟨by first | exact ixm_map (by kernel_rfl) x2 | exact ixm0 (by kernel_rfl) hl, ?_⟩
  refine ⟨ldm_ints (by kernel_rfl) (by kernel_rfl) i1, ?_⟩
  refine ⟨told_add (by with_reducible assumption), ?_⟩
  refine ⟨lp, ?_⟩
  refine And.intro ?_ ?_
  · skip
    intro y
    intro w1
    intro u
    refine ⟨by first | exact ixm_map (by kernel_rfl) x2 | exact ixm0 (by kernel_rfl) hl, ?_⟩
    refine ⟨st_ints (by kernel_rfl) rfl b1, ?_⟩
    rfl
  · skip
    trivial
end Go.Proofs.Sur

