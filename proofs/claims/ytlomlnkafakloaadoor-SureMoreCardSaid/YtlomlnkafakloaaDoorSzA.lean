/- Layer 5: a pair of neighbours more. -/
import Derived.Test.YtlomlnkafakloaaDoorSxL
import Derived.Test.YtlomlnkafakloaaDoorSyC
set_option linter.unusedSimpArgs false
set_option linter.unusedVariables false
set_option linter.unnecessarySimpa false
set_option maxHeartbeats 1000000
namespace Go.Proofs.Sur
open Go Go.VM

/-- as many signals, and more neighbours -/
structure Mor (g M : List Int) : Prop where
  gg : Gr g
  gM : Gr M
  len : M.length = g.length
  bit : ∀ u v, u < g.length → v < g.length → bi (at_ g u) v = true → bi (at_ M u) v = true
theorem Mor.nr {g M : List Int} (h : Mor g M) {u v : Nat} (hu : u < g.length) (hv : v < g.length) (e : nr g u v = true) : Sur.nr M u v = true := by
  rw [nr_eq h.gg hu hv] at e
  rw [nr_eq h.gM (by rw [h.len]; exact hu) (by rw [h.len]; exact hv)]
  rw [Bool.or_eq_true] at e ⊢
  rcases e with e | e
  · exact .inl (h.bit u v hu hv e)
  · exact .inr e
/-- no greater weights -/
theorem Mor.wg {g M : List Int} (h : Mor g M) : wgN M * wgD g ≤ wgN g * wgD M := by
  obtain ⟨x, s, hs, hx, hL, e⟩ := lgt_ex h.gM
  rw [h.len] at hx e
  have hLg : Lgt g x s := fun p hp => by
    have := hL p (fun u v hu hv h1 h2 => by rw [h.len] at hu hv; exact h.nr hu hv (hp u v hu hv h1 h2))
    rw [h.len] at this; exact this
  have h1 := lgt_top h.gg hx hLg
  have w1 := (wg_ok h.gM).2.2.2.2.1
  refine Int.le_of_mul_le_mul_right (?_ : wgN M * wgD g * s ≤ wgN g * wgD M * s) hs
  have h2 : sm g.length x * wgD g * wgD M ≤ wgN g * s * wgD M := Int.mul_le_mul_of_nonneg_right h1 (by omega)
  calc wgN M * wgD g * s = (wgN M * s) * wgD g := by rw [Int.mul_right_comm]
    _ = sm g.length x * wgD g * wgD M := by rw [e, Int.mul_right_comm]
    _ ≤ wgN g * s * wgD M := h2
    _ = wgN g * wgD M * s := by rw [Int.mul_right_comm]
/-- no longer codes -/
theorem Mor.pw {g M : List Int} (h : Mor g M) : ∀ m, g.length ^ (m + 1) ≤ 64 → ∀ x y, x < g.length ^ (m + 1) → y < g.length ^ (m + 1) → (wt_ (pwW g m) x).getLsbD y = true → (wt_ (pwW M m) x).getLsbD y = true
  | 0, _, x, y, hx, hy, e => by
    rw [Nat.pow_succ, Nat.pow_zero, Nat.one_mul] at hx hy
    exact h.nr hx hy e
  | m + 1, hl, x, y, hx, hy, e => by
    have hn0 : 0 < g.length := h.gg.1.1
    have hl1 : g.length ^ (m + 1) ≤ 64 := Nat.le_trans (Nat.pow_le_pow_right hn0 (by omega)) hl
    have lg : (pwW g m).length = g.length ^ (m + 1) := pwW_len g m
    have lM : (pwW M m).length = g.length ^ (m + 1) := by rw [pwW_len, h.len]
    have gs := pwW_gs h.gg m hl1
    have gsM := pwW_gs h.gM m (by rw [h.len]; exact hl1)
    have hx' : x < g.length ^ (m + 1) * g.length := by rw [← Nat.pow_succ]; exact hx
    have hy' : y < g.length ^ (m + 1) * g.length := by rw [← Nat.pow_succ]; exact hy
    have dx := divlt hn0 hx'
    have dy := divlt hn0 hy'
    have hll : g.length ^ (m + 1) * g.length ≤ 64 := by rw [← Nat.pow_succ]; exact hl
    have ng := nrV_gd h.gg
    have nM := nrV_gd h.gM
    have q1 : (wt_ (prV (pwW g m) (nrV g)) x).getLsbD y = ((wt_ (pwW g m) (x / g.length)).getLsbD (y / g.length) && (wt_ (nrV g) (x % g.length)).getLsbD (y % g.length)) := by
      rw [prV_get (nrV g) (by rw [nrV_len]; omega) (pwW g m) x (by rw [nrV_len, lg]; exact hx'), nrV_len]
      exact prW_iff (m := g.length ^ (m + 1)) (by have := gs.1.2.1 (x / g.length) (by rw [lg]; exact dx.1); rw [lg] at this; exact this) (by have := ng.2.1 (x % g.length) (by rw [nrV_len]; exact dx.2); rw [nrV_len] at this; exact this) hll hy'
    have q2 : (wt_ (prV (pwW M m) (nrV M)) x).getLsbD y = ((wt_ (pwW M m) (x / g.length)).getLsbD (y / g.length) && (wt_ (nrV M) (x % g.length)).getLsbD (y % g.length)) := by
      rw [prV_get (nrV M) (by rw [nrV_len, h.len]; omega) (pwW M m) x (by rw [nrV_len, lM, h.len]; exact hx'), nrV_len, h.len]
      exact prW_iff (m := g.length ^ (m + 1)) (by have := gsM.1.2.1 (x / g.length) (by rw [lM]; exact dx.1); rw [lM] at this; exact this) (by have := nM.2.1 (x % g.length) (by rw [nrV_len, h.len]; exact dx.2); rw [nrV_len, h.len] at this; exact this) hll hy'
    rw [pwW, q1, Bool.and_eq_true] at e
    rw [pwW, q2, Bool.and_eq_true]
    exact ⟨h.pw m hl1 _ _ dx.1 dy.1 e.1, h.nr dx.2 dy.2 e.2⟩
theorem Mor.ms {g M : List Int} (h : Mor g M) (m : Nat) (hl : g.length ^ (m + 1) ≤ 64) : msV (pwW M m) (ful (pwW M m).length) ≤ msV (pwW g m) (ful (pwW g m).length) := by
  have gs := pwW_gs h.gg m hl
  have gsM := pwW_gs h.gM m (by rw [h.len]; exact hl)
  have lg : (pwW g m).length = g.length ^ (m + 1) := pwW_len g m
  have lM : (pwW M m).length = g.length ^ (m + 1) := by rw [pwW_len, h.len]
  obtain ⟨S, hS, e⟩ := ms_get gsM (ful_sub gsM.1.1.2)
  rw [← e]
  refine ms_le gs.1.2.2 (ful_sub gs.1.1.2) ⟨hS.nd, fun x hx => ?_, fun x hx y hy hne => ?_⟩
  · have := hS.ins x hx
    rw [lM] at this; rw [lg]; exact this
  · have hb : ∀ z, z ∈ S → z < g.length ^ (m + 1) := fun z hz => by
      have := hS.ins z hz
      rw [lM, ful_bit hl, decide_eq_true_eq] at this; exact this
    cases hq : (wt_ (pwW g m) x).getLsbD y
    · rfl
    · have := h.pw m hl x y (hb x hx) (hb y hy) hq
      rw [hS.far x hx y hy hne] at this; cases this
/-- what the words' number is, or the error -/
theorem rdF_none {g M : List Int} (h : M.length = g.length) : ∀ (n : Nat) (w u : List W), u.length = w.length → (rdF M n u).isNone = (rdF g n w).isNone
  | 0, _, _, _ => rfl
  | n + 1, w, u, e => by
    simp only [rdF]
    rw [e, h]
    split
    · rfl
    · exact rdF_none h n _ _ (by rw [prV_len, prV_len, e, nrV_len, nrV_len, h])
theorem Mor.rd {g M : List Int} (h : Mor g M) (k : Int) : rdE M k = rdE g k := by
  have h1 := rdF_none h.len (k - 1).toNat (nrV g) (nrV M) (by rw [nrV_len, nrV_len, h.len])
  simp only [rdE, grB_t h.gg, grB_t h.gM, true_and]
  by_cases hk : 1 ≤ k ∧ k ≤ 3
  · rw [if_pos hk, if_pos hk]
    cases e1 : rdF M (k - 1).toNat (nrV M) <;> cases e2 : rdF g (k - 1).toNat (nrV g) <;> rw [e1, e2] at h1 <;> first | rfl | (simp at h1)
  · rw [if_neg hk, if_neg hk]
theorem Mor.co {g M : List Int} (h : Mor g M) (k : Int) : (coV M k).length ≤ (coV g k).length := by
  by_cases e : rdE g k = 0
  · obtain ⟨h1, h2⟩ := co_len e
    obtain ⟨h3, _⟩ := co_len ((h.rd k).trans e)
    rw [h1, h3]; exact h.ms _ h2
  · have : coV M k = [] := if_neg (by rw [h.rd k]; exact e)
    rw [this]; exact Nat.zero_le _
/-- not more sets of neighbours -/
theorem fold_mem (t : Nat → Nat) (s : Nat) : ∀ (l : List Int) (b : Nat) (c : Int), c ∈ l → andn s c.toNat < s → l.foldl (cvT t s) b ≤ 1 + t (andn s c.toNat)
  | [], _, _, h, _ => by cases h
  | d :: l, b, c, h, hl => by
    rw [List.foldl_cons]
    rcases List.mem_cons.1 h with rfl | h
    · refine Nat.le_trans (fold_le t s l _) ?_
      simp only [cvT, if_pos hl]; exact Nat.min_le_right _ _
    · exact fold_mem t s l _ c h hl
theorem le_fold (t : Nat → Nat) (s B : Nat) : ∀ (l : List Int) (b : Nat), B ≤ b → (∀ c, c ∈ l → andn s c.toNat < s → B ≤ 1 + t (andn s c.toNat)) → B ≤ l.foldl (cvT t s) b
  | [], b, h, _ => h
  | c :: l, b, h, hl => by
    rw [List.foldl_cons]
    refine le_fold t s B l _ ?_ (fun d hd => hl d (List.mem_cons_of_mem _ hd))
    simp only [cvT]
    split
    · rename_i hlt
      have := hl c (by simp) hlt
      omega
    · exact h
theorem Mor.clq {g M : List Int} (h : Mor g M) {c : Int} (hc : c ∈ clV g) : c ∈ clV M := by
  have h1 := clV_mem h.gg.1 hc
  have hok := (okF_iff _).1 (clL_ok _ _ hc)
  have hp := Nat.two_pow_pos g.length
  have hlt : c.toNat < 2 ^ g.length := by omega
  have := mem_clL (g := M) (s := c.toNat) (by omega) ((okF_iff _).2 fun i hi => by
    rw [h.len] at hi
    refine (qc_iff h.gM (by rw [h.len]; exact hlt) (by rw [h.len]; exact hi)).2 fun a j hj b hne => ?_
    rw [h.len] at hj
    exact h.bit i j hi hj ((qc_iff h.gg hlt hi).1 (hok i hi) a j hj b hne)) (2 ^ M.length) (by rw [h.len]; exact hlt)
  rw [show ((c.toNat : Nat) : Int) = c from by omega] at this
  exact this
theorem Mor.V {g M : List Int} (h : Mor g M) (s : Nat) : V M s ≤ Sur.V g s := by
  induction s using Nat.strongRecOn with
  | _ s ih =>
    by_cases h0 : s = 0
    · subst h0; exact Nat.le_refl _
    · rw [V_eq g h0]
      refine le_fold _ _ _ _ _ (by have := V_le M s; rw [h.len] at this; exact this) fun c hc hlt => ?_
      have h1 : Sur.V M s ≤ 1 + Sur.V M (andn s c.toNat) := by
        rw [V_eq M h0]
        exact fold_mem _ _ _ _ c (h.clq hc) hlt
      have := ih _ hlt
      omega
theorem Mor.cv {g M : List Int} (h : Mor g M) : cvA M ≤ cvA g := by
  show Sur.V M (2 ^ M.length - 1) ≤ _
  rw [h.len]; exact h.V _
/-- the graph -/
def mor (g : List Int) (i j : Nat) : List Int := (g.set i (((at_ g i).toNat ||| 2 ^ j : Nat) : Int)).set j (((at_ g j).toNat ||| 2 ^ i : Nat) : Int)
theorem mor_len (g : List Int) (i j : Nat) : (mor g i j).length = g.length := by simp [mor]
theorem mor_at {g : List Int} {i j : Nat} (hi : i < g.length) (hj : j < g.length) (x : Nat) : at_ (mor g i j) x = if x = j then (((at_ g j).toNat ||| 2 ^ i : Nat) : Int) else if x = i then (((at_ g i).toNat ||| 2 ^ j : Nat) : Int) else at_ g x := by
  have h1 := gt_set (B := g.set i (((at_ g i).toNat ||| 2 ^ j : Nat) : Int)) (l := j) (i := x) (x := (((at_ g j).toNat ||| 2 ^ i : Nat) : Int)) (by simp; exact hj)
  have h2 := gt_set (B := g) (l := i) (i := x) (x := (((at_ g i).toNat ||| 2 ^ j : Nat) : Int)) hi
  exact h1.trans (by rw [h2])
theorem mor_bi {g : List Int} {i j : Nat} (hi : i < g.length) (hj : j < g.length) (hne : i ≠ j) (x y : Nat) : bi (at_ (mor g i j) x) y = (bi (at_ g x) y || (decide (x = i) && decide (y = j)) || (decide (x = j) && decide (y = i))) := by
  rw [mor_at hi hj]
  by_cases h1 : x = j
  · subst h1
    have : ¬ x = i := fun e => hne e.symm
    rw [if_pos rfl]
    simp only [bi, Int.toNat_natCast, Nat.testBit_or, Nat.testBit_two_pow, this, decide_false, Bool.false_and, Bool.or_false, decide_true, Bool.true_and]
    congr 1; simp [eq_comm]
  · rw [if_neg h1]
    by_cases h2 : x = i
    · subst h2
      rw [if_pos rfl]
      simp only [bi, Int.toNat_natCast, Nat.testBit_or, Nat.testBit_two_pow, h1, decide_false, Bool.false_and, Bool.or_false, decide_true, Bool.true_and]
      congr 1; simp [eq_comm]
    · rw [if_neg h2]; simp [h1, h2]
theorem mor_ok {g : List Int} (hg : Gr g) {i j : Nat} (hi : i < g.length) (hj : j < g.length) (hne : i ≠ j) : Mor g (mor g i j) := by
  have hb := mor_bi hi hj hne
  refine ⟨hg, ⟨by rw [sz, mor_len]; exact hg.1, fun x hx => ?_, fun x hx y hy => ?_⟩, mor_len g i j, fun u v hu hv e => by rw [hb, e]; rfl⟩
  · rw [mor_len] at hx
    rw [q1, mor_len, mor_at hi hj]
    have or_ok : ∀ u v, u < g.length → v < g.length → 0 ≤ (((at_ g u).toNat ||| 2 ^ v : Nat) : Int) ∧ (((at_ g u).toNat ||| 2 ^ v : Nat) : Int) < ((2 ^ g.length : Nat) : Int) := fun u v hu hv => by
      have h1 := hg.2.1 u hu
      have h2 : 2 ^ v < 2 ^ g.length := Nat.pow_lt_pow_right (by decide) hv
      have h3 := Nat.or_lt_two_pow (n := g.length) (x := (at_ g u).toNat) (y := 2 ^ v) (by omega) h2
      exact ⟨by omega, by omega⟩
    split
    · exact or_ok j i hj hi
    · split
      · exact or_ok i j hi hj
      · exact hg.2.1 x hx
  · rw [mor_len] at hx hy
    obtain ⟨h1, h2⟩ := hg.2.2 x hx y hy
    refine ⟨?_, fun e => ?_⟩
    · rw [hb, hb, h1]
      cases bi (at_ g y) x <;> by_cases a : x = i <;> by_cases b : y = j <;> by_cases c : x = j <;> by_cases d : y = i <;> simp [a, b, c, d]
    · subst e
      rw [hb, h2 rfl]
      by_cases a : x = i <;> by_cases b : x = j <;> simp [a, b] <;> omega
end Go.Proofs.Sur

