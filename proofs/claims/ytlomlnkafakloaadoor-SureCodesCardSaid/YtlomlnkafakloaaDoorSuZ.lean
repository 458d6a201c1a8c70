/- Layer 5: how the reference finds the most words and the first code. -/
import Derived.Test.YtlomlnkafakloaaDoorSuY
import Derived.KernelRfl
set_option linter.unusedSimpArgs false
set_option linter.unusedVariables false
set_option linter.unnecessarySimpa false
set_option maxHeartbeats 4000000
set_option maxRecDepth 100000
namespace Go.Proofs.Sur
open Go Go.VM

theorem ms_cl {w : List W} (hg : gsW w) {s : W} (hs : sub s w.length) {i : Nat} (hi : s.getLsbD i = true) (he : enB w s i = true) : msV w s = 1 + msV w (s &&& ~~~wt_ w i) := by
  obtain ⟨S, h1, h2⟩ := ms_get hg hs
  obtain ⟨T, t1, t2⟩ := ms_get hg (sub_andn (a := wt_ w i) hs)
  have a1 := ms_le hg.1.2.2 (sub_andn (a := wt_ w i) hs) (h1.without (a := wt_ w i))
  have a2 := filt_len (fun x => (wt_ w i).getLsbD x) S
  have a3 : (S.filter fun x => (wt_ w i).getLsbD x).length ≤ 1 := nodup_le1 (h1.nd.filter _) (fun x hx y hy => by
    obtain ⟨b1, b2⟩ := List.mem_filter.1 hx
    obtain ⟨c1, c2⟩ := List.mem_filter.1 hy
    refine Classical.byContradiction fun hne => ?_
    have := enB_iff.1 he x b2 (h1.ins x b1) y c2 (h1.ins y c1)
    rw [h1.far x b1 y c1 hne] at this; cases this)
  have a4 := ms_le hg.1.2.2 hs (t1.cons hg hs hi)
  rw [List.length_cons] at a4
  omega
theorem ms_mono {w : List W} (hg : gsW w) {s t : W} (hs : sub s w.length) (h : ∀ k, t.getLsbD k = true → s.getLsbD k = true) : msV w t ≤ msV w s := by
  obtain ⟨T, t1, t2⟩ := ms_get hg (s := t) (fun k hk => hs k (h k hk))
  have := ms_le hg.1.2.2 hs (t1.mono fun x hx => h x (t1.ins x hx))
  omega
theorem ms_br {w : List W} (hg : gsW w) {s : W} (hs : sub s w.length) {i : Nat} (hi : s.getLsbD i = true) : msV w s = max (1 + msV w (s &&& ~~~wt_ w i)) (msV w (s &&& ~~~(1#64 <<< i))) := by
  have h64 := bit_lt hi
  obtain ⟨S, h1, h2⟩ := ms_get hg hs
  obtain ⟨T, t1, t2⟩ := ms_get hg (sub_andn (a := wt_ w i) hs)
  have a4 := ms_le hg.1.2.2 hs (t1.cons hg hs hi)
  rw [List.length_cons] at a4
  have a5 := ms_mono hg (t := s &&& ~~~(1#64 <<< i)) hs (fun k hk => (andn_bitW.1 hk).1)
  by_cases hiS : i ∈ S
  · have a1 := ms_le hg.1.2.2 (sub_andn (a := wt_ w i) hs) (h1.without (a := wt_ w i))
    have a2 := filt_len (fun x => (wt_ w i).getLsbD x) S
    have a3 : (S.filter fun x => (wt_ w i).getLsbD x).length ≤ 1 := nodup_le1 (h1.nd.filter _) (fun x hx y hy => by
      obtain ⟨b1, b2⟩ := List.mem_filter.1 hx
      obtain ⟨c1, c2⟩ := List.mem_filter.1 hy
      have e1 : i = x := Classical.byContradiction fun hne => by rw [h1.far _ hiS x b1 hne] at b2; cases b2
      have e2 : i = y := Classical.byContradiction fun hne => by rw [h1.far _ hiS y c1 hne] at c2; cases c2
      rw [← e1, ← e2])
    omega
  · have := ms_le hg.1.2.2 (sub_andn (a := 1#64 <<< i) hs) (h1.mono (t := s &&& ~~~(1#64 <<< i)) fun x hx => andn_bitW.2 ⟨h1.ins x hx, by
      rw [one_bit h64, decide_eq_false_iff_not]; rintro rfl; exact hiS hx⟩)
    omega
theorem lsU_nodup (f : Nat → Bool) : ∀ n s, (lsU f s n).Nodup
  | 0, _ => List.nodup_nil
  | n + 1, s => by
    simp only [lsU]
    split
    · refine List.nodup_cons.2 ⟨fun h => ?_, lsU_nodup f n (s + 1)⟩
      have := (lsU_mem n (s + 1) s).1 h
      omega
    · exact lsU_nodup f n (s + 1)
theorem three_le {l : List Nat} (hn : l.Nodup) {x y z : Nat} (hx : x ∈ l) (hy : y ∈ l) (hz : z ∈ l) (h1 : x ≠ y) (h2 : x ≠ z) (h3 : y ≠ z) : 3 ≤ l.length := by
  match l, hn with
  | [], _ => cases hx
  | [a], _ => exact absurd ((List.mem_singleton.1 hx).trans (List.mem_singleton.1 hy).symm) h1
  | [a, b], _ => simp at hx hy hz; omega
  | a :: b :: c :: t, _ => simp
/-- a word that is near to one other at most -/
theorem en_two {w : List W} (hg : gsW w) {s : W} (hs : sub s w.length) {i : Nat} (hi : s.getLsbD i = true) (h : (bits (s &&& wt_ w i)).length ≤ 2) : enB w s i = true := by
  have hin := hs i hi
  have mem : ∀ x, (wt_ w i).getLsbD x = true → s.getLsbD x = true → x ∈ bits (s &&& wt_ w i) := fun x h1 h2 => by
    rw [mem_bits, BitVec.getLsbD_and, h1, h2]; rfl
  rw [enB_iff]
  intro x x1 x2 y y1 y2
  by_cases e1 : x = y
  · subst e1; exact hg.1.2.2.2 x (hs x x2)
  · by_cases e2 : x = i
    · subst e2; exact y1
    · by_cases e3 : y = i
      · subst e3; rw [hg.2 x y (hs x x2) hin]; exact x1
      · have := three_le (lsU_nodup _ 64 0) (mem x x1 x2) (mem y y1 y2) (mem i (hg.1.2.2.2 i hin) hi) e1 e2 e3
        have h' : (lsU (fun k => (s &&& wt_ w i).getLsbD k) 0 64).length ≤ 2 := h
        omega
theorem bits_mono {s t a : W} (h : ∀ k, t.getLsbD k = true → s.getLsbD k = true) : (bits (t &&& a)).length ≤ (bits (s &&& a)).length := lsU_le (fun i hi => by
  rw [BitVec.getLsbD_and, Bool.and_eq_true] at *
  exact ⟨h i hi.1, hi.2⟩) 64 0
/-- word by word, as the reference goes -/
def rfF (w : List W) : Nat → Nat → W → Nat → List Int
  | 0, _, _, _ => []
  | n + 1, j, s, m => if s.getLsbD j = true ∧ 0 < m ∧ 1 + msV w (s &&& ~~~wt_ w j) = m then (j : Int) :: rfF w n (j + 1) (s &&& ~~~wt_ w j) (m - 1) else rfF w n (j + 1) (s &&& ~~~(1#64 <<< j)) m
theorem rf_eq {w : List W} (hg : gsW w) : ∀ (n j : Nat) (s t : W) (m : Nat), Lft w j s m → n + j = w.length → (∀ k, j ≤ k → t.getLsbD k = s.getLsbD k) → (∀ k, k < j → t.getLsbD k = false) → rfF w n j t m = frF w n j s m
  | 0, _, _, _, _, _, _, _, _ => rfl
  | n + 1, j, s, t, m, h, hn, h1, h2 => by
    have h64 : j < 64 := by have := hg.1.1.2; omega
    have hts : ∀ k, t.getLsbD k = true → s.getLsbD k = true := fun k hk => by
      rcases Nat.lt_or_ge k j with h3 | h3
      · rw [h2 k h3] at hk; cases hk
      · rw [← h1 k h3]; exact hk
    have skip1 : ∀ k, j + 1 ≤ k → (t &&& ~~~(1#64 <<< j)).getLsbD k = s.getLsbD k := fun k hk => by
      rw [Bool.eq_iff_iff, andn_bitW, one_bit h64, h1 k (by omega)]
      simp; omega
    have skip2 : ∀ k, k < j + 1 → (t &&& ~~~(1#64 <<< j)).getLsbD k = false := fun k hk => by
      cases hq : (t &&& ~~~(1#64 <<< j)).getLsbD k
      · rfl
      · rw [andn_bitW, one_bit h64] at hq
        obtain ⟨a, b⟩ := hq
        rw [decide_eq_false_iff_not] at b
        rw [h2 k (by omega)] at a; cases a
    simp only [rfF, frF]
    cases hb : s.getLsbD j
    · rw [if_neg (by rw [h1 j (Nat.le_refl j), hb]; simp), if_pos rfl]
      exact rf_eq hg n (j + 1) _ _ m (h.skip hb) (by omega) skip1 skip2
    · rw [if_neg (c := true = false) (by simp)]
      have htb : t.getLsbD j = true := by rw [h1 j (Nat.le_refl j)]; exact hb
      have iff : (1 + msV w (t &&& ~~~wt_ w j) = m) ↔ (1 + msV w (s &&& ~~~wt_ w j) = m) := by
        have le1 := ms_mono hg (s := s &&& ~~~wt_ w j) (t := t &&& ~~~wt_ w j) (sub_andn h.sb) (fun k hk => by
          obtain ⟨a, b⟩ := andn_bitW.1 hk
          exact andn_bitW.2 ⟨hts k a, b⟩)
        obtain ⟨S, s1, s2⟩ := ms_get hg (sub_andn (a := wt_ w j) h.sb)
        have c1 := s1.cons hg h.sb hb
        have le2 := ms_le hg.1.2.2 h.sb c1
        rw [List.length_cons, h.ms] at le2
        constructor
        · intro e; omega
        · intro e
          have c2 := h.ge _ c1 (by rw [List.length_cons]; omega)
          have s3 : Ind w (t &&& ~~~wt_ w j) S := s1.mono fun x hx => by
            obtain ⟨a, b⟩ := andn_bitW.1 (s1.ins x hx)
            exact andn_bitW.2 ⟨by rw [h1 x (c2 x (by simp [hx]))]; exact a, b⟩
          have := ms_le hg.1.2.2 (sub_andn (a := wt_ w j) (fun k hk => h.sb k (hts k hk))) s3
          omega
      by_cases he : 1 + msV w (s &&& ~~~wt_ w j) = m
      · rw [if_pos ⟨htb, by omega, iff.2 he⟩, if_pos he]
        congr 1
        refine rf_eq hg n (j + 1) _ _ _ (h.take hg hb he) (by omega) (fun k hk => ?_) (fun k hk => ?_)
        · rw [Bool.eq_iff_iff, andn_bitW, andn_bitW, h1 k (by omega)]
        · cases hq : (t &&& ~~~wt_ w j).getLsbD k
          · rfl
          · obtain ⟨a, b⟩ := andn_bitW.1 hq
            rcases Nat.lt_or_ge k j with h3 | h3
            · rw [h2 k h3] at a; cases a
            · have : k = j := by omega
              subst this
              rw [hg.1.2.2.2 k (h.sb k hb)] at b; cases b
      · rw [if_neg (fun q => he (iff.1 q.2.2)), if_neg he]
        exact rf_eq hg n (j + 1) _ _ m (h.pass hg hb he) (by omega) skip1 skip2
theorem rfV_eq {w : List W} (hg : gsW w) : rfF w w.length 0 (ful w.length) (msV w (ful w.length)) = frV w :=
  rf_eq hg w.length 0 _ _ _ (Lft.first hg) (by omega) (fun _ _ => rfl) (fun k hk => absurd hk (Nat.not_lt_zero k))
/-- are two words the same, or confused? -/
def nrK (g : List Int) : Nat → Nat → Nat → Bool
  | 0, _, _ => true
  | k + 1, a, b => (decide (a % g.length = b % g.length) || bi (at_ g (a % g.length)) (b % g.length)) && nrK g k (a / g.length) (b / g.length)
theorem nrK_pw {g : List Int} (hg : Gr g) : ∀ (m a b : Nat), g.length ^ (m + 1) ≤ 64 → a < g.length ^ (m + 1) → b < g.length ^ (m + 1) → nrK g (m + 1) a b = (wt_ (pwW g m) a).getLsbD b
  | 0, a, b, _, ha, hb => by
    rw [Nat.pow_succ, Nat.pow_zero, Nat.one_mul] at ha hb
    have h6 := hg.1.2
    rw [pwW, nrV_get ha, nrB_bit hg.1 ha (by omega)]
    simp only [nrK, Bool.and_true, Nat.mod_eq_of_lt ha, Nat.mod_eq_of_lt hb]
    rw [Bool.or_comm]
    congr 1
    simp only [decide_eq_decide]; omega
  | m + 1, a, b, h, ha, hb => by
    have p : 0 < g.length := hg.1.1
    have h1 : g.length ^ (m + 1) ≤ 64 := Nat.le_trans (Nat.pow_le_pow_right p (by omega)) h
    have hgs := (pwW_gs hg m h1).1
    have hl : (pwW g m).length * (nrV g).length ≤ 64 := by rw [pwW_len, nrV_len, ← Nat.pow_succ]; exact h
    rw [Nat.pow_succ] at ha hb
    obtain ⟨a1, a2⟩ := divlt p ha
    obtain ⟨b1, b2⟩ := divlt p hb
    have ih := nrK_pw hg m (a / g.length) (b / g.length) h1 a1 b1
    have h6 := hg.1.2
    have hN := nrV_len g
    rw [pwW, prV_get (nrV g) (by rw [hN]; omega) (pwW g m) a (by rw [pwW_len, hN]; exact ha)]
    rw [hN] at hl ⊢
    have e := prW_iff (x := wt_ (pwW g m) (a / g.length)) (y := wt_ (nrV g) (a % g.length)) (m := (pwW g m).length) (n := g.length) (k := b) (hgs.2.1 _ (by rw [pwW_len]; exact a1)) (by
      have := (nrV_gd hg).2.1 (a % g.length) (by rw [hN]; exact a2)
      rw [hN] at this; exact this) hl (by rw [pwW_len]; exact hb)
    rw [e, ← ih, nrV_get a2, nrB_bit hg.1 a2 (by omega)]
    have e2 : decide (b % g.length = a % g.length) = decide (a % g.length = b % g.length) := by
      simp only [decide_eq_decide]; omega
    rw [e2, Bool.and_comm, Bool.or_comm]
    rfl
theorem nrK_rd {g : List Int} {k : Int} (h : rdE g k = 0) {a b : Nat} (ha : a < (rdW g k).length) (hb : b < (rdW g k).length) : nrK g k.toNat a b = (wt_ (rdW g k) a).getLsbD b := by
  obtain ⟨h1, h2⟩ := rd_pw h
  obtain ⟨hg, hk, _⟩ := rd_ok h
  have e : k.toNat = (k - 1).toNat + 1 := by omega
  rw [rdW_len h, e] at ha hb
  rw [e] at h2
  rw [e, h1]
  exact nrK_pw hg _ a b h2 ha hb
end Go.Proofs.Sur
