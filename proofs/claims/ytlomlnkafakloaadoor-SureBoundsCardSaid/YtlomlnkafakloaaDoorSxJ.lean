/- Layer 5: codes against ranks modulo 2. -/
import Derived.Test.YtlomlnkafakloaaDoorSuZ
import Derived.Test.YtlomlnkafakloaaDoorSwB
set_option linter.unusedSimpArgs false
set_option linter.unusedVariables false
set_option linter.unnecessarySimpa false
namespace Go.Proofs.Sur
open Go Go.VM
set_option maxHeartbeats 1000000
/-- sums modulo 2 -/
def xs : Nat → (Nat → Bool) → Bool
  | 0, _ => false
  | d + 1, f => (xs d f).xor (f d)
theorem xs_congr : ∀ (d : Nat) {f g : Nat → Bool}, (∀ t, t < d → f t = g t) → xs d f = xs d g
  | 0, _, _, _ => rfl
  | d + 1, f, g, h => by simp only [xs]; rw [xs_congr d (fun t ht => h t (by omega)), h d (by omega)]
theorem xs_xor : ∀ (d : Nat) (f g : Nat → Bool), xs d (fun t => (f t).xor (g t)) = (xs d f).xor (xs d g)
  | 0, _, _ => rfl
  | d + 1, f, g => by simp only [xs]; rw [xs_xor d f g]; cases xs d f <;> cases xs d g <;> cases f d <;> cases g d <;> rfl
theorem xs_and (c : Bool) : ∀ (d : Nat) (f : Nat → Bool), xs d (fun t => c && f t) = (c && xs d f)
  | 0, _ => by simp [xs]
  | d + 1, f => by simp only [xs]; rw [xs_and c d f]; cases c <;> cases xs d f <;> cases f d <;> rfl
theorem xs_add (f : Nat → Bool) (d : Nat) : ∀ e, xs (d + e) f = (xs d f).xor (xs e (fun t => f (d + t)))
  | 0 => by simp [xs]
  | e + 1 => by
    show (xs (d + e) f).xor (f (d + e)) = _
    rw [xs_add f d e]; simp only [xs]
    cases xs d f <;> cases xs e (fun t => f (d + t)) <;> cases f (d + e) <;> rfl
/-- a product of sums -/
theorem xs_mul {m : Nat} (hm : 0 < m) (f h : Nat → Bool) : ∀ p, xs (p * m) (fun t => f (t / m) && h (t % m)) = (xs p f && xs m h)
  | 0 => by simp [xs]
  | p + 1 => by
    rw [Nat.add_mul, Nat.one_mul, xs_add, xs_mul hm f h p]
    have e : xs m (fun t => f ((p * m + t) / m) && h ((p * m + t) % m)) = (f p && xs m h) := by
      rw [← xs_and]
      refine xs_congr m fun t ht => ?_
      have h1 : (p * m + t) / m = p := by rw [Nat.mul_comm, Nat.mul_add_div hm, Nat.div_eq_of_lt ht]; rfl
      have h2 : (p * m + t) % m = t := by rw [Nat.mul_comm, Nat.mul_add_mod, Nat.mod_eq_of_lt ht]
      rw [h1, h2]
    rw [e]; simp only [xs]
    cases xs p f <;> cases xs m h <;> cases f p <;> rfl
/-- so many vectors, each with its own other one, need so many places -/
theorem rank_le : ∀ (p : Nat) (S : List Nat) (U W : Nat → Nat → Bool), S.Nodup → (∀ x, x ∈ S → ∀ y, y ∈ S → xs p (fun t => U x t && W y t) = decide (x = y)) → S.length ≤ p
  | 0, S, U, W, hn, h => by
    cases S with
    | nil => exact Nat.le_refl _
    | cons a S =>
      have := h a (by simp) a (by simp)
      simp [xs] at this
  | p + 1, S, U, W, hn, h => by
    by_cases hz : ∃ a, a ∈ S ∧ U a p = true
    · obtain ⟨a, ha, hu⟩ := hz
      have hl : S.length = (S.erase a).length + 1 := by
        rw [List.length_erase_of_mem ha]
        have : 0 < S.length := List.length_pos_of_mem ha
        omega
      have hn' : (S.erase a).Nodup := hn.erase a
      have hm : ∀ x, x ∈ S.erase a → x ∈ S ∧ x ≠ a := fun x hx => by
        have := (List.Nodup.mem_erase_iff hn).1 hx
        exact ⟨this.2, this.1⟩
      have := rank_le p (S.erase a) (fun x t => (U x t).xor (U x p && U a t)) W hn' (fun x hx y hy => by
        obtain ⟨hx1, hx2⟩ := hm x hx
        obtain ⟨hy1, hy2⟩ := hm y hy
        have e : xs p (fun t => ((U x t).xor (U x p && U a t)) && W y t) = xs (p + 1) (fun t => ((U x t).xor (U x p && U a t)) && W y t) := by
          simp only [xs]
          have : ((U x p).xor (U x p && U a p) && W y p) = false := by rw [hu]; cases U x p <;> rfl
          rw [this]; cases xs p (fun t => ((U x t).xor (U x p && U a t)) && W y t) <;> rfl
        have e2 : xs (p + 1) (fun t => ((U x t).xor (U x p && U a t)) && W y t) = xs (p + 1) (fun t => (U x t && W y t).xor (U x p && (U a t && W y t))) := xs_congr _ fun t _ => by
          cases U x t <;> cases U x p <;> cases U a t <;> cases W y t <;> rfl
        rw [e, e2, xs_xor, xs_and, h x hx1 y hy1, h a ha y hy1, decide_eq_false (show ¬ a = y from fun q => hy2 q.symm)]
        cases U x p <;> simp)
      omega
    · have := rank_le p S U W hn (fun x hx y hy => by
        have hx0 : U x p = false := by
          cases hq : U x p
          · rfl
          · exact absurd ⟨x, hx, hq⟩ hz
        have := h x hx y hy
        simp only [xs, hx0, Bool.false_and, Bool.xor_false] at this
        exact this)
      omega
/-- sets of near words, with rank at most p -/
def Fac (w : List W) (p : Nat) : Prop := ∃ U B : Nat → Nat → Bool, ∀ x, x < w.length → xs p (fun t => U x t && B x t) = true ∧ ∀ y, y < w.length → (wt_ w x).getLsbD y = false → xs p (fun t => U x t && B y t) = false
theorem fac_ind {w : List W} {p : Nat} (h : Fac w p) (h64 : w.length ≤ 64) {S : List Nat} (hS : Ind w (ful w.length) S) : S.length ≤ p := by
  obtain ⟨U, B, hf⟩ := h
  have hlt : ∀ x, x ∈ S → x < w.length := fun x hx => by
    have := hS.ins x hx
    rw [ful_bit h64, decide_eq_true_eq] at this; exact this
  refine rank_le p S U B hS.nd fun x hx y hy => ?_
  by_cases e : x = y
  · subst e; rw [decide_eq_true rfl]; exact (hf x (hlt x hx)).1
  · rw [decide_eq_false e]; exact (hf x (hlt x hx)).2 y (hlt y hy) (hS.far x hx y hy e)
theorem fac_mul {a b : List W} {p q : Nat} (ha : Fac a p) (hb : Fac b q) (hq : 0 < q) (hga : gdW a) (hgb : gdW b) (hl : a.length * b.length ≤ 64) : Fac (prV a b) (p * q) := by
  obtain ⟨U, B, hf⟩ := ha
  obtain ⟨U', B', hf'⟩ := hb
  have hb0 : 0 < b.length := Nat.pos_of_ne_zero hgb.1.1
  refine ⟨fun x t => U (x / b.length) (t / q) && U' (x % b.length) (t % q), fun x t => B (x / b.length) (t / q) && B' (x % b.length) (t % q), fun x hx => ?_⟩
  rw [prV_len] at hx ⊢
  have d := divlt hb0 hx
  have key : ∀ y, xs (p * q) (fun t => (U (x / b.length) (t / q) && U' (x % b.length) (t % q)) && (B (y / b.length) (t / q) && B' (y % b.length) (t % q))) = (xs p (fun t => U (x / b.length) t && B (y / b.length) t) && xs q (fun t => U' (x % b.length) t && B' (y % b.length) t)) := fun y => by
    rw [← xs_mul hq]
    refine xs_congr _ fun t _ => ?_
    cases U (x / b.length) (t / q) <;> cases U' (x % b.length) (t % q) <;> cases B (y / b.length) (t / q) <;> cases B' (y % b.length) (t % q) <;> rfl
  refine ⟨?_, fun y hy hn => ?_⟩
  · rw [key, (hf _ d.1).1, (hf' _ d.2).1]; rfl
  · have d' := divlt hb0 hy
    rw [key]
    rw [prV_get b (by omega) a x hx, prW_iff (m := a.length) (hga.2.1 _ d.1) (hgb.2.1 _ d.2) hl hy, Bool.and_eq_false_iff] at hn
    rcases hn with hn | hn
    · rw [(hf _ d.1).2 _ d'.1 hn]; rfl
    · rw [(hf' _ d.2).2 _ d'.2 hn, Bool.and_false]
theorem fac_pow {g : List Int} (hg : Gr g) {p : Nat} (hp : 0 < p) (h : Fac (nrV g) p) : ∀ m, g.length ^ (m + 1) ≤ 64 → Fac (pwW g m) (p ^ (m + 1))
  | 0, _ => by rw [Nat.pow_succ, Nat.pow_zero, Nat.one_mul]; exact h
  | m + 1, hl => by
    have hm : g.length ^ (m + 1) ≤ 64 := Nat.le_trans (Nat.pow_le_pow_right hg.1.1 (by omega)) hl
    have hgs := pwW_gs hg m hm
    rw [Nat.pow_succ p (m + 1)]
    exact fac_mul (fac_pow hg hp h m hm) h hp hgs.1 (nrV_gd hg) (by rw [pwW_len, nrV_len, ← Nat.pow_succ]; exact hl)
/-! a least rank is one -/
def xb : List Nat → (Nat → Bool) → Nat → Bool
  | [], _, _ => false
  | b :: B, c, j => (c 0 && b.testBit j).xor (xb B (fun t => c (t + 1)) j)
/-- rows that fit, of a span and more vectors -/
def Row (g : List Int) (s : List Int) (B : List Nat) (i : Nat) : Prop := ∃ t c, t ∈ s ∧ (∀ j, j < g.length → ((t.toNat.testBit j).xor (xb B c j)) = true → j = i ∨ bi (at_ g i) j = true) ∧ ((t.toNat.testBit i).xor (xb B c i)) = true
theorem ftB_iff {g : List Int} (hg : Gr g) {i : Nat} (hi : i < g.length) {x : Int} (hx : x.toNat < 64) (h : ftB g i x = true) : (∀ j, j < g.length → x.toNat.testBit j = true → j = i ∨ bi (at_ g i) j = true) ∧ x.toNat.testBit i = true := by
  simp only [ftB, decide_eq_true_eq] at h
  have hab : ∀ j, (andn x.toNat (at_ g i).toNat).testBit j = (x.toNat.testBit j && !bi (at_ g i) j) := fun j => andn_bit (by omega) j
  constructor
  · intro j hj h1
    have := hab j
    rw [h, h1, Nat.testBit_two_pow] at this
    cases hq : bi (at_ g i) j
    · rw [hq] at this; simp at this; exact .inl this.symm
    · exact .inr rfl
  · have := hab i
    rw [h, Nat.testBit_two_pow] at this
    simp at this
    exact this.1
theorem xb_zero : ∀ (B : List Nat) (j : Nat), xb B (fun _ => false) j = false
  | [], _ => rfl
  | b :: B, j => by simp only [xb]; rw [xb_zero B j]; rfl
theorem xr_ltJ {y x : Int} (hy : 0 ≤ y ∧ y < 64) (hx : 0 ≤ x ∧ x < 64) : 0 ≤ xr y x ∧ xr y x < 64 := by
  have := Nat.xor_lt_two_pow (n := 6) (x := y.toNat) (y := x.toNat) (by omega) (by omega)
  constructor
  · exact Int.natCast_nonneg _
  · show ((y.toNat ^^^ x.toNat : Nat) : Int) < 64
    omega
theorem ft_row {g : List Int} (hg : Gr g) : ∀ (d : Nat) (s : List Int), d ≤ g.length → (∀ x, x ∈ s → 0 ≤ x ∧ x < 64) → (0 : Int) ∈ s → ∃ B : List Nat, B.length = ftF g d s ∧ ∀ i, g.length - d ≤ i → i < g.length → Row g s B i
  | 0, s, _, _, _ => ⟨[], rfl, fun i h1 h2 => by omega⟩
  | d + 1, s, hd, hs, h0 => by
    have h6 := hg.1.2
    have h64 := pw_64 h6
    simp only [ftF]
    by_cases hany : s.any (ftB g (g.length - (d + 1))) = true
    · rw [if_pos hany]
      obtain ⟨B, hB, hr⟩ := ft_row hg d s (by omega) hs h0
      refine ⟨B, hB, fun i h1 h2 => ?_⟩
      by_cases e : i = g.length - (d + 1)
      · obtain ⟨x, hx, hf⟩ := List.any_eq_true.1 hany
        rw [← e] at hf
        obtain ⟨f1, f2⟩ := ftB_iff hg h2 (by have := hs x hx; omega) hf
        exact ⟨x, fun _ => false, hx, fun j hj hq => f1 j hj (by rw [xb_zero, Bool.xor_false] at hq; exact hq), by rw [xb_zero, Bool.xor_false]; exact f2⟩
      · exact hr i (by omega) h2
    · rw [if_neg hany]
      -- the least of the choices
      have units : ∃ B : List Nat, B.length = g.length ∧ ∀ i, i < g.length → Row g s B i := by
        have sel : ∀ (n k i : Nat), k ≤ i → i < k + n → ∃ c, ∀ j, xb ((List.range n).map (fun t => 2 ^ (k + t))) c j = decide (i = j) := fun n => by
          induction n with
          | zero => intro k i h1 h2; omega
          | succ n ih =>
            intro k i h1 h2
            have er : (List.range (n + 1)).map (fun t => 2 ^ (k + t)) = 2 ^ k :: (List.range n).map (fun t => 2 ^ (k + 1 + t)) := by
              rw [List.range_succ_eq_map, List.map_cons, List.map_map]
              congr 1
              apply List.map_congr_left
              intro t _
              simp only [Function.comp]
              congr 1; omega
            rw [er]
            by_cases e : i = k
            · refine ⟨fun t => decide (t = 0), fun j => ?_⟩
              simp only [xb]
              have : xb ((List.range n).map (fun t => 2 ^ (k + 1 + t))) (fun t => decide (t + 1 = 0)) j = false := by
                have : (fun t : Nat => decide (t + 1 = 0)) = fun _ => false := by funext t; simp
                rw [this, xb_zero]
              rw [this, Nat.testBit_two_pow, e]; simp
            · obtain ⟨c, hc⟩ := ih (k + 1) i (by omega) (by omega)
              refine ⟨fun t => match t with | 0 => false | t + 1 => c t, fun j => ?_⟩
              simp only [xb, Bool.false_and, Bool.false_xor]
              exact hc j
        refine ⟨(List.range g.length).map (fun t => 2 ^ (0 + t)), by simp, fun i hi => ?_⟩
        obtain ⟨c, hc⟩ := sel g.length 0 i (Nat.zero_le _) (by omega)
        refine ⟨0, c, h0, fun j hj hq => ?_, ?_⟩
        · rw [hc j] at hq
          simp at hq; exact .inl hq.symm
        · rw [hc i]; simp
      have fold : ∀ (l : List Nat) (b : Nat), (∀ x, x ∈ l → x < 64) → (∃ B : List Nat, B.length = b ∧ ∀ i, g.length - (d + 1) ≤ i → i < g.length → Row g s B i) →
          ∃ B : List Nat, B.length = l.foldl (fun (b x : Nat) => if ftB g (g.length - (d + 1)) (x : Int) then min b (1 + ftF g d (wd s (x : Int))) else b) b ∧ ∀ i, g.length - (d + 1) ≤ i → i < g.length → Row g s B i := by
        intro l
        induction l with
        | nil => intro b _ h; exact h
        | cons x l ihl =>
          intro b hl h
          rw [List.foldl_cons]
          refine ihl _ (fun y hy => hl y (List.mem_cons_of_mem _ hy)) ?_
          by_cases hf : ftB g (g.length - (d + 1)) (x : Int) = true
          · rw [if_pos hf]
            rcases Nat.le_total b (1 + ftF g d (wd s (x : Int))) with hm | hm
            · rw [Nat.min_eq_left hm]; exact h
            · rw [Nat.min_eq_right hm]
              have hx64 := hl x (by simp)
              have hw : ∀ y, y ∈ wd s (x : Int) → 0 ≤ y ∧ y < 64 := fun y hy => by
                simp only [wd, List.mem_append, List.mem_map] at hy
                rcases hy with hy | ⟨z, hz, rfl⟩
                · exact hs y hy
                · exact xr_ltJ (hs z hz) ⟨by omega, by omega⟩
              obtain ⟨B, hB, hr⟩ := ft_row hg d (wd s (x : Int)) (by omega) hw (by simp [wd, h0])
              refine ⟨x :: B, by simp [hB]; omega, fun i h1 h2 => ?_⟩
              by_cases e : i = g.length - (d + 1)
              · rw [← e] at hf
                obtain ⟨f1, f2⟩ := ftB_iff hg h2 (by rw [Int.toNat_natCast]; exact hx64) hf
                rw [Int.toNat_natCast] at f1 f2
                have hx1 : ∀ j, xb (x :: B) (fun t => decide (t = 0)) j = x.testBit j := fun j => by
                  simp only [xb]
                  have : (fun t : Nat => decide (t + 1 = 0)) = fun _ => false := by funext t; simp
                  rw [this, xb_zero]; simp
                refine ⟨0, fun t => decide (t = 0), h0, fun j hj hq => ?_, ?_⟩
                · rw [hx1] at hq
                  exact f1 j hj (by simpa using hq)
                · rw [hx1, f2]; simp
              · obtain ⟨t, c, ht, r1, r2⟩ := hr i (by omega) h2
                simp only [wd, List.mem_append, List.mem_map] at ht
                rcases ht with ht | ⟨z, hz, rfl⟩
                · refine ⟨t, fun k => match k with | 0 => false | k + 1 => c k, ht, fun j hj hq => r1 j hj ?_, ?_⟩
                  · simpa [xb] using hq
                  · simpa [xb] using r2
                · have hb : ∀ j, (xr z (x : Int)).toNat.testBit j = (z.toNat.testBit j).xor (x.testBit j) := fun j => by
                    simp only [xr, Int.toNat_natCast]
                    exact Nat.testBit_xor ..
                  refine ⟨z, fun k => match k with | 0 => true | k + 1 => c k, hz, fun j hj hq => r1 j hj ?_, ?_⟩
                  · rw [hb]; simp only [xb, Bool.true_and] at hq
                    rw [Bool.xor_assoc]; exact hq
                  · rw [hb] at r2; simp only [xb, Bool.true_and]
                    rw [← Bool.xor_assoc]; exact r2
          · rw [if_neg hf]; exact h
      refine fold (List.range (2 ^ g.length)) g.length (fun x hx => by have := List.mem_range.1 hx; omega) ?_
      obtain ⟨B, hB, hr⟩ := units
      exact ⟨B, hB, fun i _ h2 => hr i h2⟩
theorem xb_xs : ∀ (B : List Nat) (c : Nat → Bool) (j : Nat), xb B c j = xs B.length (fun t => c t && (B.getD t 0).testBit j)
  | [], _, _ => rfl
  | b :: B, c, j => by
    simp only [xb, List.length_cons]
    rw [xb_xs B, Nat.add_comm B.length 1, xs_add]
    simp only [xs, Bool.false_xor]
    congr 1
    refine xs_congr _ fun t _ => ?_
    rw [Nat.add_comm 1 t]; rfl
theorem ft_fac {g : List Int} (hg : Gr g) : Fac (nrV g) (ftF g g.length [0]) ∧ 0 < ftF g g.length [0] := by
  have h6 := hg.1.2
  obtain ⟨B, hB, hr⟩ := ft_row hg g.length [0] (Nat.le_refl _) (fun x hx => by simp at hx; omega) (by simp)
  have hc : ∀ i, ∃ c : Nat → Bool, i < g.length → (∀ j, j < g.length → xb B c j = true → j = i ∨ bi (at_ g i) j = true) ∧ xb B c i = true := fun i => by
    by_cases hi : i < g.length
    · obtain ⟨t, c, ht, h1, h2⟩ := hr i (by omega) hi
      simp at ht; subst ht
      refine ⟨c, fun _ => ⟨fun j hj hq => h1 j hj (by simpa using hq), by simpa using h2⟩⟩
    · exact ⟨fun _ => false, fun h => absurd h hi⟩
  refine ⟨⟨fun x => (hc x).choose, fun y t => (B.getD t 0).testBit y, fun x hx => ?_⟩, ?_⟩
  · rw [nrV_len] at hx ⊢
    obtain ⟨h1, h2⟩ := (hc x).choose_spec hx
    rw [← hB]
    refine ⟨by rw [← xb_xs]; exact h2, fun y hy hn => ?_⟩
    rw [← xb_xs]
    cases hq : xb B (hc x).choose y
    · rfl
    · exfalso
      rw [nrV_get hx, nrB_bit hg.1 hx (by omega)] at hn
      rcases h1 y hy hq with e | e
      · subst e; simp at hn
      · rw [e] at hn; simp at hn
  · rw [← hB]
    obtain ⟨_, h2⟩ := (hc 0).choose_spec hg.1.1
    cases B with
    | nil => simp [xb] at h2
    | cons => simp
/-- a code has at most as many words as the least rank to the power of the length -/
theorem haemers {g : List Int} (hg : Gr g) (m : Nat) (hl : g.length ^ (m + 1) ≤ 64) : msV (pwW g m) (ful (pwW g m).length) ≤ ftF g g.length [0] ^ (m + 1) := by
  obtain ⟨h1, h2⟩ := ft_fac hg
  have hgs := pwW_gs hg m hl
  obtain ⟨S, hS, hs⟩ := ms_get hgs (ful_sub hgs.1.1.2)
  rw [← hs]
  exact fac_ind (fac_pow hg h2 h1 m hl) hgs.1.1.2 hS
end Go.Proofs.Sur

