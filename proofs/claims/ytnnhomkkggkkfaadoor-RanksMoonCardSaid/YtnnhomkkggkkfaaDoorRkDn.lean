/- Layer 2: rounds of every length: Moon's theorem for the program's tournaments, and the search for a round. -/
import Derived.Test.YtnnhomkkggkkfaaDoorRkCg
import Derived.Test.YtnnhomkkggkkfaaDoorRkDm
import Derived.Test.YtnnhomkkggkkfaaDoorRkAd
set_option linter.unusedSimpArgs false
set_option linter.unusedVariables false
set_option linter.unnecessarySimpa false
set_option maxHeartbeats 4000000
set_option maxRecDepth 100000
namespace Go.Proofs.Rnk
open Go Go.VM
abbrev btP (t : List Int) (i j : Nat) : Prop := bt t i j = true
theorem Tn.rel {t : List Int} (h : Tn t) : TnR (btP t) t.length where
  anti i j hi hj h1 h2 := by
    by_cases e : i = j
    · subst e; have := h.irr i; rw [btP, this] at h1; cases h1
    · have := h.tot hi hj e
      rw [btP] at h1 h2
      rw [h1, h2] at this; cases this
  tot i j hi hj hne := by
    have := h.tot hi hj hne
    cases c : bt t j i
    · rw [c] at this; exact .inl this
    · exact .inr c
theorem ex_set (S : Nat → Prop) : ∀ n, ∃ F : Nat, ∀ b, F.testBit b = true ↔ b < n ∧ S b
  | 0 => ⟨0, fun b => by simp⟩
  | n + 1 => by
    obtain ⟨F, hF⟩ := ex_set S n
    by_cases c : S n
    · refine ⟨F ||| 2 ^ n, fun b => ?_⟩
      rw [Nat.testBit_or, Nat.testBit_two_pow, Bool.or_eq_true, decide_eq_true_eq, hF]
      constructor
      · rintro (⟨q, k⟩ | rfl)
        · exact ⟨by omega, k⟩
        · exact ⟨by omega, c⟩
      · rintro ⟨q, k⟩
        rcases Nat.lt_or_ge b n with w | w
        · exact .inl ⟨w, k⟩
        · exact .inr (by omega)
    · refine ⟨F, fun b => ?_⟩
      rw [hF]
      constructor
      · rintro ⟨q, k⟩; exact ⟨by omega, k⟩
      · rintro ⟨q, k⟩
        rcases Nat.lt_or_ge b n with w | w
        · exact ⟨w, k⟩
        · have : b = n := by omega
          subst this; exact absurd k c
theorem one_part {t : List Int} (h : Tn t) (h1 : mP t = 1) {i : Nat} (hi : i < t.length) : ∀ b, b < t.length → (rch t i).testBit b = true := by
  have hs := (mP_spec h).2.1
  rw [h1] at hs
  have hp : (pp t (rst t 0)).testBit i = true := by
    apply Classical.byContradiction; intro w
    have := (rst_bit h 0 i).2 ⟨by rw [rst, alls_bit]; simpa using hi, w⟩
    rw [show 0 + 1 = 1 from rfl, hs] at this; simp at this
  have := ((pA_bit _).1 hp).2.2
  intro b hb
  exact and_sub.1 this b (by rw [rst, alls_bit]; simpa using hb)
theorem one_left {t : List Int} (h : Tn t) (h1 : mP t = 1) : Left (btP t) t.length := fun S ⟨x, hx, hxS⟩ ⟨y, hy, hyS⟩ => by
  apply Classical.byContradiction
  intro hn
  obtain ⟨F, hF⟩ := ex_set S t.length
  have hc : clo t F := fun i b hi hb => by
    have hl := h.lt hb
    refine (hF b).2 ⟨hl.2, Classical.byContradiction fun q => hn ⟨i, b, hl.1, hl.2, ((hF i).1 hi).2, q, hb⟩⟩
  exact hyS ((hF y).1 (rch_least hc ((hF x).2 ⟨hx, hxS⟩) y (one_part h h1 hx y hy))).2
def can (A : Nat → Nat) (n : Nat) (rd : Bool) : List Int → Nat → List Nat → Prop
  | b, _, [] => (rd && !(A (lastN b)).testBit (frsN b)) = false
  | b, m, i :: l => i < n ∧ fol A b m i = true ∧ can A n rd (b ++ [(i : Int)]) (m ||| 2 ^ i) l
theorem can_some {A : Nat → Nat} {n : Nat} {rd : Bool} : ∀ (l : List Nat) (b : List Int) (m : Nat), can A n rd b m l → ∃ r, wyM A n rd l.length b m = some r
  | [], b, m, h => ⟨b, by rw [List.length_nil, wyM, show (rd && !(A (lastN b)).testBit (frsN b)) = false from h]; rfl⟩
  | i :: l, b, m, ⟨h1, h2, h3⟩ => by
    obtain ⟨r, hr⟩ := can_some l _ _ h3
    rw [List.length_cons, wyM_go]
    cases c : fRw A n rd l.length b m i with
    | some r' =>
      have := fRw_some c (n - i)
      rw [show i + (n - i) = n by omega] at this
      exact ⟨r', this⟩
    | none =>
      have h4 : fRw A n rd l.length b m (i + 1) = some r := by rw [fRw, c, if_pos h2, hr]; rfl
      have := fRw_some h4 (n - (i + 1))
      rw [show i + 1 + (n - (i + 1)) = n by omega] at this
      exact ⟨r, this⟩
theorem wyM_pre {A : Nat → Nat} {n : Nat} {rd : Bool} : ∀ (f : Nat) (b : List Int) (m : Nat) (l : List Int), wyM A n rd f b m = some l → ∃ s, l = b ++ s
  | 0, b, m, l, h => by
    rw [wyM] at h
    split at h
    · cases h
    · cases h; exact ⟨[], by simp⟩
  | f + 1, b, m, l, h => by
    rw [wyM_go] at h
    have key : ∀ k, fRw A n rd f b m k = some l → ∃ s, l = b ++ s := fun k => by
      induction k with
      | zero => intro h; cases h
      | succ k ih =>
        intro h
        rw [fRw] at h
        cases hq : fRw A n rd f b m k with
        | some l' => rw [hq] at h; cases h; exact ih hq
        | none =>
          rw [hq] at h
          have h : (if fol A b m k = true then wyM A n rd f (b ++ [(k : Int)]) (m ||| 2 ^ k) else none) = some l := h
          split at h
          · obtain ⟨s, hs⟩ := wyM_pre f _ _ l h
            exact ⟨(k : Int) :: s, by rw [hs]; simp⟩
          · cases h
    exact key n h
theorem can_first {A : Nat → Nat} {n : Nat} {rd : Bool} {l : List Nat} (hn : 0 < n) (h : can A n rd [] 0 (0 :: l)) : ∃ s, wyM A n rd (l.length + 1) [] 0 = some (0 :: s) := by
  obtain ⟨h1, h2, h3⟩ := h
  obtain ⟨r, hr⟩ := can_some l _ _ h3
  obtain ⟨s, hs⟩ := wyM_pre _ _ _ _ hr
  rw [wyM_go]
  have h4 : fRw A n rd l.length [] 0 1 = some r := by rw [fRw, fRw, if_pos h2]; exact hr
  have := fRw_some h4 (n - 1)
  rw [show 1 + (n - 1) = n by omega] at this
  exact ⟨s, by rw [this, hs]; rfl⟩
theorem can_pt {t : List Int} {v : Nat} : ∀ (l : List Nat) (b : List Int) (m : Nat), b ≠ [] → frsN b = v → pt (btP t) (lastN b) l v → (∀ x ∈ l, x < t.length ∧ m.testBit x = false) → l.Nodup → can (sn t) t.length true b m l
  | [], b, m, _, hf, hp, _, _ => by
    have : (sn t (lastN b)).testBit (frsN b) = true := by rw [hf]; exact hp
    simp [can, this]
  | x :: l, b, m, hb, hf, hp, hx, hn => by
    obtain ⟨g1, g2⟩ := hx x (by simp)
    have hl : lastN (b ++ [(x : Int)]) = x := by simp [lastN, List.getD_eq_getElem?_getD]
    have h0 : 0 < b.length := List.length_pos_iff.2 hb
    have hf2 : frsN (b ++ [(x : Int)]) = v := by
      rw [← hf]
      simp only [frsN, List.getD_eq_getElem?_getD, List.getElem?_append_left h0]
    refine ⟨g1, ?_, can_pt l (b ++ [(x : Int)]) (m ||| 2 ^ x) (by simp) hf2 (by rw [hl]; exact hp.2) (fun y hy => ?_) (List.nodup_cons.1 hn).2⟩
    · have : (sn t (lastN b)).testBit x = true := hp.1
      simp [fol, g2, this]
    · obtain ⟨k1, k2⟩ := hx y (by simp [hy])
      have : y ≠ x := fun e => (List.nodup_cons.1 hn).1 (e ▸ hy)
      refine ⟨k1, ?_⟩
      rw [Nat.testBit_or, k2, Nat.testBit_two_pow]
      simp; omega
theorem rd_can {t : List Int} {v : Nat} {m : List Nat} (h : Rd (btP t) t.length v m) : can (sn t) t.length true [] 0 (v :: m) := by
  have hn := List.nodup_cons.1 h.nd
  refine ⟨h.lt v (by simp), by simp [fol], can_pt m _ _ (by simp) (v := v) (by simp [frsN]) (by simpa [lastN] using h.p) (fun x hx => ⟨h.lt x (by simp [hx]), ?_⟩) hn.2⟩
  have : x ≠ v := fun e => hn.1 (e ▸ hx)
  rw [Nat.zero_or, Nat.testBit_two_pow]
  simp; omega
theorem wyM_close {A : Nat → Nat} {n : Nat} : ∀ (f : Nat) (b : List Int) (m : Nat) (l : List Int), wyM A n true f b m = some l → (A (lastN l)).testBit (frsN l) = true
  | 0, b, m, l, h => by
    rw [wyM] at h
    split at h
    · cases h
    · rename_i q
      cases h
      cases c : (A (lastN b)).testBit (frsN b)
      · rw [c] at q; exact absurd rfl q
      · rfl
  | f + 1, b, m, l, h => by
    rw [wyM_go] at h
    have key : ∀ k, fRw A n true f b m k = some l → (A (lastN l)).testBit (frsN l) = true := fun k => by
      induction k with
      | zero => intro h; cases h
      | succ k ih =>
        intro h
        rw [fRw] at h
        cases hq : fRw A n true f b m k with
        | some l' => rw [hq] at h; cases h; exact ih hq
        | none =>
          rw [hq] at h
          have h : (if fol A b m k = true then wyM A n true f (b ++ [(k : Int)]) (m ||| 2 ^ k) else none) = some l := h
          split at h
          · exact wyM_close f _ _ l h
          · cases h
    exact key n h
theorem pig : ∀ (n : Nat) (g : Nat → Nat), (∀ k, k < n + 1 → g k < n) → (∀ j k, j < k → k < n + 1 → g j ≠ g k) → False
  | 0, g, h1, _ => by have := h1 0 (by omega); omega
  | n + 1, g, h1, h2 => by
    have e := h1 (n + 1) (by omega)
    refine pig n (fun k => if g k < g (n + 1) then g k else g k - 1) (fun k hk => ?_) (fun j k hj hk => ?_)
    · have := h1 k (by omega)
      have := h2 k (n + 1) (by omega) (by omega)
      show (if g k < g (n + 1) then g k else g k - 1) < n
      split <;> omega
    · have := h2 j k hj (by omega)
      have := h2 k (n + 1) (by omega) (by omega)
      have := h2 j (n + 1) (by omega) (by omega)
      show (if g j < g (n + 1) then g j else g j - 1) ≠ (if g k < g (n + 1) then g k else g k - 1)
      split <;> split <;> omega
theorem inj_all (g : Nat → Nat) (n : Nat) (h1 : ∀ k, k < n → g k < n) (h2 : ∀ j k, j < k → k < n → g j ≠ g k) {b : Nat} (hb : b < n) : ∃ k, k < n ∧ g k = b := by
  apply Classical.byContradiction
  intro hc
  -- the players that are not b, moved together
  let f : Nat → Nat := fun k => if g k < b then g k else g k - 1
  have hf : ∀ k, k < n → f k < n - 1 := fun k hk => by
    have := h1 k hk
    have hne : g k ≠ b := fun e => hc ⟨k, hk, e⟩
    simp only [f]; split <;> omega
  have hfi : ∀ j k, j < k → k < n → f j ≠ f k := fun j k hj hk e => by
    have hj1 : g j ≠ b := fun e => hc ⟨j, by omega, e⟩
    have hk1 : g k ≠ b := fun e => hc ⟨k, hk, e⟩
    have := h2 j k hj hk
    simp only [f] at e
    split at e <;> split at e <;> omega
  exact pig (n - 1) f (fun k hk => hf k (by omega)) (fun j k hj hk => hfi j k hj (by omega))
theorem more_parts {t : List Int} (h : Tn t) (h1 : 1 < mP t) : rowR t t.length true = none := by
  cases hl : rowR t t.length true with
  | none => rfl
  | some l =>
    exfalso
    obtain ⟨m', hr⟩ := wyM_row _ _ _ l (row_nil _ _) hl
    have hlen : l.length = t.length := by have := wyM_len _ _ _ _ hl; simpa using this
    have hcl := wyM_close _ _ _ _ hl
    have n0 := h.s.1
    have all : ∀ b, b < t.length → ∃ k, k < t.length ∧ ofn l k = b := fun b hb => inj_all (ofn l) t.length (fun k hk => by
      obtain ⟨g1, g2, _⟩ := hr.h k (by omega); simp only [ofn]; omega) (fun j k hj hk e => by
      obtain ⟨g1, g2, _⟩ := hr.h k (by omega)
      obtain ⟨g3, g4, _⟩ := hr.h j (by omega)
      simp only [ofn] at e
      exact hr.d j k hj (by omega) (by omega)) hb
    have hw : ∀ j, j + 1 < t.length → bt t (ofn l j) (ofn l (j + 1)) = true := fun j hj => hr.w j (by omega)
    have hend : bt t (ofn l (t.length - 1)) (ofn l 0) = true := by
      have := hcl
      simp only [lastN, frsN, hlen] at this
      exact this
    -- who is left behind the first part
    obtain ⟨b, hb⟩ := ex_bit ((mP_spec h).2.2 1 h1)
    have hclo := rst_clo h 1
    obtain ⟨j, hj, hjb⟩ := all b (rst_in h 1 b hb)
    have up : ∀ d, j + d < t.length → (rst t 1).testBit (ofn l (j + d)) = true := fun d => by
      induction d with
      | zero => intro _; rw [Nat.add_zero, hjb]; exact hb
      | succ d ih => intro hd; exact hclo _ _ (ih (by omega)) (hw (j + d) (by omega))
    have hlast : (rst t 1).testBit (ofn l (t.length - 1)) = true := by
      have := up (t.length - 1 - j) (by omega)
      rwa [show j + (t.length - 1 - j) = t.length - 1 by omega] at this
    have h0 : (rst t 1).testBit (ofn l 0) = true := hclo _ _ hlast hend
    have every : ∀ k, k < t.length → (rst t 1).testBit (ofn l k) = true := fun k => by
      induction k with
      | zero => intro _; exact h0
      | succ k ih => intro hk; exact hclo _ _ (ih (by omega)) (hw k hk)
    obtain ⟨i, hi, hp⟩ := ex_in h (k := 0) ((mP_spec h).2.2 0 (by omega))
    obtain ⟨k, hk, hki⟩ := all i hi
    have := every k hk
    rw [hki] at this
    exact ((rst_bit h 0 i).1 this).2 ((pA_bit _).2 ⟨hi, hp⟩)
end Go.Proofs.Rnk

