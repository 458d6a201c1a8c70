/- Layer 5: the reference's rank is by how much rows raise the rank. -/
import Derived.Test.YtlomlnkafakloaaDoorSwC
import Derived.Test.YtlomlnkafakloaaDoorSwE
set_option linter.unusedSimpArgs false
set_option linter.unusedVariables false
set_option linter.unnecessarySimpa false
set_option maxHeartbeats 4000000
set_option maxRecDepth 100000
namespace Go.Proofs.Sur
open Go Go.VM

theorem at_set {l : List Int} {i k : Nat} (hk : k < l.length) (x : Int) : at_ (l.set i x) k = if i = k then x else at_ l k := by
  by_cases e : i = k
  · subst e; rw [if_pos rfl]; simp [at_, List.getD_eq_getElem?_getD, hk]
  · rw [if_neg e]; simp only [at_]; rw [List.getD_eq_getElem?_getD, List.getElem?_set_ne e, ← List.getD_eq_getElem?_getD]
theorem at_clF {c k : Nat} {w : Int} {R : List Int} (h : rs R) (hw : 0 ≤ w ∧ w < 64) : ∀ j, j ≤ 5 → ∀ i, i < 5 → at_ (clF c k w R j) i = if i < j ∧ i ≠ k ∧ bi (at_ R i) c = true then xr (at_ R i) w else at_ R i
  | 0, _, i, _ => by rw [if_neg (fun q => absurd q.1 (Nat.not_lt_zero i))]; rfl
  | j + 1, hj, i, hi => by
    have ih := at_clF (c := c) (k := k) h hw j (by omega)
    have hl : (clF c k w R j).length = 5 := (clF_rs (c := c) (k := k) h hw j (by omega)).1
    have ej : at_ (clF c k w R j) j = at_ R j := by rw [ih j (by omega), if_neg (fun q => absurd q.1 (Nat.lt_irrefl j))]
    simp only [clF]
    rw [ej]
    by_cases hb : j ≠ k ∧ bi (at_ R j) c = true
    · rw [if_pos hb, at_set (by omega), ih i hi]
      by_cases e : j = i
      · subst e; rw [if_pos rfl, if_pos ⟨by omega, hb.1, hb.2⟩]
      · rw [if_neg e]
        by_cases h2 : i < j ∧ i ≠ k ∧ bi (at_ R i) c = true
        · rw [if_pos h2, if_pos ⟨by omega, h2.2⟩]
        · rw [if_neg h2, if_neg (fun q => h2 ⟨by omega, q.2⟩)]
    · rw [if_neg hb, ih i hi]
      by_cases h2 : i < j ∧ i ≠ k ∧ bi (at_ R i) c = true
      · rw [if_pos h2, if_pos ⟨by omega, h2.2⟩]
      · rw [if_neg h2, if_neg (fun q => h2 ⟨by have : i ≠ j := fun e => hb (e ▸ q.2); omega, q.2⟩)]
abbrev nt (R : List Int) (i : Nat) : Nat := (at_ R i).toNat
structure RI (n : Nat) (R : List Int) (c : Nat) (S : List Int) (k : Nat) : Prop where
  s : rs S
  kc : k ≤ c
  kn : k ≤ n
  same : ∀ T : Nat → Prop, T 0 → (∀ a b, T a → T b → T (a ^^^ b)) → ((∀ i, i < n → T (nt S i)) ↔ ∀ i, i < n → T (nt R i))
  piv : ∃ p : Nat → Nat, (∀ j, j < k → p j < c) ∧ ∀ i j, i < n → j < k → (nt S i).testBit (p j) = decide (i = j)
  low : ∀ i, k ≤ i → i < n → ∀ e, e < c → (nt S i).testBit e = false
theorem rk2_ri {n : Nat} {R : List Int} (h : rs R) (hn : n ≤ 5) : ∀ c, c ≤ n → RI n R c (rk2 n R c).1 (rk2 n R c).2
  | 0, _ => ⟨h, Nat.le_refl _, Nat.zero_le _, fun T _ _ => Iff.rfl, ⟨fun _ => 0, fun j hj => absurd hj (Nat.not_lt_zero j), fun i j _ hj => absurd hj (Nat.not_lt_zero j)⟩, fun i _ _ e he => absurd he (Nat.not_lt_zero e)⟩
  | c + 1, hc => by
    have I := rk2_ri h hn c (by omega)
    have hs : rk2 n R (c + 1) = if fdA (rk2 n R c).1 c n (rk2 n R c).2 = n then rk2 n R c else (clF c (rk2 n R c).2 (at_ (rk2 n R c).1 (fdA (rk2 n R c).1 c n (rk2 n R c).2)) (((rk2 n R c).1.set (fdA (rk2 n R c).1 c n (rk2 n R c).2) (at_ (rk2 n R c).1 (rk2 n R c).2)).set (rk2 n R c).2 (at_ (rk2 n R c).1 (fdA (rk2 n R c).1 c n (rk2 n R c).2))) n, (rk2 n R c).2 + 1) := rfl
    generalize rk2 n R c = Z at hs I
    obtain ⟨S, k⟩ := Z
    simp only at hs I
    obtain ⟨s1, s2, s3, s4, ⟨p, p1, p2⟩, s6⟩ := I
    have hfl := @fdA_lt S c n k
    have hfn : fdA S c n k = n → ∀ i, k ≤ i → i < n → bi (at_ S i) c = false := fun e i hki hin => by
      rw [fdA] at e
      cases hf : (List.range n).find? (fun a => decide (k ≤ a) && bi (at_ S a) c) with
      | none =>
        rw [List.find?_eq_none] at hf
        have := hf i (List.mem_range.2 hin)
        simpa [hki] using this
      | some a =>
        rw [hf] at e
        have := List.mem_range.1 (List.mem_of_find?_eq_some hf)
        simp only [Option.getD_some] at e; omega
    generalize fdA S c n k = a at hs hfl hfn
    by_cases ha : a = n
    · rw [if_pos ha] at hs
      rw [hs]
      refine ⟨s1, by simp only; omega, s3, s4, ⟨p, fun j hj => by have := p1 j hj; omega, p2⟩, fun i hki hin e he => ?_⟩
      rcases Nat.lt_or_ge e c with h1 | h1
      · exact s6 i hki hin e h1
      · have : e = c := by omega
        subst this; exact hfn ha i hki hin
    · rw [if_neg ha] at hs
      rw [hs]
      obtain ⟨f1, f2, f3⟩ := hfl ha
      have b1 := s1.2 a (by omega)
      have b2 := s1.2 k (by omega)
      have hrs := rs_set (i := k) (rs_set (i := a) s1 b2) b1
      have hl1 : (S.set a (at_ S k)).length = 5 := by rw [List.length_set]; exact s1.1
      -- the rows, two of them exchanged
      have q1 : ∀ i, i < 5 → at_ ((S.set a (at_ S k)).set k (at_ S a)) i = if k = i then at_ S a else if a = i then at_ S k else at_ S i := fun i hi => by
        rw [at_set (by omega), at_set (by rw [s1.1]; exact hi)]
      have q2 := fun i (hi : i < 5) => at_clF (c := c) (k := k) hrs b1 n hn i hi
      have hrs3 := clF_rs (c := c) (k := k) hrs b1 n hn
      generalize hU : (S.set a (at_ S k)).set k (at_ S a) = U at q1 q2 hrs hrs3
      generalize hV : clF c k (at_ S a) U n = V at q2 hrs3
      have uk : nt U k = nt S a := by show (at_ U k).toNat = _; rw [q1 k (by omega), if_pos rfl]
      have vk : nt V k = nt S a := by show (at_ V k).toNat = _; rw [q2 k (by omega), if_neg (fun q => q.2.1 rfl)]; exact uk
      have vi : ∀ i, i < n → i ≠ k → nt V i = if (nt U i).testBit c then nt U i ^^^ nt S a else nt U i := fun i hi hne => by
        show (at_ V i).toNat = _
        rw [q2 i (by omega)]
        by_cases hb : bi (at_ U i) c = true
        · rw [if_pos ⟨hi, hne, hb⟩, if_pos hb]; rfl
        · rw [if_neg (fun q => hb q.2.2), if_neg hb]
      have vbit : ∀ i, i < n → ∀ e, (nt S a).testBit e = false → (nt V i).testBit e = (nt U i).testBit e := fun i hi e he => by
        by_cases hne : i = k
        · subst hne; rw [vk, uk]
        · rw [vi i hi hne]
          split
          · rw [Nat.testBit_xor, he, Bool.xor_false]
          · rfl
      refine ⟨hrs3, by simp only; omega, by simp only; omega, fun T hT0 hT => ?_, ⟨fun j => if j = k then c else p j, fun j hj => ?_, fun i j hi hj => ?_⟩, fun i hki hin e he => ?_⟩
      · rw [← s4 T hT0 hT]
        have hUS : (∀ i, i < n → T (nt U i)) ↔ ∀ i, i < n → T (nt S i) := by
          have e1 : ∀ i, i < 5 → nt U i = if k = i then nt S a else if a = i then nt S k else nt S i := fun i hi => by
            show (at_ U i).toNat = _
            rw [q1 i hi]; split
            · rfl
            · split <;> rfl
          constructor
          · intro hh i hi
            by_cases h1 : i = k
            · have := hh a f2
              rw [e1 a (by omega)] at this
              by_cases h2 : k = a
              · rw [if_pos h2, ← h2, ← h1] at this; exact this
              · rw [if_neg h2, if_pos rfl, ← h1] at this; exact this
            · by_cases h2 : i = a
              · have := hh k (by omega)
                rw [e1 k (by omega), if_pos rfl, ← h2] at this; exact this
              · have := hh i hi
                rw [e1 i (by omega), if_neg (fun q => h1 q.symm), if_neg (fun q => h2 q.symm)] at this; exact this
          · intro hh i hi
            rw [e1 i (by omega)]
            split
            · exact hh a f2
            · split
              · exact hh k (by omega)
              · exact hh i hi
        rw [← hUS]
        constructor
        · intro hh i hi
          by_cases hne : i = k
          · have := hh k (by omega); rw [vk] at this; rw [hne, uk]; exact this
          · have h1 := hh i hi
            rw [vi i hi hne] at h1
            split at h1
            · have h2 := hh k (by omega)
              rw [vk] at h2
              have := hT _ _ h1 h2
              rwa [xc] at this
            · exact h1
        · intro hh i hi
          by_cases hne : i = k
          · have := hh k (by omega); rw [uk] at this; rw [hne, vk]; exact this
          · rw [vi i hi hne]
            have h1 := hh i hi
            split
            · have h2 := hh k (by omega)
              rw [uk] at h2
              exact hT _ _ h1 h2
            · exact h1
      · simp only
        split
        · omega
        · have := p1 j (by simp only at hj; omega); omega
      · have hkk : k < 5 := by omega
        simp only at hj ⊢
        by_cases e : j = k
        · rw [if_pos e]
          by_cases hne : i = k
          · subst hne; rw [vk, e]; simp; exact f3
          · have : (nt V i).testBit c = false := by
              rw [vi i hi hne]
              split
              · rename_i hb
                have f3' : (nt S a).testBit c = true := f3
                rw [Nat.testBit_xor, hb, f3']; rfl
              · rename_i hb; simpa using hb
            rw [this]; simp; omega
        · rw [if_neg e]
          have hjk : j < k := by omega
          have ha0 : (nt S a).testBit (p j) = false := by rw [p2 a j f2 hjk]; simp; omega
          have hk0 : (nt S k).testBit (p j) = false := by rw [p2 k j (by omega) hjk]; simp; omega
          rw [vbit i hi _ ha0]
          show ((at_ U i).toNat).testBit (p j) = _
          rw [q1 i (by omega)]
          by_cases h1 : k = i
          · rw [if_pos h1]
            have : (nt S a).testBit (p j) = decide (i = j) := by rw [ha0]; simp; omega
            exact this
          · rw [if_neg h1]
            by_cases h2 : a = i
            · rw [if_pos h2]
              have : (nt S k).testBit (p j) = decide (i = j) := by rw [hk0]; simp; omega
              exact this
            · rw [if_neg h2]; exact p2 i j hi hjk
      · simp only at hki
        rcases Nat.lt_or_ge e c with h1 | h1
        · have ha0 : (nt S a).testBit e = false := s6 a f1 f2 e h1
          rw [vbit i hin _ ha0]
          show ((at_ U i).toNat).testBit e = false
          rw [q1 i (by omega), if_neg (by omega)]
          split
          · exact s6 k (Nat.le_refl k) (by omega) e h1
          · exact s6 i (by omega) hin e h1
        · have : e = c := by omega
          subst this
          rw [vi i hin (by omega)]
          split
          · rename_i hb
            have f3' : (nt S a).testBit e = true := f3
            rw [Nat.testBit_xor, hb, f3']; rfl
          · rename_i hb; simpa using hb
/-- the reference's rank -/
theorem rk2_ok {n : Nat} {R : List Int} (h : rs R) (hn : n ≤ 5) (hb : ∀ i, i < n → nt R i < 2 ^ n) : (rk2 n R n).2 = rc [0] ((List.range n).map (nt R)) := by
  obtain ⟨s1, s2, s3, s4, ⟨p, p1, p2⟩, s6⟩ := rk2_ri h hn n (Nat.le_refl n)
  generalize (rk2 n R n).1 = S at *
  generalize (rk2 n R n).2 = k at *
  have h32 : 2 ^ n ≤ 2 ^ 5 := Nat.pow_le_pow_right (by decide) hn
  have h32 : 2 ^ n ≤ 32 := h32
  -- the rows that are left are small, too
  have hS : ∀ i, i < n → nt S i < 2 ^ n := by
    refine (s4 (fun v => v < 2 ^ n) (Nat.pow_pos (by decide)) (fun a b ha hb => Nat.xor_lt_two_pow ha hb)).2 hb
  have h0 : ∀ i, k ≤ i → i < n → nt S i = 0 := fun i hk hi => by
    apply Nat.eq_of_testBit_eq; intro e
    rw [Nat.zero_testBit]
    rcases Nat.lt_or_ge e n with h1 | h1
    · exact s6 i hk hi e h1
    · exact Nat.testBit_lt_two_pow (Nat.lt_of_lt_of_le (hS i hi) (Nat.pow_le_pow_right (by decide) h1))
  have hr := rc_piv (f := nt S) (p := p) s3 (fun i j hi hj => p2 i j hi hj) h0 n 0 [0] (by omega) cl0 (fun v hv i _ _ => by simp at hv; subst hv; exact Nat.zero_testBit _)
  rw [← List.range_eq_range'] at hr
  have hsame := rc_same (l := (List.range n).map (nt S)) (m := (List.range n).map (nt R)) (fun v hv => by
    obtain ⟨i, hi, rfl⟩ := List.mem_map.1 hv
    have := hS i (List.mem_range.1 hi); omega) (fun v hv => by
    obtain ⟨i, hi, rfl⟩ := List.mem_map.1 hv
    have := hb i (List.mem_range.1 hi); omega) (ext_same fun T h0 hT => by
    have := s4 T h0 hT
    simpa using this)
  rw [← hsame, hr]; omega
end Go.Proofs.Sur
