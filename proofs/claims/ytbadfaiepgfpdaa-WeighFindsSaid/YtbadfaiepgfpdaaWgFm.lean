/- Layer 1: how many coins a right plan has, and what its results show. -/
import Derived.Test.YtbadfaiepgfpdaaWgV
set_option linter.unusedSimpArgs false
set_option linter.unusedVariables false
set_option linter.unnecessarySimpa false
namespace Go.Proofs.Weg
open Go Go.VM

def par3 (v : Nat) : Nat := if v % 3 = 0 then 0 else 1
def parS : Nat → Nat
  | 0 => 0
  | n + 1 => parS n + par3 (n + 1)
theorem nodup_few : ∀ (N : Nat) (l : List Nat), l.Nodup → (∀ x ∈ l, 1 ≤ x ∧ x ≤ N) → l.length ≤ N ∧ (l.length = N → (l.map par3).sum = parS N)
  | 0, l, _, h => by
    cases l with
    | nil => simp [parS]
    | cons x l => have := h x (by simp); omega
  | N + 1, l, hn, h => by
    by_cases hm : N + 1 ∈ l
    · have hp := List.perm_cons_erase hm
      have hn' : (l.erase (N + 1)).Nodup := hn.erase _
      have ih := nodup_few N (l.erase (N + 1)) hn' (fun x hx => by
        have h1 := h x (List.mem_of_mem_erase hx)
        have : x ≠ N + 1 := fun e => by
          subst e
          exact (List.Nodup.not_mem_erase hn) hx
        omega)
      have hl := hp.length_eq
      have hs := (hp.map par3).sum_nat
      simp only [List.length_cons, List.map_cons, List.sum_cons] at hl hs
      refine ⟨by omega, fun e => ?_⟩
      rw [hs, ih.2 (by omega), parS]; omega
    · have ih := nodup_few N l hn (fun x hx => by
        have h1 := h x hx
        have : x ≠ N + 1 := fun e => hm (e ▸ hx)
        omega)
      exact ⟨by omega, fun e => by omega⟩

def val3 (l : List Int) : Int := l.getD 0 0 + 3 * l.getD 1 0 + 9 * l.getD 2 0
theorem sm_of_val {a b : List Int} {s : Int} (ha : sg a) (hb : sg b) (hl : a.length = b.length) (h3 : a.length ≤ 3) (hs : s = 1 ∨ s = -1) (h : val3 a = s * val3 b) : sm a b s := by
  have a0 := sg_getD ha 0; have a1 := sg_getD ha 1; have a2 := sg_getD ha 2
  have b0 := sg_getD hb 0; have b1 := sg_getD hb 1; have b2 := sg_getD hb 2
  simp only [val3] at h
  have key : a.getD 0 0 = s * b.getD 0 0 ∧ a.getD 1 0 = s * b.getD 1 0 ∧ a.getD 2 0 = s * b.getD 2 0 := by
    rcases hs with rfl | rfl
    · refine ⟨?_, ?_, ?_⟩ <;> omega
    · refine ⟨?_, ?_, ?_⟩ <;> omega
  intro i hi
  have : i = 0 ∨ i = 1 ∨ i = 2 := by omega
  rcases this with rfl | rfl | rfl
  · exact key.1
  · exact key.2.1
  · exact key.2.2

theorem at_get {t : List Row} {i : Nat} (h : i < t.length) : List.getD t i row0 = t[i] := by simp [List.getD_eq_getElem?_getD, List.getElem?_eq_getElem h]
abbrev vls (t : List Row) : List Nat := t.map (fun x => (val3 x.1).natAbs)
theorem val3_bd {l : List Int} (h : sg l) {k : Nat} (hk : l.length = k) (h3 : k ≤ 3) (h1 : 1 ≤ k) : (val3 l).natAbs ≤ (3 ^ k - 1) / 2 := by
  have a0 := sg_getD h 0; have a1 := sg_getD h 1; have a2 := sg_getD h 2
  have z : ∀ i, k ≤ i → l.getD i 0 = 0 := fun i hi => by simp [List.getD_eq_getElem?_getD, List.getElem?_eq_none (show l.length ≤ i by omega)]
  simp only [val3]
  have : k = 1 ∨ k = 2 ∨ k = 3 := by omega
  rcases this with rfl | rfl | rfl
  · have := z 1 (by omega); have := z 2 (by omega); omega
  · have := z 2 (by omega); omega
  · omega
theorem val3_pos {t : List Row} (ht : tb t) (ha : ap t) (h3 : (List.getD t 0 row0).1.length ≤ 3) {i : Nat} (hi : i < t.length) : (val3 (List.getD t i row0).1).natAbs ≠ 0 := by
  intro h
  have hs := ht.2.2.2.2 i hi
  have := (ha i hi).1
  apply this
  exact sm_of_val hs.2 hs.2 rfl (by omega) (.inr rfl) (by omega)
theorem vls_nodup {t : List Row} (ht : tb t) (ha : ap t) (h3 : (List.getD t 0 row0).1.length ≤ 3) : (vls t).Nodup := by
  rw [List.Nodup, List.pairwise_iff_getElem]
  intro i j hi hj hij
  simp only [vls, List.length_map] at hi hj
  simp only [vls, List.getElem_map]
  rw [← at_get hi, ← at_get hj]
  intro h
  have si := ht.2.2.2.2 i hi
  have sj := ht.2.2.2.2 j hj
  have hq := (ha j hj).2 i hij
  rcases Int.natAbs_eq_natAbs_iff.1 h with e | e
  · exact hq.1 (sm_of_val sj.2 si.2 (by omega) (by omega) (.inl rfl) (by omega))
  · exact hq.2 (sm_of_val sj.2 si.2 (by omega) (by omega) (.inr rfl) (by omega))
theorem par_mod (x y z : Int) (h : -1 ≤ x ∧ x ≤ 1) : ((par3 (x + 3 * y + 9 * z).natAbs : Nat) : Int) % 2 = x % 2 := by
  have hx : x = -1 ∨ x = 0 ∨ x = 1 := by omega
  simp only [par3]
  rcases hx with rfl | rfl | rfl
  · rw [if_neg (by omega)]; rfl
  · rw [if_pos (by omega)]; rfl
  · rw [if_neg (by omega)]; rfl
theorem cs_par {t : List Row} (ht : tb t) : ∀ j, j ≤ t.length → cs t 0 j % 2 = ((((vls t).take j).map par3).sum : Nat) % 2
  | 0, _ => by simp [cs]
  | j + 1, hj => by
    have ih := cs_par ht j (by omega)
    have hj' : j < (vls t).length := by simp only [vls, List.length_map]; omega
    rw [List.take_add_one, List.getElem?_eq_getElem hj']
    simp only [Option.toList_some, List.map_append, List.map_cons, List.map_nil, List.sum_append_nat, List.sum_cons, List.sum_nil]
    have e : (vls t)[j] = (val3 (List.getD t j row0).1).natAbs := by
      simp only [vls, List.getElem_map]
      rw [← at_get (show j < t.length by omega)]
    rw [e]
    have hs := ht.2.2.2.2 j (by omega)
    have a0 := sg_getD hs.2 0; have a1 := sg_getD hs.2 1; have a2 := sg_getD hs.2 2
    simp only [cs]
    have : (par3 (val3 (List.getD t j row0).1).natAbs : Int) % 2 = (List.getD t j row0).1.getD 0 i0 % 2 := by
      exact par_mod _ _ _ a0
    omega
/-- what P1.10 says of the number of coins -/
theorem right_few {t : List Row} (ht : tb t) (hl : lv t) (ha : ap t) : 2 * t.length + 3 ≤ 3 ^ (List.getD t 0 row0).1.length := by
  obtain ⟨h1, h2, h3, h4, h5⟩ := id ht
  by_cases hk : (List.getD t 0 row0).1.length = 4
  · rw [hk]; omega
  have h3' : (List.getD t 0 row0).1.length ≤ 3 := by omega
  have hn := vls_nodup ht ha h3'
  have hf := nodup_few ((3 ^ (List.getD t 0 row0).1.length - 1) / 2) (vls t) hn (fun x hx => by
    simp only [vls, List.mem_map] at hx
    obtain ⟨y, hy, rfl⟩ := hx
    obtain ⟨i, hi, rfl⟩ := List.mem_iff_getElem.1 hy
    rw [← at_get hi]
    have := val3_pos ht ha h3' hi
    have := val3_bd (h5 i hi).2 (h5 i hi).1 h3' h3
    omega)
  have hlen : (vls t).length = t.length := by simp [vls]
  rw [hlen] at hf
  have hc := cs_par ht t.length (Nat.le_refl _)
  rw [hl 0 h3, ← hlen, List.take_length] at hc
  have hne : t.length ≠ (3 ^ (List.getD t 0 row0).1.length - 1) / 2 := fun e => by
    have := hf.2 e
    rw [this] at hc
    have : (List.getD t 0 row0).1.length = 1 ∨ (List.getD t 0 row0).1.length = 2 ∨ (List.getD t 0 row0).1.length = 3 := by omega
    rcases this with q | q | q <;> rw [q] at hc <;> revert hc <;> decide
  have : (List.getD t 0 row0).1.length = 1 ∨ (List.getD t 0 row0).1.length = 2 ∨ (List.getD t 0 row0).1.length = 3 := by omega
  rcases this with q | q | q <;> rw [q] at hf hne ⊢ <;> omega
end Go.Proofs.Weg
