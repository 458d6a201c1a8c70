/- Layer 7: the pairs of an order, and what they make. -/
import Derived.Test.YtmgbglnljnlapaaOrT
set_option linter.unusedSimpArgs false
set_option linter.unusedVariables false
set_option linter.unnecessarySimpa false
namespace Go.Proofs.Ord
open Go Go.VM
/-- the pairs of one element, those of the first elements -/
def rowP (R : Rel) (x : Nat) : Nat → List Pr
  | 0 => []
  | k + 1 => if (R x).testBit k = true then rowP R x k ++ [((x : Int), (k : Int))] else rowP R x k
def allP (R : Rel) (n : Nat) : Nat → List Pr
  | 0 => []
  | m + 1 => allP R n m ++ rowP R m n
theorem rowP_mem {R : Rel} {x : Nat} {p : Pr} : ∀ {k : Nat}, p ∈ rowP R x k ↔ ∃ y, y < k ∧ ab R x y ∧ p = ((x : Int), (y : Int))
  | 0 => by simp [rowP]
  | k + 1 => by
    rw [rowP]
    split <;> rename_i h
    · rw [List.mem_append, rowP_mem, List.mem_singleton]
      constructor
      · rintro (⟨y, h1, h2⟩ | h1)
        · exact ⟨y, by omega, h2⟩
        · exact ⟨k, by omega, h, h1⟩
      · rintro ⟨y, h1, h2, h3⟩
        rcases Nat.lt_or_ge y k with q | q
        · exact .inl ⟨y, q, h2, h3⟩
        · have : y = k := by omega
          subst this; exact .inr h3
    · rw [rowP_mem]
      constructor
      · rintro ⟨y, h1, h2⟩; exact ⟨y, by omega, h2⟩
      · rintro ⟨y, h1, h2, h3⟩
        rcases Nat.lt_or_ge y k with q | q
        · exact ⟨y, q, h2, h3⟩
        · have : y = k := by omega
          subst this; exact absurd h2 h
theorem allP_mem {R : Rel} {n : Nat} {p : Pr} : ∀ {m : Nat}, p ∈ allP R n m ↔ ∃ x, x < m ∧ ∃ y, y < n ∧ ab R x y ∧ p = ((x : Int), (y : Int))
  | 0 => by simp [allP]
  | m + 1 => by
    rw [allP, List.mem_append, allP_mem, rowP_mem]
    constructor
    · rintro (⟨x, h1, h2⟩ | h)
      · exact ⟨x, by omega, h2⟩
      · exact ⟨m, by omega, h⟩
    · rintro ⟨x, h1, h2⟩
      rcases Nat.lt_or_ge x m with q | q
      · exact .inl ⟨x, q, h2⟩
      · have : x = m := by omega
        subst this; exact .inr h2
theorem rowP_len {R : Rel} {x : Nat} : ∀ k, (rowP R x k).length = sumN (fun y => if (R x).testBit y = true then 1 else 0) k
  | 0 => rfl
  | k + 1 => by
    rw [rowP, sumN]
    split
    · rw [List.length_append, rowP_len k]; rfl
    · rw [rowP_len k]; rfl
theorem allP_len {R : Rel} {n : Nat} : ∀ m, (allP R n m).length = sumN (fun x => sumN (fun y => if (R x).testBit y = true then 1 else 0) n) m
  | 0 => rfl
  | m + 1 => by rw [allP, sumN, List.length_append, allP_len m, rowP_len n]
theorem allP_le {R : Rel} {n : Nat} (h : Od n R) (h6 : n ≤ 6) : (allP R n n).length ≤ 18 := by
  rw [allP_len]
  have h1 : sumN (fun x => sumN (fun y => if (R x).testBit y = true then 1 else 0) n) n = sumN (fun x => sumN (fun y => if (R y).testBit x = true then 1 else 0) n) n := sumN_swap _ n n
  have h2 : sumN (fun x => sumN (fun y => if (R x).testBit y = true then 1 else 0) n) n + sumN (fun x => sumN (fun y => if (R y).testBit x = true then 1 else 0) n) n ≤ n * n := by
    rw [← sumN_add]
    have : sumN (fun x => sumN (fun y => if (R x).testBit y = true then 1 else 0) n + sumN (fun y => if (R y).testBit x = true then 1 else 0) n) n ≤ sumN (fun _ => n) n := by
      refine sumN_le fun x _ => ?_
      rw [← sumN_add]
      have h3 : sumN (fun y => (if (R x).testBit y = true then 1 else 0) + (if (R y).testBit x = true then 1 else 0)) n ≤ sumN (fun _ => 1) n := by
        refine sumN_le fun y _ => ?_
        by_cases p : (R x).testBit y = true
        · have q : ¬ (R y).testBit x = true := fun q => h.irr x (h.tr _ _ _ p q)
          rw [if_pos p, if_neg q]; exact Nat.le_refl _
        · rw [if_neg p]; split <;> omega
      rw [sumN_const, Nat.mul_one] at h3
      exact h3
    rw [sumN_const] at this
    exact this
  have h4 : n * n ≤ 6 * 6 := Nat.mul_le_mul h6 h6
  omega
theorem getD_mem {l : List Pr} {k : Nat} (h : k < l.length) : l.getD k pair0 ∈ l := by
  rw [List.getD_eq_getElem?_getD, List.getElem?_eq_getElem h]
  exact List.getElem_mem h
theorem allP_ok {R : Rel} {n : Nat} : prA n (allP R n n) := fun k hk => by
  obtain ⟨x, hx, y, hy, _, e⟩ := allP_mem.1 (getD_mem hk)
  rw [prK, e]; simp only; omega
theorem Pn_mem {l : List Pr} {e t : Nat} : ab (Pn l l.length) e t ↔ ∃ p, p ∈ l ∧ e = p.1.toNat ∧ t = p.2.toNat := by
  rw [Pn_ab]
  constructor
  · rintro ⟨m, h1, h2⟩; exact ⟨_, getD_mem h1, h2⟩
  · rintro ⟨p, hp, h2⟩
    obtain ⟨m, hm, rfl⟩ := List.getElem_of_mem hp
    refine ⟨m, hm, ?_⟩
    rw [List.getD_eq_getElem?_getD, List.getElem?_eq_getElem hm]
    exact h2
theorem Pn_all {R : Rel} {n : Nat} (h : Rg n R) : Pn (allP R n n) (allP R n n).length = R :=
  rel_ext fun e t => by
    rw [Pn_mem]
    constructor
    · rintro ⟨p, hp, rfl, rfl⟩
      obtain ⟨x, _, y, _, hb, rfl⟩ := allP_mem.1 hp
      exact hb
    · intro hb
      have := h.bit hb
      exact ⟨((e : Int), (t : Int)), allP_mem.2 ⟨e, this.1, t, this.2, hb, rfl⟩, rfl, rfl⟩
theorem clR_all {R : Rel} {n : Nat} (h : Od n R) : clR n (allP R n n) = R := by
  rw [clR, Pn_all h.rg]; exact Wn_tr_eq h.tr n
theorem Pn_app {l m : List Pr} : ∀ {k : Nat}, k ≤ l.length → Pn (l ++ m) k = Pn l k
  | 0, _ => rfl
  | k + 1, h => by
    have e : (l ++ m).getD k (0, 0) = l.getD k (0, 0) := by
      rw [List.getD_eq_getElem?_getD, List.getD_eq_getElem?_getD, List.getElem?_append_left (by omega)]
    rw [Pn, Pn, Pn_app (by omega), e]
theorem Pn_one {l : List Pr} {i j : Nat} : Pn (l ++ [((i : Int), (j : Int))]) (l ++ [((i : Int), (j : Int))]).length = P1 (Pn l l.length) i j := by
  rw [List.length_append]
  show Pn _ (l.length + 1) = _
  have e : (l ++ [((i : Int), (j : Int))]).getD l.length (0, 0) = ((i : Int), (j : Int)) := by
    rw [List.getD_eq_getElem?_getD, List.getElem?_append_right (Nat.le_refl _), Nat.sub_self]; rfl
  rw [Pn, Pn_app (Nat.le_refl _), e]; rfl
theorem clR_one {R : Rel} {n : Nat} (h : Od n R) {i j : Nat} (hi : i < n) (hj : j < n) (hf : Fr R i j) : clR n (allP R n n ++ [((i : Int), (j : Int))]) = adR R i j := by
  have ho := ad_or h hi hj hf
  rw [clR, Pn_one, Pn_all h.rg]
  have hg := P1_rg h.rg hi hj
  have ht := Wn_tr hg
  refine rel_ext fun e t => ⟨Wn_least ho.tr (fun a b p => ?_) n e t, fun p => ?_⟩
  · rcases P1_ab.1 p with p | ⟨rfl, rfl⟩
    · exact ad_ab.2 (.inl p)
    · exact ad_ab.2 (.inr ⟨.inl rfl, .inl rfl⟩)
  · have hR : ∀ a b, ab R a b → ab (Wn (P1 R i j) n) a b := fun a b q => Wn_mono (P1_ab.2 (.inl q))
    have h0 : ab (Wn (P1 R i j) n) i j := Wn_mono (P1_ab.2 (.inr ⟨rfl, rfl⟩))
    rcases ad_ab.1 p with p | ⟨p1, p2⟩
    · exact hR _ _ p
    · have h1 : ab (Wn (P1 R i j) n) e j := by
        rcases p1 with rfl | p1
        · exact h0
        · exact ht _ _ _ (hR _ _ p1) h0
      rcases p2 with rfl | p2
      · exact h1
      · exact ht _ _ _ h1 (hR _ _ p2)
theorem one_ok {R : Rel} {n : Nat} {i j : Nat} (hi : i < n) (hj : j < n) : prA n (allP R n n ++ [((i : Int), (j : Int))]) := fun k hk => by
  have := getD_mem hk
  rw [List.mem_append, List.mem_singleton] at this
  rcases this with h | h
  · obtain ⟨x, hx, y, hy, _, e⟩ := allP_mem.1 h
    rw [prK, e]; simp only; omega
  · rw [prK, h]; simp only; omega
end Go.Proofs.Ord

