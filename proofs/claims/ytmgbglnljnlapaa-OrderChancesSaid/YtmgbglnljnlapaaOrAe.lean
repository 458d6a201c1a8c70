/- Layer 7: the lines one after another, and the places of an element in them. -/
import Derived.Test.YtmgbglnljnlapaaOrAd
set_option linter.unusedSimpArgs false
set_option linter.unusedVariables false
set_option linter.unnecessarySimpa false
namespace Go.Proofs.Ord
open Go Go.VM
open Go.Proofs.Sur (andn andn_bit andn_le)

/-- all lists that go on with what is not there -/
def lns (A : Rel) (n : Nat) : Nat → Nat → List Nat → List (List Nat)
  | 0, _, b => [b]
  | m + 1, t, b => (List.range n).flatMap fun i => if okB A t i n = true then lns A n m (t ||| 2 ^ i) (b ++ [i]) else []
/-- the places of i in a list, together -/
def idx (i : Nat) : Nat → List Nat → Nat
  | _, [] => 0
  | k, e :: l => (if e = i then k else 0) + idx i (k + 1) l
theorem idx_app {i : Nat} : ∀ (l : List Nat) (k e : Nat), idx i k (l ++ [e]) = idx i k l + (if e = i then k + l.length else 0)
  | [], k, e => by simp [idx]
  | x :: l, k, e => by
    rw [List.cons_append, idx, idx, idx_app l (k + 1) e, List.length_cons]
    split <;> split <;> omega
def tot (i : Nat) (L : List (List Nat)) : Nat := (L.map (idx i 0)).sum
theorem tot_app {i : Nat} {L M : List (List Nat)} : tot i (L ++ M) = tot i L + tot i M := by simp [tot]
theorem sum_flat {f : Nat → List (List Nat)} (g : List (List Nat) → Nat) (h0 : g [] = 0) (ha : ∀ L M, g (L ++ M) = g L + g M) : ∀ n, g ((List.range n).flatMap f) = sumN (fun i => g (f i)) n
  | 0 => h0
  | n + 1 => by rw [List.range_succ, List.flatMap_append, ha, sum_flat g h0 ha n, sumN]; simp
theorem lns_len {A : Rel} (hi : Irr A) {n : Nat} (h6 : n ≤ 6) : ∀ (m t : Nat) (b : List Nat), t < 2 ^ n → pc (cm n t) = m → (lns A n m t b).length = ct A n (cm n t)
  | 0, t, b, ht, hp => by
    have h0 : cm n t = 0 := by
      refine Classical.byContradiction fun hne => ?_
      obtain ⟨e, he⟩ := Nat.exists_testBit_of_ne_zero hne
      have := bit_lt (cm_lt h6) he
      have := pc_clr (cm_big h6) (show e < 6 by omega) he
      omega
    rw [h0]; rfl
  | m + 1, t, b, ht, hp => by
    have h0 : cm n t ≠ 0 := by
      intro e
      rw [e] at hp
      have : pc 0 = 0 := by decide
      omega
    rw [lns, sum_flat List.length rfl (fun _ _ => List.length_append), ct_min hi _ _ (Nat.le_refl _) (cm_big h6) (cm_lt h6) h0]
    refine sumN_ext fun i hin => ?_
    rw [ok_mn h6 hin]
    split <;> rename_i hk
    · have hc : (cm n t).testBit i = true := by
        rw [cm_bit h6, (okB_iff.1 hk).1]; simp [hin]
      have hpc := pc_clr (cm_big (t := t) h6) (show i < 6 by omega) hc
      rw [lns_len hi h6 m _ _ (Nat.or_lt_two_pow ht (Nat.pow_lt_pow_right (by decide) hin)) (by rw [cm_or h6]; omega), cm_or h6]
    · rfl
theorem sumN_mul (c : Nat) (f : Nat → Nat) : ∀ n, c * sumN f n = sumN (fun x => c * f x) n
  | 0 => rfl
  | n + 1 => by rw [sumN, sumN, Nat.mul_add, sumN_mul c f n]
theorem pc_pos {n t : Nat} (h6 : n ≤ 6) {m : Nat} (hp : pc (cm n t) = m + 1) : cm n t ≠ 0 := fun e => by
  rw [e] at hp
  have : pc 0 = 0 := by decide
  omega
theorem ok_step {A : Rel} {n t i m : Nat} (h6 : n ≤ 6) (hin : i < n) (ht : t < 2 ^ n) (hp : pc (cm n t) = m + 1) (hk : okB A t i n = true) :
    t.testBit i = false ∧ (cm n t).testBit i = true ∧ t ||| 2 ^ i < 2 ^ n ∧ pc (cm n (t ||| 2 ^ i)) = m := by
  have h1 := (okB_iff.1 hk).1
  have hc : (cm n t).testBit i = true := by rw [cm_bit h6, h1]; simp [hin]
  have hpc := pc_clr (cm_big (t := t) h6) (show i < 6 by omega) hc
  exact ⟨h1, hc, Nat.or_lt_two_pow ht (Nat.pow_lt_pow_right (by decide) hin), by rw [cm_or h6]; omega⟩
/-- an element that is there has its places from before -/
theorem tot_out {A : Rel} (hi : Irr A) {n : Nat} (h6 : n ≤ 6) {i : Nat} : ∀ (m t : Nat) (b : List Nat), t < 2 ^ n → pc (cm n t) = m → t.testBit i = true → tot i (lns A n m t b) = idx i 0 b * ct A n (cm n t)
  | 0, t, b, ht, hp, hb => by
    have h0 : ct A n (cm n t) = 1 := by rw [← lns_len hi h6 0 t b ht hp]; rfl
    rw [h0]; simp [lns, tot]
  | m + 1, t, b, ht, hp, hb => by
    rw [lns, sum_flat (tot i) rfl (fun _ _ => tot_app), ct_min hi _ _ (Nat.le_refl _) (cm_big h6) (cm_lt h6) (pc_pos h6 hp), sumN_mul]
    refine sumN_ext fun x hx => ?_
    rw [ok_mn h6 hx]
    split <;> rename_i hk
    · obtain ⟨k1, k2, k3, k4⟩ := ok_step h6 hx ht hp hk
      have hxi : x ≠ i := by rintro rfl; rw [hb] at k1; cases k1
      rw [tot_out hi h6 m _ _ k3 k4 (by rw [Nat.testBit_or, hb]; rfl), idx_app, if_neg hxi, cm_or h6]
      rfl
    · simp [tot]
/-- the lines of a set in which j stands before i -/
def nb (A : Rel) (n S j i : Nat) : Nat := if (A i).testBit j = true then 0 else ct (adR A j i) n S
theorem ad_same {n : Nat} {A : Rel} (h : Od n A) {i j : Nat} (hij : ab A i j) : adR A i j = A := by
  refine rel_ext fun e t => ?_
  rw [ad_ab]
  constructor
  · rintro (p | ⟨p, q⟩)
    · exact p
    · have h1 : ab A e j := by
        rcases p with rfl | p
        · exact hij
        · exact h.tr _ _ _ p hij
      rcases q with rfl | q
      · exact h1
      · exact h.tr _ _ _ h1 q
  · exact .inl
theorem nb_rec {n : Nat} {A : Rel} (h : Od n A) (h6 : n ≤ 6) {S i j : Nat} (hS : S < 2 ^ n) (hi : S.testBit i = true) (hj : S.testBit j = true) (hne : i ≠ j) :
    nb A n S j i = sumN (fun x => if mn A n S x = true then (if x = j then ct A n (clr S j) else if x = i then 0 else nb A n (clr S x) j i) else 0) n := by
  have hn1 : i < n := bit_lt hS hi
  have hn2 : j < n := bit_lt hS hj
  have p6 : 2 ^ n ≤ 2 ^ 6 := Nat.pow_le_pow_right (by decide) h6
  have hb : S < big := by simp only [big]; omega
  have h0 : S ≠ 0 := by rintro rfl; simp at hi
  by_cases c1 : (A i).testBit j = true
  · rw [nb, if_pos c1]
    refine (sumN_zero fun x hx => ?_).symm
    split <;> rename_i hm
    · have hxj : x ≠ j := by rintro rfl; exact ((mn_iff hS).1 hm).2 i hi c1
      rw [if_neg hxj]
      split
      · rfl
      · rw [nb, if_pos c1]
    · rfl
  · by_cases c2 : ab A j i
    · rw [nb, if_neg c1, ad_same h c2, ct_min h.irr _ _ (Nat.le_refl _) hb hS h0]
      refine sumN_ext fun x hx => ?_
      split <;> rename_i hm
      · have hxi : x ≠ i := by rintro rfl; exact ((mn_iff hS).1 hm).2 j hj c2
        split <;> rename_i hxj
        · rw [hxj]
        · first | rw [nb, if_neg c1, ad_same h c2] | rw [if_neg hxi, nb, if_neg c1, ad_same h c2]
      · rfl
    · have hf : Fr A j i := ⟨hne.symm, c2, c1⟩
      have ho := ad_or h hn2 hn1 hf
      rw [nb, if_neg c1, ct_min ho.irr _ _ (Nat.le_refl _) hb hS h0]
      refine sumN_ext fun x hx => ?_
      have hiff : mn (adR A j i) n S x = true ↔ mn A n S x = true ∧ x ≠ i := by
        rw [mn_iff hS, mn_iff hS]
        constructor
        · rintro ⟨a, b⟩
          refine ⟨⟨a, fun y p q => b y p (ad_ab.2 (.inl q))⟩, fun e => ?_⟩
          exact b j hj (ad_ab.2 (.inr ⟨.inl rfl, .inl e⟩))
        · rintro ⟨⟨a, b⟩, e⟩
          refine ⟨a, fun y p q => ?_⟩
          rcases ad_ab.1 q with q | ⟨_, q | q⟩
          · exact b y p q
          · exact e q
          · exact b i hi q
      by_cases hm : mn A n S x = true
      · rw [if_pos hm]
        by_cases hxi : x = i
        · subst hxi
          rw [if_neg (fun k => (hiff.1 k).2 rfl), if_neg hne, if_pos rfl]
        · rw [if_pos (hiff.2 ⟨hm, hxi⟩)]
          by_cases hxj : x = j
          · subst hxj
            rw [if_pos rfl]
            refine ct_same _ _ (Nat.le_refl _) (clr_big hb) fun e y p q => ?_
            rw [clr_bit hb, Bool.and_eq_true] at p q
            rw [ad_ab]
            constructor
            · rintro (u | ⟨u | u, _⟩)
              · exact u
              · subst u; simp at p
              · exact (((mn_iff hS).1 hm).2 e p.1 u).elim
            · exact .inl
          · rw [if_neg hxj, if_neg hxi, nb, if_neg c1]
      · rw [if_neg hm, if_neg fun k => hm (hiff.1 k).1]
/-- the places of an element that is not there yet -/
theorem tot_in {A : Rel} {n : Nat} (h : Od n A) (h6 : n ≤ 6) {i : Nat} (hin : i < n) : ∀ (m t : Nat) (b : List Nat), t < 2 ^ n → pc (cm n t) = m → t.testBit i = false → idx i 0 b = 0 →
    tot i (lns A n m t b) = b.length * ct A n (cm n t) + sumN (fun j => if (cm n t).testBit j = true ∧ j ≠ i then nb A n (cm n t) j i else 0) n
  | 0, t, b, ht, hp, hb, _ => by
    have hc : (cm n t).testBit i = true := by rw [cm_bit h6, hb]; simp [hin]
    have := pc_clr (cm_big (t := t) h6) (show i < 6 by omega) hc
    omega
  | m + 1, t, b, ht, hp, hb, hx0 => by
    have hc : (cm n t).testBit i = true := by rw [cm_bit h6, hb]; simp [hin]
    have hr : sumN (fun j => if (cm n t).testBit j = true ∧ j ≠ i then nb A n (cm n t) j i else 0) n = sumN (fun x => sumN (fun j => if (cm n t).testBit j = true ∧ j ≠ i then (if mn A n (cm n t) x = true then (if x = j then ct A n (clr (cm n t) j) else if x = i then 0 else nb A n (clr (cm n t) x) j i) else 0) else 0) n) n := by
      rw [sumN_swap]
      refine sumN_ext fun j _ => ?_
      split <;> rename_i hj
      · exact nb_rec h h6 (cm_lt h6) hc hj.1 (fun e => hj.2 e.symm)
      · exact (sumN_zero fun _ _ => rfl).symm
    rw [lns, sum_flat (tot i) rfl (fun _ _ => tot_app), ct_min h.irr _ _ (Nat.le_refl _) (cm_big h6) (cm_lt h6) (pc_pos h6 hp), sumN_mul, hr, ← sumN_add]
    refine sumN_ext fun x hx => ?_
    rw [ok_mn h6 hx]
    by_cases hk : okB A t x n = true
    · rw [if_pos hk, if_pos hk]
      obtain ⟨k1, k2, k3, k4⟩ := ok_step h6 hx ht hp hk
      simp only [hk, if_true]
      by_cases hxi : x = i
      · subst hxi
        rw [tot_out h.irr h6 m _ _ k3 k4 (by rw [Nat.testBit_or, Nat.testBit_two_pow]; simp), idx_app, hx0, cm_or h6]
        rw [sumN_zero]
        · simp
        · intro j _
          split <;> rename_i hj
          · rw [if_neg (fun e => hj.2 e.symm), if_pos rfl]
          · rfl
      · rw [tot_in h h6 hin m _ _ k3 k4 (by rw [Nat.testBit_or, Nat.testBit_two_pow, hb]; simp; exact hxi) (by rw [idx_app, hx0, if_neg hxi]), cm_or h6]
        have h2 : sumN (fun j => if (cm n t).testBit j = true ∧ j ≠ i then (if x = j then ct A n (clr (cm n t) j) else if x = i then 0 else nb A n (clr (cm n t) x) j i) else 0) n = sumN (fun j => if j = x then ct A n (clr (cm n t) x) else 0) n + sumN (fun j => if (clr (cm n t) x).testBit j = true ∧ j ≠ i then nb A n (clr (cm n t) x) j i else 0) n := by
          rw [← sumN_add]
          refine sumN_ext fun j _ => ?_
          have hcb := clr_bit (cm_big (t := t) h6) x j
          by_cases hjx : j = x
          · subst hjx
            rw [if_pos ⟨k2, hxi⟩, if_pos rfl, if_pos rfl, if_neg]
            · rfl
            · rintro ⟨q, _⟩; rw [hcb] at q; simp at q
          · have hxj : x ≠ j := fun e => hjx e.symm
            have e1 : (clr (cm n t) x).testBit j = (cm n t).testBit j := by rw [hcb]; simp [hxj]
            rw [e1, if_neg hxj, if_neg hxi, if_neg hjx, Nat.zero_add]
        rw [h2, sumN_one hx (fun j _ hj => if_neg hj), if_pos rfl, List.length_append, List.length_singleton, Nat.add_mul, Nat.one_mul, Nat.add_assoc]
    · rw [if_neg hk, if_neg hk, sumN_zero]
      · rfl
      · intro j _; split <;> simp [hk]
theorem tot_all {A : Rel} {n : Nat} (h : Od n A) (h6 : n ≤ 6) {i : Nat} (hin : i < n) : tot i (lns A n n 0 []) = sumN (fun j => if j ≠ i then nb A n (alls n) j i else 0) n := by
  have hp : pc (cm n 0) = n := by
    rw [cm_z h6]
    have : ∀ n, n ≤ 6 → pc (alls n) = n := by decide
    exact this n h6
  have := tot_in h h6 hin n 0 [] (Nat.two_pow_pos _) hp (by simp) rfl
  rw [cm_z h6] at this
  rw [this, List.length_nil, Nat.zero_mul, Nat.zero_add]
  refine sumN_ext fun j hj => ?_
  rw [alls_bit]; simp [hj]
theorem lns_all {A : Rel} {n : Nat} (h : Od n A) (h6 : n ≤ 6) : (lns A n n 0 []).length = ct A n (alls n) := by
  have hp : pc (cm n 0) = n := by
    rw [cm_z h6]
    have : ∀ n, n ≤ 6 → pc (alls n) = n := by decide
    exact this n h6
  rw [lns_len h.irr h6 n 0 [] (Nat.two_pow_pos _) hp, cm_z h6]
end Go.Proofs.Ord

