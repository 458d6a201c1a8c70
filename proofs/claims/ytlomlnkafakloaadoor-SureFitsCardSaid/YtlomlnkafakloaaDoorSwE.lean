/- Layer 5: sums of rows, and by how much rows raise the rank. -/
import Derived.KernelRfl
set_option linter.unusedSimpArgs false
set_option linter.unusedVariables false
set_option linter.unnecessarySimpa false
set_option maxHeartbeats 4000000
set_option maxRecDepth 100000
namespace Go.Proofs.Sur

/-- all sums, with one row more -/
def wdN (s : List Nat) (x : Nat) : List Nat := s ++ s.map (· ^^^ x)
structure Cl (s : List Nat) : Prop where
  z : 0 ∈ s
  x : ∀ a ∈ s, ∀ b ∈ s, a ^^^ b ∈ s
theorem xc (v x : Nat) : (v ^^^ x) ^^^ x = v := by rw [Nat.xor_assoc, Nat.xor_self, Nat.xor_zero]
theorem mem_wdN {s : List Nat} {x v : Nat} : v ∈ wdN s x ↔ v ∈ s ∨ v ^^^ x ∈ s := by
  simp only [wdN, List.mem_append, List.mem_map]
  constructor
  · rintro (h | ⟨a, h, rfl⟩)
    · exact .inl h
    · right; rw [xc]; exact h
  · rintro (h | h)
    · exact .inl h
    · exact .inr ⟨v ^^^ x, h, xc v x⟩
theorem Cl.wd {s : List Nat} (h : Cl s) (x : Nat) : Cl (wdN s x) where
  z := mem_wdN.2 (.inl h.z)
  x a ha b hb := by
    rw [mem_wdN] at ha hb ⊢
    rcases ha with ha | ha <;> rcases hb with hb | hb
    · exact .inl (h.x a ha b hb)
    · right; have := h.x a ha _ hb; rwa [← Nat.xor_assoc] at this
    · right; have := h.x _ ha b hb; rwa [Nat.xor_assoc, Nat.xor_comm x b, ← Nat.xor_assoc] at this
    · left
      have := h.x _ ha _ hb
      rwa [Nat.xor_comm b x, Nat.xor_assoc, ← Nat.xor_assoc x x b, Nat.xor_self, Nat.zero_xor] at this
/-- the same sums -/
abbrev Eq' (s t : List Nat) : Prop := ∀ v, v ∈ s ↔ v ∈ t
theorem Eq'.wd {s t : List Nat} (h : Eq' s t) (x : Nat) : Eq' (wdN s x) (wdN t x) := fun v => by rw [mem_wdN, mem_wdN, h, h]
theorem Cl.eq {s t : List Nat} (h : Cl s) (e : Eq' s t) : Cl t := ⟨(e 0).1 h.z, fun a ha b hb => (e _).1 (h.x a ((e a).2 ha) b ((e b).2 hb))⟩
theorem wd_in {s : List Nat} (h : Cl s) {x : Nat} (hx : x ∈ s) : Eq' (wdN s x) s := fun v => by
  rw [mem_wdN]
  constructor
  · rintro (h1 | h1)
    · exact h1
    · have := h.x _ h1 x hx; rwa [xc] at this
  · exact .inl
theorem wd_comm (s : List Nat) (x y : Nat) : Eq' (wdN (wdN s x) y) (wdN (wdN s y) x) := fun v => by
  rw [mem_wdN, mem_wdN, mem_wdN, mem_wdN, mem_wdN, mem_wdN]
  have : v ^^^ y ^^^ x = v ^^^ x ^^^ y := by rw [Nat.xor_assoc, Nat.xor_comm y x, ← Nat.xor_assoc]
  rw [this]
  constructor <;> rintro ((h | h) | (h | h)) <;> simp [h]
theorem wd_alt {s : List Nat} (h : Cl s) {x y : Nat} (hy : y ^^^ x ∈ s) : Eq' (wdN s y) (wdN s x) := fun v => by
  rw [mem_wdN, mem_wdN]
  have e1 : v ^^^ y ^^^ (y ^^^ x) = v ^^^ x := by rw [Nat.xor_assoc, ← Nat.xor_assoc y y x, Nat.xor_self, Nat.zero_xor]
  have e2 : v ^^^ x ^^^ (y ^^^ x) = v ^^^ y := by rw [Nat.xor_comm y x, Nat.xor_assoc, ← Nat.xor_assoc x x y, Nat.xor_self, Nat.zero_xor]
  constructor
  · rintro (h1 | h1)
    · exact .inl h1
    · right; have := h.x _ h1 _ hy; rwa [e1] at this
  · rintro (h1 | h1)
    · exact .inl h1
    · right; have := h.x _ h1 _ hy; rwa [e2] at this
/-- by how much rows raise the rank -/
def rc (s : List Nat) : List Nat → Nat
  | [] => 0
  | x :: l => if x ∈ s then rc s l else 1 + rc (wdN s x) l
theorem rc_le : ∀ (l : List Nat) (s : List Nat), rc s l ≤ l.length
  | [], _ => Nat.le_refl _
  | x :: l, s => by
    simp only [rc, List.length_cons]
    split
    · have := rc_le l s; omega
    · have := rc_le l (wdN s x); omega
theorem rc_eq : ∀ (l : List Nat) {s t : List Nat}, Eq' s t → rc s l = rc t l
  | [], _, _, _ => rfl
  | x :: l, s, t, h => by
    simp only [rc]
    by_cases hx : x ∈ s
    · rw [if_pos hx, if_pos ((h x).1 hx), rc_eq l h]
    · rw [if_neg hx, if_neg (fun q => hx ((h x).2 q)), rc_eq l (h.wd x)]
/-- one row more saves one at most -/
theorem rc_one : ∀ (l : List Nat) {s : List Nat} (x : Nat), Cl s → rc s l ≤ 1 + rc (wdN s x) l
  | [], _, _, _ => Nat.zero_le _
  | y :: l, s, x, h => by
    simp only [rc]
    by_cases h1 : y ∈ s
    · rw [if_pos h1, if_pos (mem_wdN.2 (.inl h1))]
      exact rc_one l x h
    · rw [if_neg h1]
      by_cases h2 : y ∈ wdN s x
      · rw [if_pos h2]
        have := (mem_wdN.1 h2).resolve_left h1
        rw [rc_eq l (wd_alt h this)]
        exact Nat.le_refl _
      · rw [if_neg h2]
        have := rc_one l (s := wdN s y) x (h.wd y)
        rw [rc_eq l (wd_comm s y x)] at this
        omega
/-- all sums of rows -/
def ext (s : List Nat) : List Nat → List Nat
  | [] => s
  | x :: l => ext (wdN s x) l
theorem ext_eq : ∀ (l : List Nat) {s t : List Nat}, Eq' s t → Eq' (ext s l) (ext t l)
  | [], _, _, h => h
  | x :: l, _, _, h => ext_eq l (h.wd x)
theorem ext_cl : ∀ (l : List Nat) {s : List Nat}, Cl s → Cl (ext s l)
  | [], _, h => h
  | x :: l, _, h => ext_cl l (h.wd x)
theorem ext_sub : ∀ (l : List Nat) {s : List Nat} {v : Nat}, v ∈ s → v ∈ ext s l
  | [], _, _, h => h
  | x :: l, _, _, h => ext_sub l (mem_wdN.2 (.inl h))
theorem ext_row : ∀ (l : List Nat) {s : List Nat} {v : Nat}, Cl s → v ∈ l → v ∈ ext s l
  | x :: l, s, v, h, hv => by
    rcases List.mem_cons.1 hv with rfl | hv
    · exact ext_sub l (mem_wdN.2 (.inr (by rw [Nat.xor_self]; exact h.z)))
    · exact ext_row l (h.wd x) hv
/-- what is closed and has the rows has all sums -/
theorem ext_least : ∀ (l : List Nat) {s : List Nat} {T : Nat → Prop}, (∀ a b, T a → T b → T (a ^^^ b)) → (∀ v ∈ s, T v) → (∀ v ∈ l, T v) → ∀ v ∈ ext s l, T v
  | [], _, _, _, hs, _ => hs
  | x :: l, s, T, hT, hs, hl => ext_least l hT (fun v hv => by
      rcases mem_wdN.1 hv with h | h
      · exact hs v h
      · have := hT _ _ (hs _ h) (hl x (by simp)); rwa [xc] at this) (fun v hv => hl v (by simp [hv]))
abbrev cl0 : Cl [0] := ⟨by simp, fun a ha b hb => by simp at ha hb; subst ha hb; simp⟩
/-- rows that have the same sums -/
theorem ext_same {l m : List Nat} (h1 : ∀ T : Nat → Prop, T 0 → (∀ a b, T a → T b → T (a ^^^ b)) → ((∀ v ∈ l, T v) ↔ ∀ v ∈ m, T v)) : Eq' (ext [0] l) (ext [0] m) := by
  have h2 := (h1 (· ∈ ext [0] m) (ext_sub m (by simp)) (fun a b ha hb => (ext_cl m cl0).x a ha b hb)).2 (fun v hv => ext_row m cl0 hv)
  have h3 := (h1 (· ∈ ext [0] l) (ext_sub l (by simp)) (fun a b ha hb => (ext_cl l cl0).x a ha b hb)).1 (fun v hv => ext_row l cl0 hv)
  intro v
  constructor
  · exact ext_least l (fun a b ha hb => (ext_cl m cl0).x a ha b hb) (fun v hv => ext_sub m hv) h2 v
  · exact ext_least m (fun a b ha hb => (ext_cl l cl0).x a ha b hb) (fun v hv => ext_sub l hv) h3 v
/-- how many there are -/
def card (s : List Nat) : Nat := (List.range 64).countP (fun v => decide (v ∈ s))
theorem card_eq {s t : List Nat} (h : Eq' s t) : card s = card t := by
  simp only [card]
  congr 1; funext v
  by_cases hv : v ∈ s
  · simp [hv, (h v).1 hv]
  · have : v ∉ t := fun q => hv ((h v).2 q)
    simp [hv, this]
theorem perm_all : (List.range 64).all (fun x => ((List.range 64).map (· ^^^ x)).isPerm (List.range 64)) = true := by kernel_rfl
theorem perm_x {x : Nat} (h : x < 64) : ((List.range 64).map (· ^^^ x)).Perm (List.range 64) := by
  have := List.all_eq_true.1 perm_all x (List.mem_range.2 h)
  exact List.isPerm_iff.1 this
theorem count_or {p q : Nat → Bool} : ∀ (l : List Nat), (∀ v ∈ l, ¬ (p v = true ∧ q v = true)) → l.countP (fun v => p v || q v) = l.countP p + l.countP q
  | [], _ => rfl
  | x :: l, h => by
    have ih := count_or l (fun v hv => h v (by simp [hv]))
    have hx := h x (by simp)
    simp only [List.countP_cons, ih]
    cases hp : p x <;> cases hq : q x <;> simp [hp, hq] at hx ⊢ <;> omega
theorem card_wd {s : List Nat} (h : Cl s) {x : Nat} (hx : x < 64) (hn : x ∉ s) : card (wdN s x) = 2 * card s := by
  have e : card (wdN s x) = (List.range 64).countP (fun v => decide (v ∈ s) || decide (v ^^^ x ∈ s)) := by
    simp only [card]
    congr 1; funext v
    have := @mem_wdN s x v
    by_cases h1 : v ∈ s <;> by_cases h2 : v ^^^ x ∈ s <;> simp [h1, h2, this]
  have c : (List.range 64).countP (fun v => decide (v ^^^ x ∈ s)) = card s := by
    have e1 : card s = ((List.range 64).map (· ^^^ x)).countP (fun v => decide (v ∈ s)) := ((perm_x hx).countP_eq _).symm
    rw [e1, List.countP_map]; rfl
  rw [e, count_or _ (fun v _ q => by
    simp only [decide_eq_true_eq] at q
    have := h.x _ q.1 _ q.2
    rw [← Nat.xor_assoc, Nat.xor_self, Nat.zero_xor] at this
    exact hn this), c]
  simp only [card]; omega
theorem card_ext : ∀ (l : List Nat) {s : List Nat}, Cl s → (∀ v ∈ l, v < 64) → card (ext s l) = card s * 2 ^ rc s l
  | [], s, _, _ => by simp [ext, rc]
  | x :: l, s, h, hl => by
    simp only [ext, rc]
    by_cases hx : x ∈ s
    · rw [if_pos hx, card_eq (ext_eq l (wd_in h hx)), card_ext l h (fun v hv => hl v (by simp [hv]))]
    · rw [if_neg hx, card_ext l (h.wd x) (fun v hv => hl v (by simp [hv])), card_wd h (hl x (by simp)) hx, Nat.pow_add]
      simp only [Nat.pow_one]
      rw [Nat.mul_comm 2 (card s), Nat.mul_assoc]
/-- rows with the same sums have the same rank -/
theorem rc_same {l m : List Nat} (hl : ∀ v ∈ l, v < 64) (hm : ∀ v ∈ m, v < 64) (h : Eq' (ext [0] l) (ext [0] m)) : rc [0] l = rc [0] m := by
  have e := card_eq h
  rw [card_ext l cl0 hl, card_ext m cl0 hm] at e
  have c1 : card [0] = 1 := by decide
  rw [c1, Nat.one_mul, Nat.one_mul] at e
  rcases Nat.lt_trichotomy (rc [0] l) (rc [0] m) with h | h | h
  · have := Nat.pow_lt_pow_right (a := 2) (by decide) h; omega
  · exact h
  · have := Nat.pow_lt_pow_right (a := 2) (by decide) h; omega
/-- rows of which each has a place that those before don't have -/
theorem rc_piv {f p : Nat → Nat} {n k : Nat} (hk : k ≤ n) (h1 : ∀ i j, i < n → j < k → (f i).testBit (p j) = decide (i = j)) (h0 : ∀ i, k ≤ i → i < n → f i = 0) :
    ∀ (d j : Nat) (s : List Nat), j + d = n → Cl s → (∀ v ∈ s, ∀ i, j ≤ i → i < k → v.testBit (p i) = false) → rc s ((List.range' j d).map f) = k - j
  | 0, j, s, hj, _, _ => by simp only [List.range'_zero, List.map_nil, rc]; omega
  | d + 1, j, s, hj, hc, hs => by
    simp only [List.range'_succ, List.map_cons, rc]
    by_cases hjk : j < k
    · have hn : f j ∉ s := fun q => by
        have := hs _ q j (Nat.le_refl j) hjk
        rw [h1 j j (by omega) hjk] at this; simp at this
      rw [if_neg hn, rc_piv hk h1 h0 d (j + 1) (wdN s (f j)) (by omega) (hc.wd _) (fun v hv i hi hik => by
        have hb := h1 j i (by omega) hik
        have hne : ¬ j = i := by omega
        rw [decide_eq_false hne] at hb
        rcases mem_wdN.1 hv with h | h
        · exact hs v h i (by omega) hik
        · have := hs _ h i (by omega) hik
          rw [Nat.testBit_xor, hb, Bool.xor_false] at this
          exact this)]
      omega
    · have : f j ∈ s := by rw [h0 j (by omega) (by omega)]; exact hc.z
      rw [if_pos this, rc_piv hk h1 h0 d (j + 1) s (by omega) hc (fun v hv i hi hik => hs v hv i (by omega) hik)]
      omega
end Go.Proofs.Sur
