/- Layer 2: how many cycles there are, counted in two ways. -/
import Derived.Test.YtnnhomkkggkkfaaDoorRkU
import Derived.Test.YtnnhomkkggkkfaaDoorRkR
set_option linter.unusedSimpArgs false
set_option linter.unusedVariables false
set_option linter.unnecessarySimpa false
set_option maxRecDepth 100000
namespace Go.Proofs.Rnk
open Go Go.VM

/-! ### sums -/
def sm (f : Nat → Nat) : Nat → Nat
  | 0 => 0
  | n + 1 => sm f n + f n
theorem sm_congr {f g : Nat → Nat} : ∀ {n : Nat}, (∀ i, i < n → f i = g i) → sm f n = sm g n
  | 0, _ => rfl
  | n + 1, h => by simp only [sm]; rw [sm_congr (fun i hi => h i (by omega)), h n (by omega)]
theorem sm_add (f g : Nat → Nat) : ∀ n, sm (fun i => f i + g i) n = sm f n + sm g n
  | 0 => rfl
  | n + 1 => by simp only [sm]; rw [sm_add f g n]; omega
theorem sm_zero : ∀ n, sm (fun _ => 0) n = 0
  | 0 => rfl
  | n + 1 => by simp only [sm]; rw [sm_zero n]
theorem sm_mul (c : Nat) (f : Nat → Nat) : ∀ n, sm (fun i => c * f i) n = c * sm f n
  | 0 => rfl
  | n + 1 => by simp only [sm]; rw [sm_mul c f n, Nat.mul_add]
theorem sm_ext {f : Nat → Nat} {n : Nat} (h : ∀ i, n ≤ i → f i = 0) : ∀ k, sm f (n + k) = sm f n
  | 0 => rfl
  | k + 1 => by show sm f (n + k) + f (n + k) = _; rw [sm_ext h k, h (n + k) (by omega)]; rfl
/-- the sum over pairs x < y -/
def ps2 (g : Nat → Nat → Nat) (n : Nat) : Nat := sm (fun y => sm (fun x => g x y) y) n
theorem ps2_congr {f g : Nat → Nat → Nat} {n : Nat} (h : ∀ x y, x < y → y < n → f x y = g x y) : ps2 f n = ps2 g n := sm_congr fun y hy => sm_congr fun x hx => h x y hx hy
theorem ps2_add (f g : Nat → Nat → Nat) (n : Nat) : ps2 (fun x y => f x y + g x y) n = ps2 f n + ps2 g n := by
  unfold ps2
  rw [← sm_add]
  exact sm_congr fun y _ => sm_add _ _ _
theorem dbl (g : Nat → Nat → Nat) : ∀ n, sm (fun v => sm (fun j => g v j) n) n = ps2 (fun x y => g x y + g y x) n + sm (fun v => g v v) n
  | 0 => rfl
  | n + 1 => by
    have ih := dbl g n
    have e1 : sm (fun v => sm (fun j => g v j) (n + 1)) (n + 1) = sm (fun v => sm (fun j => g v j) n) n + sm (fun v => g v n) n + (sm (fun j => g n j) n + g n n) := by
      show sm (fun v => sm (fun j => g v j) (n + 1)) n + sm (fun j => g n j) (n + 1) = _
      have : sm (fun v => sm (fun j => g v j) (n + 1)) n = sm (fun v => sm (fun j => g v j) n) n + sm (fun v => g v n) n := by rw [← sm_add]; rfl
      rw [this]; rfl
    have e2 : ps2 (fun x y => g x y + g y x) (n + 1) = ps2 (fun x y => g x y + g y x) n + (sm (fun x => g x n) n + sm (fun x => g n x) n) := by
      show ps2 _ n + sm (fun x => g x n + g n x) n = _
      rw [sm_add]
    have e3 : sm (fun v => g v v) (n + 1) = sm (fun v => g v v) n + g n n := rfl
    omega
/-- two of k, three of k -/
def c2 : Nat → Nat
  | 0 => 0
  | k + 1 => c2 k + k
def c3 : Nat → Nat
  | 0 => 0
  | k + 1 => c3 k + c2 k
theorem ps2_one : ∀ n, ps2 (fun _ _ => 1) n = c2 n
  | 0 => rfl
  | n + 1 => by
    show ps2 _ n + sm (fun _ => 1) n = c2 n + n
    have : ∀ n, sm (fun _ => 1) n = n := fun n => by
      induction n with
      | zero => rfl
      | succ n ih => simp only [sm]; rw [ih]
    rw [ps2_one n, this]
theorem c2_sum {f : Nat → Nat} (h : ∀ i, f i = 0 ∨ f i = 1) : ∀ n, c2 (sm f n) = ps2 (fun x y => f x * f y) n
  | 0 => rfl
  | n + 1 => by
    show c2 (sm f n + f n) = ps2 _ n + sm (fun x => f x * f n) n
    rw [← c2_sum h n]
    have e : sm (fun x => f x * f n) n = f n * sm f n := by
      rw [← sm_mul]; exact sm_congr fun i _ => Nat.mul_comm _ _
    rw [e]
    rcases h n with q | q
    · rw [q]; simp
    · rw [q]; simp only [c2]; omega
/-! ### a tournament's numbers -/
abbrev ee (t : List Int) (i j : Nat) : Nat := (bt t i j).toNat
theorem ee01 (t : List Int) (i j : Nat) : ee t i j = 0 ∨ ee t i j = 1 := by simp only [ee]; cases bt t i j <;> simp
/-- the scores among the first n -/
abbrev ss (t : List Int) (v n : Nat) : Nat := sm (fun j => ee t v j) n
abbrev hh (t : List Int) (a b c : Nat) : Nat := (decide (a < b)).toNat * ((decide (a < c)).toNat * (ee t a b * (ee t b c * ee t c a)))
abbrev cn (t : List Int) (n : Nat) : Nat := sm (fun a => sm (fun b => sm (fun c => hh t a b c) n) n) n
theorem low (k : Nat → Nat → Nat) (n : Nat) : sm (fun a => sm (fun b => (decide (a < b)).toNat * k a b) n) n = ps2 k n := by
  rw [dbl]
  have e1 : sm (fun v => (decide (v < v)).toNat * k v v) n = 0 := by
    rw [← sm_zero n]; exact sm_congr fun i _ => by simp
  rw [e1, Nat.add_zero]
  refine ps2_congr fun x y hx _ => ?_
  have : ¬ y < x := by omega
  simp [hx, this]
theorem cn_step {t : List Int} (h : Tn t) (n : Nat) : cn t (n + 1) = cn t n + ps2 (fun x y => ee t x n * (ee t n y * ee t y x) + ee t x y * (ee t y n * ee t n x)) n := by
  have z0 : ∀ b c, b ≤ n → hh t n b c = 0 := fun b c hb => by
    have : ¬ n < b := by omega
    simp [hh, this]
  have z1 : ∀ a, hh t a n n = 0 := fun a => by simp [hh, ee, h.irr n]
  have e1 : cn t (n + 1) = sm (fun a => sm (fun b => sm (fun c => hh t a b c) (n + 1)) (n + 1)) n := by
    show sm (fun a => sm (fun b => sm (fun c => hh t a b c) (n + 1)) (n + 1)) n + sm (fun b => sm (fun c => hh t n b c) (n + 1)) (n + 1) = _
    have : sm (fun b => sm (fun c => hh t n b c) (n + 1)) (n + 1) = 0 := by
      rw [← sm_zero (n + 1)]
      refine sm_congr fun b hb => ?_
      rw [← sm_zero (n + 1)]
      exact sm_congr fun c _ => z0 b c (by omega)
    omega
  have e2 : ∀ a, sm (fun b => sm (fun c => hh t a b c) (n + 1)) (n + 1) = sm (fun b => sm (fun c => hh t a b c) n) n + sm (fun b => hh t a b n) n + sm (fun c => hh t a n c) n := fun a => by
    show sm (fun b => sm (fun c => hh t a b c) (n + 1)) n + (sm (fun c => hh t a n c) n + hh t a n n) = _
    have : sm (fun b => sm (fun c => hh t a b c) (n + 1)) n = sm (fun b => sm (fun c => hh t a b c) n) n + sm (fun b => hh t a b n) n := by rw [← sm_add]; rfl
    rw [this, z1 a]; omega
  rw [e1, sm_congr (fun a _ => e2 a), sm_add, sm_add]
  have e3 : sm (fun a => sm (fun b => hh t a b n) n) n = ps2 (fun x y => ee t x y * (ee t y n * ee t n x)) n := by
    rw [← low]
    refine sm_congr fun a ha => sm_congr fun b _ => ?_
    simp [hh, ha]
  have e4 : sm (fun a => sm (fun c => hh t a n c) n) n = ps2 (fun x y => ee t x n * (ee t n y * ee t y x)) n := by
    rw [← low]
    refine sm_congr fun a ha => sm_congr fun c _ => ?_
    simp [hh, ha]
  rw [e3, e4, ps2_add]
  have e5 : sm (fun a => sm (fun b => sm (fun c => hh t a b c) n) n) n = cn t n := rfl
  omega
/-- all triples are cycles, or have one who beats both others -/
theorem triples {t : List Int} (h : Tn t) : ∀ n, n ≤ t.length → cn t n + sm (fun v => c2 (ss t v n)) n = c3 n
  | 0, _ => rfl
  | n + 1, hn => by
    have ih := triples h n (by omega)
    have e1 := cn_step h n
    have e2 : sm (fun v => c2 (ss t v (n + 1))) (n + 1) = sm (fun v => c2 (ss t v n)) n + ps2 (fun x y => ee t x n * ee t x y + ee t y n * ee t y x) n + ps2 (fun x y => ee t n x * ee t n y) n := by
      show sm (fun v => c2 (ss t v (n + 1))) n + c2 (ss t n (n + 1)) = _
      have a1 : ss t n (n + 1) = ss t n n := by
        show ss t n n + ee t n n = _
        simp [ee, h.irr n]
      have a2 : ∀ v, c2 (ss t v (n + 1)) = c2 (ss t v n) + ee t v n * ss t v n := fun v => by
        show c2 (ss t v n + ee t v n) = _
        rcases ee01 t v n with q | q
        · rw [q]; simp
        · rw [q]; simp only [c2]; omega
      rw [a1, sm_congr (fun v _ => a2 v), sm_add, ← c2_sum (f := fun j => ee t n j) (fun i => ee01 t n i)]
      have a3 : sm (fun v => ee t v n * ss t v n) n = ps2 (fun x y => ee t x n * ee t x y + ee t y n * ee t y x) n := by
        have b1 : sm (fun v => ee t v n * ss t v n) n = sm (fun v => sm (fun j => ee t v n * ee t v j) n) n := sm_congr fun v _ => (sm_mul _ _ _).symm
        rw [b1, dbl]
        have b2 : sm (fun v => ee t v n * ee t v v) n = 0 := by
          rw [← sm_zero n]; exact sm_congr fun i _ => by simp [ee, h.irr i]
        rw [b2, Nat.add_zero]
      rw [a3]
    have e3 : ps2 (fun x y => ee t x n * (ee t n y * ee t y x) + ee t x y * (ee t y n * ee t n x)) n + (ps2 (fun x y => ee t x n * ee t x y + ee t y n * ee t y x) n + ps2 (fun x y => ee t n x * ee t n y) n) = c2 n := by
      rw [← ps2_add, ← ps2_add, ← ps2_one]
      refine ps2_congr fun x y hx hy => ?_
      have t1 := h.tot (i := x) (j := y) (by omega) (by omega) (by omega)
      have t2 := h.tot (i := x) (j := n) (by omega) (by omega) (by omega)
      have t3 := h.tot (i := y) (j := n) (by omega) (by omega) (by omega)
      simp only [ee, t1, t2, t3]
      cases bt t y x <;> cases bt t n x <;> cases bt t n y <;> rfl
    show cn t (n + 1) + sm (fun v => c2 (ss t v (n + 1))) (n + 1) = c3 n + c2 n
    omega
/-! ### what the program counts -/
theorem pc_sm (s : Nat) : pc s = sm (fun b => (s.testBit b).toNat) 8 := by
  have e : List.range 8 = [0, 1, 2, 3, 4, 5, 6, 7] := by decide
  simp only [pc, e, sm, List.filter_cons, List.filter_nil]
  cases s.testBit 0 <;> cases s.testBit 1 <;> cases s.testBit 2 <;> cases s.testBit 3 <;> cases s.testBit 4 <;> cases s.testBit 5 <;> cases s.testBit 6 <;> cases s.testBit 7 <;> rfl
theorem sm_8 {t : List Int} (h : Tn t) {f : Nat → Nat} (hf : ∀ i, t.length ≤ i → f i = 0) : sm f 8 = sm f t.length := by
  have h8 := h.s.2
  have := sm_ext hf (8 - t.length)
  rw [show t.length + (8 - t.length) = 8 by omega] at this
  exact this
theorem bt_out {t : List Int} (h : Tn t) {i j : Nat} (hj : t.length ≤ j) : bt t i j = false := by
  cases c : bt t i j
  · rfl
  · have := (h.lt c).2; omega
theorem pc_ss {t : List Int} (h : Tn t) (v : Nat) : pc (sn t v) = ss t v t.length := by
  rw [pc_sm]
  exact sm_8 h fun i hi => by show (bt t v i).toNat = 0; rw [bt_out h hi]; rfl
/-- a sum over the elements of a set -/
theorem els_sum (g : Nat → Nat) (s : Nat) : sm (fun k => g (el s k)) (pc s) = sm (fun b => (s.testBit b).toNat * g b) 8 := by
  have e : List.range 8 = [0, 1, 2, 3, 4, 5, 6, 7] := by decide
  simp only [pc, el, els, e, sm, List.filter_cons, List.filter_nil]
  cases s.testBit 0 <;> cases s.testBit 1 <;> cases s.testBit 2 <;> cases s.testBit 3 <;> cases s.testBit 4 <;> cases s.testBit 5 <;> cases s.testBit 6 <;> cases s.testBit 7 <;> simp [sm]
theorem cc3_cnt (t : List Int) (a b : Nat) (acc : List Tri) : ∀ k, (cc3 t a b acc k).length = acc.length + sm (fun j => ee t (el (s1 t a b) j) a) k
  | 0 => by simp [cc3, sm]
  | k + 1 => by
    have ih := cc3_cnt t a b acc k
    simp only [cc3, sm]
    split
    · rename_i c
      rw [List.length_append, ih]
      simp only [ee, c, List.length_cons, List.length_nil, Bool.toNat_true]
      omega
    · rename_i c
      have c : bt t (el (s1 t a b) k) a = false := by simpa using c
      rw [ih]
      simp only [ee, c, Bool.toNat_false, Nat.add_zero]
abbrev x3 (t : List Int) (a b : Nat) : Nat := sm (fun c => ((s1 t a b).testBit c).toNat * ee t c a) 8
theorem cc2_cnt (t : List Int) (a : Nat) (acc : List Tri) : ∀ k, (cc2 t a acc k).length = acc.length + sm (fun j => x3 t a (el (s1 t a a) j)) k
  | 0 => by simp [cc2, sm]
  | k + 1 => by
    have ih := cc2_cnt t a acc k
    show (cc3 t a (el (s1 t a a) k) (cc2 t a acc k) (pc (s1 t a (el (s1 t a a) k)))).length = acc.length + (sm (fun j => x3 t a (el (s1 t a a) j)) k + x3 t a (el (s1 t a a) k))
    rw [cc3_cnt, ih, els_sum (fun c => ee t c a)]
    exact Nat.add_assoc _ _ _
theorem cc1_cnt (t : List Int) : ∀ n, (cc1 t n).length = sm (fun a => sm (fun b => ((s1 t a a).testBit b).toNat * x3 t a b) 8) n
  | 0 => rfl
  | n + 1 => by
    have ih := cc1_cnt t n
    show (cc2 t n (cc1 t n) (pc (s1 t n n))).length = sm (fun a => sm (fun b => ((s1 t a a).testBit b).toNat * x3 t a b) 8) n + sm (fun b => ((s1 t n n).testBit b).toNat * x3 t n b) 8
    rw [cc2_cnt, ih, els_sum (fun b => x3 t n b)]
theorem s1_nat {t : List Int} (h : Tn t) (a b c : Nat) : ((s1 t a b).testBit c).toNat = (decide (a < c)).toNat * ee t b c := by
  have := s1_bit h (a := a) (b := b) (c := c)
  simp only [ee]
  cases q : (s1 t a b).testBit c
  · by_cases w : a < c
    · have : bt t b c = false := by
        cases v : bt t b c
        · rfl
        · rw [this.2 ⟨v, w⟩] at q; cases q
      simp [this]
    · simp [w]
  · obtain ⟨w, v⟩ := this.1 q
    simp [w, v]
theorem cyc_cnt {t : List Int} (h : Tn t) : (cyc t).length = cn t t.length := by
  rw [cyc, cc1_cnt]
  refine sm_congr fun a _ => ?_
  rw [sm_8 h fun i hi => by rw [s1_nat h]; simp [ee, bt_out h hi]]
  refine sm_congr fun b _ => ?_
  show ((s1 t a a).testBit b).toNat * sm (fun c => ((s1 t a b).testBit c).toNat * ee t c a) 8 = _
  rw [sm_8 h fun i hi => by rw [s1_nat h]; simp [ee, bt_out h hi], ← sm_mul]
  refine sm_congr fun c _ => ?_
  rw [s1_nat h, s1_nat h]
  simp only [hh]
  cases decide (a < b) <;> cases decide (a < c) <;> simp
theorem cyc_count {t : List Int} (h : Tn t) : (cyc t).length + sm (fun v => c2 (pc (sn t v))) t.length = c3 t.length := by
  rw [cyc_cnt h, sm_congr (fun v _ => by rw [pc_ss h v])]
  exact triples h t.length (Nat.le_refl _)
/-! ### sorted or not, the sums are the same -/
def pS (f : Int → Int) (l : List Int) : Nat → Int
  | 0 => 0
  | j + 1 => pS f l j + f (l.getD j i0)
theorem pS_set (f : Int → Int) (l : List Int) (i : Nat) (v : Int) (hi : i < l.length) : ∀ n, pS f (l.set i v) n = pS f l n + (if i < n then f v - f (l.getD i i0) else 0)
  | 0 => by simp [pS]
  | n + 1 => by
    simp only [pS]
    rw [pS_set f l i v hi n]
    by_cases e : i = n
    · subst e
      have : (l.set i v).getD i i0 = v := by rw [List.getD_eq_getElem?_getD, List.getElem?_set_self hi]; rfl
      rw [this, if_neg (by omega), if_pos (by omega)]; omega
    · have : (l.set i v).getD n i0 = l.getD n i0 := by rw [List.getD_eq_getElem?_getD, List.getElem?_set_ne e, ← List.getD_eq_getElem?_getD]
      rw [this]
      by_cases w : i < n
      · rw [if_pos w, if_pos (by omega)]; omega
      · rw [if_neg w, if_neg (by omega)]; omega
theorem pS_sw (f : Int → Int) (l : List Int) (j : Nat) (hj : j + 1 < l.length) : pS f (sw l j) l.length = pS f l l.length := by
  have h1 := pS_set f l (j + 1) (l.getD j i0) hj l.length
  have h2 := pS_set f (l.set (j + 1) (l.getD j i0)) j (l.getD (j + 1) i0) (by simp; omega) l.length
  have e : (l.set (j + 1) (l.getD j i0)).getD j i0 = l.getD j i0 := by rw [List.getD_eq_getElem?_getD, List.getElem?_set_ne (by omega), ← List.getD_eq_getElem?_getD]
  rw [if_pos hj] at h1
  rw [if_pos (by omega), e] at h2
  show pS f ((l.set (j + 1) (l.getD j i0)).set j (l.getD (j + 1) i0)) l.length = _
  omega
theorem pS_sk (f : Int → Int) : ∀ (j : Nat) (l : List Int), j < l.length → pS f (sk l j) l.length = pS f l l.length
  | 0, l, _ => rfl
  | j + 1, l, hj => by
    simp only [sk]
    split
    · have := pS_sk f j (sw l j) (by simp; omega)
      have hl : (sw l j).length = l.length := by simp
      rw [hl] at this
      rw [this]; exact pS_sw f l j hj
    · rfl
theorem pS_isr (f : Int → Int) (l : List Int) : ∀ m, m < l.length → pS f (isr l m) l.length = pS f l l.length
  | 0, _ => rfl
  | m + 1, h => by
    simp only [isr]
    have := pS_sk f (m + 1) (isr l m) (by rw [isr_len]; exact h)
    rw [isr_len] at this
    rw [this]; exact pS_isr f l m (by omega)
/-- what all elements have, those of the sorted slice have -/
theorem sk_all {p : Int → Prop} : ∀ (j : Nat) (l : List Int), j < l.length → (∀ x ∈ l, p x) → ∀ x ∈ sk l j, p x
  | 0, l, _, h => h
  | j + 1, l, hj, h => by
    simp only [sk]
    split
    · refine sk_all j (sw l j) (by simp; omega) fun x hx => ?_
      have g : ∀ i, i < l.length → p (l.getD i i0) := fun i hi => by
        rw [List.getD_eq_getElem?_getD, List.getElem?_eq_getElem hi]; exact h _ (List.getElem_mem hi)
      rcases List.mem_or_eq_of_mem_set hx with q | rfl
      · rcases List.mem_or_eq_of_mem_set q with q | rfl
        · exact h x q
        · exact g j (by omega)
      · exact g (j + 1) hj
    · exact h
theorem isr_all {p : Int → Prop} {l : List Int} (h : ∀ x ∈ l, p x) : ∀ m, m < l.length → ∀ x ∈ isr l m, p x
  | 0, _ => h
  | m + 1, hm => by
    simp only [isr]
    exact sk_all (m + 1) (isr l m) (by rw [isr_len]; exact hm) (isr_all h m (by omega))
theorem srt_b {t : List Int} (h : Tn t) {j : Nat} (hj : j < t.length) : 0 ≤ (srt t).getD j i0 ∧ (srt t).getD j i0 ≤ 8 := by
  have hl : (scs t).length = t.length := sV_len t t.length
  have hs : (srt t).length = t.length := srt_len t
  have h1 := h.s.1
  have ha : ∀ x ∈ scs t, 0 ≤ x ∧ x ≤ 8 := fun x hx => by
    obtain ⟨i, hi, rfl⟩ := List.getElem_of_mem hx
    have hi' : i < t.length := by rw [hl] at hi; exact hi
    have := sV_get t t.length i hi' hi'
    simp only [ia, List.getD_eq_getElem?_getD, List.getElem?_eq_getElem hi, Option.getD_some] at this
    rw [this]
    have := pc_le (sn t i)
    omega
  have := isr_all (p := fun x => 0 ≤ x ∧ x ≤ 8) ha ((scs t).length - 1) (by omega)
  have hj' : j < (srt t).length := by omega
  rw [List.getD_eq_getElem?_getD, List.getElem?_eq_getElem hj']
  exact this _ (List.getElem_mem hj')
abbrev c2I (x : Int) : Int := ((c2 x.toNat : Nat) : Int)
theorem srt_sum {t : List Int} (h : Tn t) : pS c2I (srt t) t.length = ((sm (fun v => c2 (pc (sn t v))) t.length : Nat) : Int) := by
  have hl : (scs t).length = t.length := sV_len t t.length
  have h1 := h.s.1
  have e1 := pS_isr c2I (scs t) ((scs t).length - 1) (by omega)
  rw [hl] at e1
  have e0 : pS c2I (srt t) t.length = pS c2I (scs t) t.length := by
    show pS c2I (isr (scs t) ((scs t).length - 1)) t.length = _
    rw [hl]; exact e1
  rw [e0]
  have : ∀ n, n ≤ t.length → pS c2I (scs t) n = ((sm (fun v => c2 (pc (sn t v))) n : Nat) : Int) := by
    intro n
    induction n with
    | zero => intro _; rfl
    | succ n ih =>
      intro hn
      have hg := sV_get t t.length n (by omega) (by omega)
      simp only [pS, sm]
      rw [ih (by omega)]
      have hg : (scs t).getD n i0 = ((pc (sn t n) : Nat) : Int) := hg
      rw [hg]
      simp only [c2I, Int.toNat_natCast]
      omega
  exact this t.length (Nat.le_refl _)
theorem c2_b : ∀ x : Nat, x < 9 → c2 x ≤ 28 ∧ ((x : Int) * ((x : Int) - 1)).tdiv 2 = ((c2 x : Nat) : Int) ∧ 0 ≤ (x : Int) * ((x : Int) - 1) ∧ (x : Int) * ((x : Int) - 1) ≤ 56 := by decide
theorem c3_b : ∀ n : Nat, n < 9 → 1 ≤ n → c3 n ≤ 56 ∧ ((n : Int) * ((n : Int) - 1) * ((n : Int) - 2)).tdiv 6 = ((c3 n : Nat) : Int) ∧ (0 ≤ (n : Int) * ((n : Int) - 1) ∧ (n : Int) * ((n : Int) - 1) ≤ 56) ∧ 0 ≤ (n : Int) * ((n : Int) - 1) * ((n : Int) - 2) ∧ (n : Int) * ((n : Int) - 1) * ((n : Int) - 2) ≤ 336 := by decide
end Go.Proofs.Rnk

