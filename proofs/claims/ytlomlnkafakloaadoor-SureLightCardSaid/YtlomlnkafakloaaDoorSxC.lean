/- Joined: SxC, SxD. -/
import Derived.Test.YtlomlnkafakloaaDoorSxA
set_option linter.unusedSimpArgs false
set_option linter.unusedVariables false
set_option linter.unnecessarySimpa false
section
namespace Go.Proofs.Sur
set_option maxHeartbeats 1000000
variable {d : Nat}
def crm (d : Nat) (V : Nat → Vec) : Prop := ∀ (u : Vec) (c : Nat), c < d → om d V * u c = sm d (fun p => om d (up V p u) * V p c)
theorem crm_st : crm d st := by
  intro u c hc
  rw [om_st, Int.one_mul, sm_one d (k := c) hc (fun i hi hne => by simp only [st]; rw [if_neg (fun q => hne q.symm), Int.mul_zero])]
  rw [om_st_up hc]; simp [st]
theorem sm_two : ∀ (d : Nat) {f : Nat → Int} {k l : Nat}, k < d → l < d → k ≠ l → (∀ i, i < d → i ≠ k → i ≠ l → f i = 0) → sm d f = f k + f l := by
  intro d f k l hk hl hne h
  have e : sm d f = sm d (fun i => (if i = k then f k else 0) + (if i = l then f l else 0)) := sm_congr d fun i hi => by
    by_cases h1 : i = k
    · subst h1; rw [if_pos rfl, if_neg hne]; omega
    · by_cases h2 : i = l
      · subst h2; rw [if_pos rfl, if_neg h1]; omega
      · rw [if_neg h1, if_neg h2, h i hi h1 h2]; rfl
  rw [e, sm_add, sm_one d (k := k) hk (fun i _ hi => if_neg hi), sm_one d (k := l) hl (fun i _ hi => if_neg hi), if_pos rfl, if_pos rfl]
theorem three {V : Nat → Vec} (hV : crm d V) {p q : Nat} (hp : p < d) (hq : q < d) (hne : p ≠ q) (b r : Vec) :
    om d V * om d (up (up V q b) p r) = om d (up V q b) * om d (up V p r) - om d (up V q r) * om d (up V p b) := by
  have h1 : om d V * om d (up (up V q b) p r) = om d (up (up V q b) p (fun c => sm d (fun k => om d (up V k r) * V k c))) := by
    rw [← om_mul _ hp]
    refine om_congr fun k _ c hc => ?_
    by_cases e : k = p
    · subst e; rw [up_same, up_same]; exact hV r c hc
    · rw [up_ne _ _ e, up_ne _ _ e]
  rw [h1, om_sum _ hp, sm_two d (k := p) (l := q) hp hq hne (fun k hk h2 h3 => ?_)]
  · have e1 : up (up V q b) p (V p) = up V q b := by
      have := up_self (up V q b) p
      rw [up_ne _ _ hne] at this; exact this
    have e2 : om d (up (up V q b) p (V q)) = -om d (up V p b) := by
      rw [om_swap V hq hp (Ne.symm hne), up_self]
    rw [e1, e2, Int.mul_comm (om d (up V q b))]
    generalize om d (up V p r) * om d (up V q b) = x
    generalize om d (up V q r) = y
    generalize om d (up V p b) = z
    rw [Int.mul_neg]; omega
  · rw [om_two (up (up V q b) p (V k)) hk hp h2 (fun c _ => by rw [up_ne _ _ h2, up_same, up_ne _ _ h3]), Int.mul_zero]
theorem mul_cancel {a x y : Int} (ha : a ≠ 0) (h : a * x = a * y) : x = y := Int.eq_of_mul_eq_mul_left ha h
theorem crm_up {V : Nat → Vec} (hV : crm d V) (h0 : om d V ≠ 0) {j : Nat} (hj : j < d) (f : Vec) : crm d (up V j f) := by
  intro u c hc
  refine mul_cancel h0 ?_
  rw [← sm_mul]
  have hf := hV f c hc
  have hu := hV u c hc
  have e1 : sm d (fun p => om d V * (om d (up (up V j f) p u) * up V j f p c)) = sm d (fun p => om d (up V j f) * (om d (up V p u) * V p c) + (-om d (up V j u) * (om d (up V p f) * V p c) + (if p = j then om d V * om d (up V j u) * f c else 0))) := sm_congr d fun p hp => by
    by_cases e : p = j
    · subst e
      rw [up_up, up_same, if_pos rfl, Int.mul_assoc]
      generalize om d (up V p f) = x
      generalize om d (up V p u) = y
      have : x * (y * V p c) = y * (x * V p c) := Int.mul_left_comm _ _ _
      rw [this, Int.neg_mul]; omega
    · rw [up_ne _ _ e, if_neg e, ← Int.mul_assoc, three hV hp hj e, Int.sub_mul]
      simp only [Int.mul_assoc, Int.neg_mul]
      omega
  have e2 : sm d (fun i => if i = j then om d V * om d (up V j u) * f c else 0) = om d V * om d (up V j u) * f c := by
    rw [sm_one d (f := fun i => if i = j then om d V * om d (up V j u) * f c else 0) (k := j) hj (fun i _ hi => if_neg hi), if_pos rfl]
  rw [e1, sm_add, sm_add, sm_mul, sm_mul, ← hf, ← hu, e2]
  generalize om d V = a
  generalize om d (up V j f) = x
  generalize om d (up V j u) = y
  have h1 : a * (x * u c) = x * (a * u c) := Int.mul_left_comm _ _ _
  have h2 : -y * (a * f c) = -(a * y * f c) := by rw [Int.neg_mul, Int.mul_left_comm, Int.mul_assoc]
  rw [h1, h2]; omega
theorem om_lc (V : Nat → Vec) {j : Nat} (hj : j < d) (f : Vec) : om d (up V j f) = sm d (fun c => f c * om d (up V j (st c))) := by
  rw [← om_sum _ hj]
  refine om_congr fun p _ c hc => ?_
  by_cases e : p = j
  · subst e
    rw [up_same, up_same, sm_one d (k := c) hc (fun i hi hne => by simp only [st]; rw [if_neg (fun q => hne q.symm), Int.mul_zero])]
    simp [st]
  · rw [up_ne _ _ e, up_ne _ _ e]
end Go.Proofs.Sur
end
section
namespace Go.Proofs.Sur
set_option maxHeartbeats 1000000
abbrev gt (l : List Int) (i : Nat) : Int := l.getD i 0
section
variable (n m : Nat) (b : Nat → Nat → Bool)
def vc (u : Nat) : Vec := fun c => if u < n then st (u + 1) c else if c = 0 then 1 else if b (u - n) (c - 1) = true then -1 else 0
def oo : Vec := fun c => if c = 0 then 0 else -1
def rv (B : List Int) (i : Nat) : Vec := if i < m then vc n b (gt B i).toNat else oo
def vv (N : Nat → Nat) : Nat → Vec := fun p => if p = 0 then st 0 else vc n b (N p)
abbrev cel (R : List Int) (i c : Nat) : Int := gt R (i * (n + m + 1) + c)
structure Lp (N : Nat → Nat) (σ : Int) (R B : List Int) (s : Int) : Prop where
  lenR : R.length = (m + 1) * (n + m + 1)
  lenB : B.length = m
  sg : σ = 1 ∨ σ = -1
  pos : 0 < s
  eqs : s = σ * om (n + 1) (vv n b N)
  cr : crm (n + 1) (vv n b N)
  Nlt : ∀ p, 1 ≤ p → p ≤ n → N p < n + m
  Blt : ∀ i, i < m → 0 ≤ gt B i ∧ gt B i < n + m
  cov : ∀ u, u < n + m → (∃ p, 1 ≤ p ∧ p ≤ n ∧ N p = u) ∨ (∃ i, i < m ∧ (gt B i).toNat = u)
  cN : ∀ i p, i ≤ m → 1 ≤ p → p ≤ n → cel n m R i (N p) = -σ * om (n + 1) (up (vv n b N) p (rv n m b B i))
  cB : ∀ i k, i ≤ m → k < m → cel n m R i (gt B k).toNat = if i = k then s else 0
  c0 : ∀ i, i ≤ m → cel n m R i (n + m) = σ * om (n + 1) (up (vv n b N) 0 (rv n m b B i))
end
variable {n m : Nat} {b : Nat → Nat → Bool}
theorem tdiv_exact {a s : Int} (x : Int) (hs : 0 < s) (h : a = s * x) : a.tdiv s = x := by
  rw [h]; exact Int.mul_tdiv_cancel_left x (by omega)
theorem gt_set {B : List Int} {l i : Nat} {x : Int} (hl : l < B.length) : gt (B.set l x) i = if i = l then x else gt B i := by
  by_cases e : i = l
  · subst e; rw [if_pos rfl]; simp [gt, List.getD_eq_getElem?_getD, hl]
  · rw [if_neg e]; simp only [gt]
    rw [List.getD_eq_getElem?_getD, List.getElem?_set_ne (fun q => e q.symm), ← List.getD_eq_getElem?_getD]
theorem sq1 {σ : Int} (h : σ = 1 ∨ σ = -1) (x y : Int) : (σ * x) * (σ * y) = x * y := by
  rcases h with rfl | rfl
  · simp
  · simp only [Int.neg_mul, Int.mul_neg, Int.one_mul, Int.neg_neg]
theorem Lp.turn {N : Nat → Nat} {σ : Int} {R B : List Int} {s : Int} (h : Lp n m b N σ R B s) {q l : Nat} (hq1 : 1 ≤ q) (hq : q ≤ n) (hl : l < m) (hby : 0 < cel n m R l (N q)) {R' : List Int}
    (hlen : R'.length = R.length)
    (hR : ∀ j c, j ≤ m → c < n + m + 1 → cel n m R' j c = if j = l then cel n m R l c else (cel n m R j c * cel n m R l (N q) - cel n m R j (N q) * cel n m R l c).tdiv s) :
    Lp n m b (fun p => if p = q then (gt B l).toNat else N p) (-σ) R' (B.set l (N q)) (cel n m R l (N q)) := by
  obtain ⟨lenR, lenB, sg, pos, eqs, cr, Nlt, Blt, cov, cN, cB, c0⟩ := h
  have hV : vv n b (fun p => if p = q then (gt B l).toNat else N p) = up (vv n b N) q (vc n b (gt B l).toNat) := by
    funext p
    by_cases e : p = q
    · subst e; rw [up_same]; simp only [vv, if_true]; rw [if_neg (by omega)]
    · rw [up_ne _ _ e]; simp only [vv, if_neg e]
  have hNq : vv n b N q = vc n b (N q) := by simp only [vv]; rw [if_neg (by omega)]
  have hB' : ∀ i, gt (B.set l (N q : Int)) i = if i = l then (N q : Int) else gt B i := fun i => gt_set (by omega)
  have hrl : rv n m b (B.set l (N q : Int)) l = vv n b N q := by
    simp only [rv, hB', if_true]; rw [if_pos hl, hNq]; simp
  have hrl0 : rv n m b B l = vc n b (gt B l).toNat := by simp only [rv]; rw [if_pos hl]
  have hrn : ∀ i, i ≠ l → rv n m b (B.set l (N q : Int)) i = rv n m b B i := fun i hi => by
    simp only [rv, hB', if_neg hi]
  have hbyv : cel n m R l (N q) = -σ * om (n + 1) (up (vv n b N) q (vc n b (gt B l).toNat)) := by rw [cN l q (by omega) hq1 hq, hrl0]
  have h0 : om (n + 1) (vv n b N) ≠ 0 := fun e => by rw [e, Int.mul_zero] at eqs; omega
  have hNlt := Nlt q hq1 hq
  generalize hW : vv n b N = V at *
  generalize hbb : vc n b (gt B l).toNat = bb at *
  have hbl := Blt l hl
  -- the rule of three, as the cells have it
  have key : ∀ p, p < n + 1 → p ≠ q → ∀ r, om (n + 1) (up V q bb) * om (n + 1) (up V p r) - om (n + 1) (up V q r) * om (n + 1) (up V p bb) = om (n + 1) V * om (n + 1) (up (up V q bb) p r) := fun p hp hne r => (three cr hp (by omega) hne bb r).symm
  refine ⟨by rw [hlen, lenR], by rw [List.length_set, lenB], by omega, hby, ?_, ?_, ?_, ?_, ?_, ?_, ?_, ?_⟩
  · rw [hV, hbyv]
  · rw [hV]; exact crm_up cr h0 (by omega) bb
  · intro p hp1 hp
    show (if p = q then _ else _) < _
    split
    · omega
    · exact Nlt p hp1 hp
  · intro i hi
    rw [hB']; split
    · omega
    · exact Blt i hi
  · intro u hu
    rcases cov u hu with ⟨p, p1, p2, p3⟩ | ⟨i, i1, i2⟩
    · by_cases e : p = q
      · subst e; exact .inr ⟨l, hl, by rw [hB', if_pos rfl]; omega⟩
      · exact .inl ⟨p, p1, p2, by show (if p = q then _ else _) = u; rw [if_neg e]; exact p3⟩
    · by_cases e : i = l
      · subst e; exact .inl ⟨q, hq1, hq, by show (if q = q then _ else _) = u; rw [if_pos rfl]; exact i2⟩
      · exact .inr ⟨i, i1, by rw [hB', if_neg e]; exact i2⟩
  · intro i p hi hp1 hp
    rw [hV, Int.neg_neg]
    by_cases e : p = q
    · subst e
      rw [if_pos rfl, up_up, hR i _ hi (by omega)]
      by_cases e2 : i = l
      · subst e2
        rw [if_pos rfl, cB i i hi hl, if_pos rfl, hrl, up_self]; exact eqs
      · rw [if_neg e2, hrn i e2, cB i l hi hl, if_neg e2, cB l l (by omega) hl, if_pos rfl, cN i p hi hp1 hp]
        refine tdiv_exact _ pos ?_
        rw [Int.zero_mul, Int.neg_mul, Int.neg_mul, Int.zero_sub, Int.neg_neg, Int.mul_comm]
    · rw [if_neg e, hR i _ hi (by have := Nlt p hp1 hp; omega)]
      by_cases e2 : i = l
      · subst e2
        rw [if_pos rfl, hrl, cN i p hi hp1 hp, om_swap V (by omega) (by omega) (fun q => e q.symm), up_self, hrl0, Int.mul_neg, Int.neg_mul]
      · rw [if_neg e2, hrn i e2, cN i p hi hp1 hp, cN l p (by omega) hp1 hp, cN i q hi hq1 hq, hrl0, hbyv]
        refine tdiv_exact _ pos ?_
        rw [eqs, sq1 sg, ← key p (by omega) e]
        simp only [Int.neg_mul, Int.mul_neg, Int.neg_neg]
        rw [sq1 sg, sq1 sg, Int.mul_comm (om (n + 1) (up V q bb))]
  · intro i k hi hk
    rw [hB']
    by_cases e : k = l
    · subst e
      rw [if_pos rfl, Int.toNat_natCast, hR i _ hi (by omega)]
      by_cases e2 : i = k
      · subst e2; rw [if_pos rfl, if_pos rfl]
      · rw [if_neg e2, if_neg e2, Int.sub_self]; exact Int.zero_tdiv _
    · rw [if_neg e, hR i _ hi (by have := Blt k hk; omega)]
      by_cases e2 : i = l
      · subst e2
        rw [if_pos rfl, cB i k hi hk, if_neg (fun q => e q.symm), if_neg (fun q => e q.symm)]
      · rw [if_neg e2, cB i k hi hk, cB l k (by omega) hk]
        have e4 : ¬ l = k := fun q => e q.symm
        by_cases e3 : i = k
        · rw [if_pos e3, if_pos e3, if_neg e4, Int.mul_zero, Int.sub_zero]; exact tdiv_exact _ pos rfl
        · rw [if_neg e3, if_neg e3, if_neg e4, Int.mul_zero, Int.sub_zero, Int.zero_mul]; exact Int.zero_tdiv _
  · intro i hi
    rw [hV, hR i _ hi (by omega)]
    by_cases e2 : i = l
    · subst e2
      rw [if_pos rfl, hrl, c0 i hi, om_swap V (by omega) (by omega) (by omega), up_self, hrl0]
      simp only [Int.neg_mul, Int.mul_neg, Int.neg_neg]
    · rw [if_neg e2, hrn i e2, c0 i hi, c0 l (by omega), cN i q hi hq1 hq, hrl0, hbyv]
      refine tdiv_exact _ pos ?_
      have k0 := key 0 (by omega) (by omega) (rv n m b B i)
      rw [eqs]
      simp only [Int.neg_mul, Int.mul_neg, Int.neg_neg]
      rw [sq1 sg, sq1 sg, sq1 sg, ← k0, Int.mul_comm (om (n + 1) (up V q bb))]
      omega
end Go.Proofs.Sur
end
