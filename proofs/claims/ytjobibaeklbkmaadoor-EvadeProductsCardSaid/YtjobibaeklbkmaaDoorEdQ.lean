/- Layer 8: joins. -/
import Derived.Test.YtjobibaeklbkmaaDoorEdP
set_option linter.unusedSimpArgs false
set_option linter.unusedVariables false
set_option linter.unnecessarySimpa false
set_option maxRecDepth 100000
namespace Go.Proofs.Evd
open Go.Proofs.Sur (W mem_bits andn andn_bit andn_le lsU lsU_mem)

/-- all unions: the elements of the other have numbers greater by n -/
def jn (n : Nat) (F H : W) : W := ofB fun s => hs F (s % 2 ^ n) && hs H (s / 2 ^ n)
theorem jn_bit {n : Nat} {F H : W} {s : Nat} (h : s < 64) : hs (jn n F H) s = (hs F (s % 2 ^ n) && hs H (s / 2 ^ n)) := ofB_bit h
/-- a weighted number of sets -/
def cw (w : Nat → Int) (F : W) : Int := sumI (fun s => if hs F s = true then w s else 0) 64
theorem sum_blocks (g : Nat → Int) (a : Nat) : ∀ b, sumI g (b * a) = sumI (fun u => sumI (fun t => g (u * a + t)) a) b
  | 0 => by simp [sumI]
  | b + 1 => by
    have app : ∀ k, sumI g (b * a + k) = sumI g (b * a) + sumI (fun t => g (b * a + t)) k := by
      intro k
      induction k with
      | zero => simp [sumI]
      | succ k ih => rw [← Nat.add_assoc, sumI, ih, sumI]; omega
    rw [Nat.succ_mul, app, sum_blocks g a b]; rfl
theorem sum_trunc (g : Nat → Int) {a : Nat} : ∀ b, a ≤ b → (∀ i, a ≤ i → i < b → g i = 0) → sumI g b = sumI g a
  | 0, h, _ => by rw [show a = 0 by omega]
  | b + 1, h, hz => by
    by_cases e : a = b + 1
    · rw [e]
    · rw [sumI, hz b (by omega) (by omega), sum_trunc g b (by omega) (fun i h1 h2 => hz i h1 (by omega))]; omega
theorem cw_jn {w : Nat → Int} {n m : Nat} (hn : n + m ≤ 6) {F H : W} (hF : Rg n F) (hH : Rg m H) (hw : ∀ t u, t < 2 ^ n → u < 2 ^ m → w (u * 2 ^ n + t) = w u * w t) : cw w (jn n F H) = cw w F * cw w H := by
  have e64 : 64 = 2 ^ (6 - n) * 2 ^ n := by rw [← Nat.pow_add]; rw [show 6 - n + n = 6 by omega]
  have pn := Nat.two_pow_pos n
  have hk : 2 ^ m ≤ 2 ^ (6 - n) := Nat.pow_le_pow_right (by decide) (by omega)
  have e1 : cw w (jn n F H) = sumI (fun u => sumI (fun t => if (hs F t && hs H u) = true then w (u * 2 ^ n + t) else 0) (2 ^ n)) (2 ^ (6 - n)) := by
    rw [cw]
    conv => lhs; rw [e64]
    rw [sum_blocks]
    refine sumI_congr _ (fun u hu => sumI_congr _ (fun t ht => ?_))
    have hl : u * 2 ^ n + t < 64 := by
      rw [e64]
      have := Nat.mul_le_mul_right (2 ^ n) (show u + 1 ≤ 2 ^ (6 - n) by omega)
      rw [Nat.succ_mul] at this
      omega
    rw [jn_bit hl, Nat.mul_comm u, Nat.mul_add_mod, Nat.mod_eq_of_lt ht, Nat.mul_add_div pn, Nat.div_eq_of_lt ht, Nat.add_zero]
  have eF : cw w F = sumI (fun t => if hs F t = true then w t else 0) (2 ^ n) := by
    rw [cw]
    refine sum_trunc _ 64 (p64 (by omega)) (fun i h1 _ => ?_)
    cases hb : hs F i
    · rfl
    · have := hF i hb; omega
  have eH : cw w H = sumI (fun u => if hs H u = true then w u else 0) (2 ^ (6 - n)) := by
    rw [cw]
    refine sum_trunc _ 64 (p64 (by omega)) (fun i h1 _ => ?_)
    cases hb : hs H i
    · rfl
    · have := hH i hb; omega
  rw [e1, eH, ← sumI_mul]
  refine sumI_congr _ (fun u _ => ?_)
  cases hb : hs H u
  · simp
    exact sumI_zero _ _ (fun _ _ => rfl)
  · have hu := hH u hb
    rw [if_pos rfl, Int.mul_comm, eF, ← sumI_mul]
    refine sumI_congr _ (fun t ht => ?_)
    cases hf : hs F t
    · simp
    · simp [hw t u ht hu]
theorem sg_mul : ∀ n, n ≤ 6 → ∀ t, t < 2 ^ n → ∀ u, u < 2 ^ (6 - n) → sg (u * 2 ^ n + t) = sg u * sg t := by decide +kernel
theorem sm_jn {n m : Nat} (hn : n + m ≤ 6) {F H : W} (hF : Rg n F) (hH : Rg m H) : sm (jn n F H) = sm F * sm H :=
  cw_jn (w := sg) hn hF hH (fun t u ht hu => sg_mul n (by omega) t ht u (Nat.lt_of_lt_of_le hu (Nat.pow_le_pow_right (by decide) (by omega))))
theorem len_lsU (f : Nat → Bool) : ∀ n s, ((lsU f s n).length : Int) = sumI (fun i => if f (s + i) = true then 1 else 0) n
  | 0, _ => rfl
  | n + 1, s => by
    have shift : ∀ (g : Nat → Int) n, sumI g (n + 1) = g 0 + sumI (fun i => g (i + 1)) n := by
      intro g n
      induction n with
      | zero => simp [sumI]
      | succ n ih => rw [sumI, ih]; simp only [sumI]; omega
    rw [shift]
    have e : sumI (fun i => if f (s + (i + 1)) = true then (1 : Int) else 0) n = ((lsU f (s + 1) n).length : Int) := by
      rw [len_lsU f n (s + 1)]; exact sumI_congr n (fun i _ => by rw [show s + (i + 1) = s + 1 + i by omega])
    rw [e]
    simp only [lsU, Nat.add_zero]
    split
    · simp; omega
    · simp
theorem len_elts (F : W) : ((elts F).length : Int) = cw (fun _ => 1) F := by
  rw [show elts F = lsU (fun i => F.getLsbD i) 0 64 from rfl, len_lsU]
  exact sumI_congr 64 (fun i _ => by simp only [Nat.zero_add])
theorem len_jn {n m : Nat} (hn : n + m ≤ 6) {F H : W} (hF : Rg n F) (hH : Rg m H) : (elts (jn n F H)).length = (elts F).length * (elts H).length := by
  have h := cw_jn (w := fun _ => 1) hn hF hH (fun t u _ _ => by simp)
  rw [← len_elts, ← len_elts, ← len_elts] at h
  exact_mod_cast h
theorem jn_rg {n m : Nat} (hn : n + m ≤ 6) {F H : W} (hH : Rg m H) : Rg (n + m) (jn n F H) := fun s h => by
  rw [jn_bit (hs_lt h), Bool.and_eq_true] at h
  have h2 := hH _ h.2
  have pn := Nat.two_pow_pos n
  rw [Nat.pow_add, Nat.mul_comm]
  exact (Nat.div_lt_iff_lt_mul pn).1 h2
theorem mod_sub {s t n : Nat} (h : Sub s t) : Sub (s % 2 ^ n) (t % 2 ^ n) := fun i hi => by
  rw [Nat.testBit_mod_two_pow, Bool.and_eq_true] at hi ⊢
  exact ⟨hi.1, h i hi.2⟩
theorem div_sub {s t n : Nat} (h : Sub s t) : Sub (s / 2 ^ n) (t / 2 ^ n) := fun i hi => by
  rw [Nat.testBit_div_two_pow] at hi ⊢
  exact h _ hi
theorem jn_dn {n : Nat} {F H : W} (hF : Dn F) (hH : Dn H) : Dn (jn n F H) := fun s t ht h => by
  have htl := hs_lt ht
  rw [jn_bit htl, Bool.and_eq_true] at ht
  rw [jn_bit (sub_lt h htl), Bool.and_eq_true]
  exact ⟨hF _ _ ht.1 (mod_sub h), hH _ _ ht.2 (div_sub h)⟩
theorem lnk_jn {n : Nat} (hn : n ≤ 6) (F H : W) {x : Nat} (hx : x < n) : lnk (jn n F H) x = jn n (lnk F x) H := by
  refine ext fun s h => ?_
  have hm : s % 2 ^ n < 64 := Nat.lt_of_le_of_lt (Nat.mod_le _ _) h
  rw [lnk_bit (by omega) h, jn_bit (or_lt (by omega) h), jn_bit h, lnk_bit (by omega) hm]
  have e1 : (s ||| 2 ^ x) % 2 ^ n = s % 2 ^ n ||| 2 ^ x := by
    apply Nat.eq_of_testBit_eq; intro i
    rw [Nat.testBit_mod_two_pow, Nat.testBit_or, Nat.testBit_or, Nat.testBit_mod_two_pow, Nat.testBit_two_pow]
    by_cases e : x = i
    · subst e; simp [hx]
    · simp [e]
  have e2 : (s ||| 2 ^ x) / 2 ^ n = s / 2 ^ n := by
    apply Nat.eq_of_testBit_eq; intro i
    rw [Nat.testBit_div_two_pow, Nat.testBit_or, Nat.testBit_div_two_pow, Nat.testBit_two_pow]
    have : ¬ x = i + n := by omega
    simp [this]
  have e3 : (s % 2 ^ n).testBit x = s.testBit x := by rw [Nat.testBit_mod_two_pow]; simp [hx]
  rw [e1, e2, e3]
  cases hs F (s % 2 ^ n ||| 2 ^ x) <;> cases hs H (s / 2 ^ n) <;> cases s.testBit x <;> rfl

/-! ### asking a join -/
def pj (r1 r2 : Nat) (F H : W) : W := ofB fun s => (hs F (s &&& r1) && hs H (s &&& r2)) && decide (s &&& (r1 ||| r2) = s)
theorem pj_bit {r1 r2 : Nat} {F H : W} {s : Nat} (h : s < 64) : hs (pj r1 r2 F H) s = ((hs F (s &&& r1) && hs H (s &&& r2)) && decide (s &&& (r1 ||| r2) = s)) := ofB_bit h
theorem pj_comm (r1 r2 : Nat) (F H : W) : pj r1 r2 F H = pj r2 r1 H F := by
  refine ext fun s h => ?_
  rw [pj_bit h, pj_bit h, Nat.or_comm r2 r1]
  cases hs F (s &&& r1) <;> cases hs H (s &&& r2) <;> rfl
abbrev Dis (a b : Nat) : Prop := ∀ i, a.testBit i = true → b.testBit i = false
theorem rst_or {r1 r2 : Nat} (h1 : r1 < 64) (h2 : r2 < 64) (hd : Dis r1 r2) {x : Nat} (hb : r1.testBit x = true) : rst (r1 ||| r2) x = rst r1 x ||| r2 := by
  apply Nat.eq_of_testBit_eq; intro i
  rw [rst_bit (Nat.or_lt_two_pow (n := 6) h1 h2), Nat.testBit_or, Nat.testBit_or, rst_bit h1]
  by_cases e : x = i
  · subst e; simp [hd x hb]
  · simp [e]
theorem dis_rst {r1 r2 : Nat} (h1 : r1 < 64) (hd : Dis r1 r2) (x : Nat) : Dis (rst r1 x) r2 := fun i hi => by
  rw [rst_bit h1, Bool.and_eq_true] at hi; exact hd i hi.1
theorem in_rst {s r1 r2 x : Nat} (h1 : r1 < 64) (hd : Dis r1 r2) (hb : r1.testBit x = true) (hq : s.testBit x = false) : (s &&& (rst r1 x ||| r2) = s) ↔ (s &&& (r1 ||| r2) = s) := by
  rw [← sub_and, ← sub_and]
  constructor
  · intro k i hi
    have := k i hi
    rw [Nat.testBit_or, rst_bit h1, Bool.or_eq_true, Bool.and_eq_true] at this
    rw [Nat.testBit_or, Bool.or_eq_true]
    exact this.imp (·.1) id
  · intro k i hi
    have := k i hi
    rw [Nat.testBit_or, Bool.or_eq_true] at this
    rw [Nat.testBit_or, rst_bit h1, Bool.or_eq_true, Bool.and_eq_true]
    refine this.imp (fun z => ⟨z, ?_⟩) id
    have : x ≠ i := fun e => by subst e; rw [hq] at hi; cases hi
    simp [this]
theorem and_rst {s r1 x : Nat} (h1 : r1 < 64) (hq : s.testBit x = false) : s &&& rst r1 x = s &&& r1 := by
  apply Nat.eq_of_testBit_eq; intro i
  rw [Nat.testBit_and, Nat.testBit_and, rst_bit h1]
  by_cases e : x = i
  · subst e; simp [hq]
  · simp [e]
theorem pj_wot {r1 r2 : Nat} (h1 : r1 < 64) (hd : Dis r1 r2) (F H : W) {x : Nat} (hx : x < 6) (hb : r1.testBit x = true) : wot (pj r1 r2 F H) x = pj (rst r1 x) r2 (wot F x) H := by
  refine ext fun s h => ?_
  have hl : s &&& rst r1 x < 64 := Nat.lt_of_le_of_lt Nat.and_le_left h
  rw [wot_bit hx h, pj_bit h, pj_bit h, wot_bit hx hl]
  cases hq : s.testBit x
  · have e3 : (s &&& r1).testBit x = false := by rw [Nat.testBit_and, hq]; rfl
    rw [and_rst h1 hq, e3]
    simp only [in_rst h1 hd hb hq, Bool.not_false, Bool.and_true]
  · have : ¬ (s &&& (rst r1 x ||| r2) = s) := fun k => by
      have := sub_and.2 k x hq
      rw [Nat.testBit_or, rst_bit h1, hd x hb] at this
      simp at this
    simp [this]
theorem pj_lnk {r1 r2 : Nat} (h1 : r1 < 64) (hd : Dis r1 r2) (F H : W) {x : Nat} (hx : x < 6) (hb : r1.testBit x = true) : lnk (pj r1 r2 F H) x = pj (rst r1 x) r2 (lnk F x) H := by
  refine ext fun s h => ?_
  have hl : s &&& rst r1 x < 64 := Nat.lt_of_le_of_lt Nat.and_le_left h
  rw [lnk_bit hx h, pj_bit (or_lt hx h), pj_bit h, lnk_bit hx hl]
  cases hq : s.testBit x
  · have e0 : (s ||| 2 ^ x) &&& r1 = s &&& rst r1 x ||| 2 ^ x := by
      apply Nat.eq_of_testBit_eq; intro i
      rw [Nat.testBit_and, Nat.testBit_or, Nat.testBit_or, Nat.testBit_and, rst_bit h1, Nat.testBit_two_pow]
      by_cases e : x = i
      · subst e; simp [hb]
      · simp [e]
    have e1 : (s ||| 2 ^ x) &&& r2 = s &&& r2 := by
      apply Nat.eq_of_testBit_eq; intro i
      rw [Nat.testBit_and, Nat.testBit_or, Nat.testBit_and, Nat.testBit_two_pow]
      by_cases e : x = i
      · subst e; simp [hd x hb]
      · simp [e]
    have e2 : ((s ||| 2 ^ x) &&& (r1 ||| r2) = s ||| 2 ^ x) ↔ (s &&& (rst r1 x ||| r2) = s) := by
      rw [in_rst h1 hd hb hq, ← sub_and, ← sub_and]
      constructor
      · intro k i hi; exact k i (by rw [Nat.testBit_or, hi]; rfl)
      · intro k i hi
        rw [Nat.testBit_or, Nat.testBit_two_pow, Bool.or_eq_true, decide_eq_true_eq] at hi
        rcases hi with hi | rfl
        · exact k i hi
        · rw [Nat.testBit_or, hb]; rfl
    have e3 : (s &&& rst r1 x).testBit x = false := by rw [Nat.testBit_and, hq]; rfl
    rw [e0, e1, e3]
    simp only [e2, Bool.not_false, Bool.and_true]
  · have : ¬ (s &&& (rst r1 x ||| r2) = s) := fun k => by
      have := sub_and.2 k x hq
      rw [Nat.testBit_or, rst_bit h1, hd x hb] at this
      simp at this
    simp [this]
theorem stl_pj {r1 r2 : Nat} {F H : W} (hF : Fa r1 F) (hH : Fa r2 H) (hd : Dis r1 r2) (hs1 : stl r1 F = true) (hs2 : stl r2 H = true) : stl (r1 ||| r2) (pj r1 r2 F H) = true := by
  have hl : r1 ||| r2 < 64 := Nat.or_lt_two_pow (n := 6) hF.r64 hH.r64
  simp only [stl]
  rw [pj_bit hl, pj_bit (show 0 < 64 by decide)]
  have e1 : (r1 ||| r2) &&& r1 = r1 := by
    apply Nat.eq_of_testBit_eq; intro i
    rw [Nat.testBit_and, Nat.testBit_or]; cases r1.testBit i <;> simp
  have e2 : (r1 ||| r2) &&& r2 = r2 := by
    apply Nat.eq_of_testBit_eq; intro i
    rw [Nat.testBit_and, Nat.testBit_or]; cases r2.testBit i <;> simp
  rw [e1, e2]
  simp only [stl, Bool.or_eq_true, Bool.not_eq_true'] at hs1 hs2
  have d1 : decide ((r1 ||| r2) &&& (r1 ||| r2) = r1 ||| r2) = true := by simp
  have d2 : decide (0 &&& (r1 ||| r2) = 0) = true := by simp
  have d3 : 0 &&& r1 = 0 := Nat.zero_and _
  have d4 : 0 &&& r2 = 0 := Nat.zero_and _
  rw [d1, d2, d3, d4]
  rcases hs1 with q | q
  · rcases hs2 with p | p
    · rw [q, p]; rfl
    · rw [p]; cases hs F r1 <;> cases hs H r2 <;> cases hs F 0 <;> rfl
  · rw [q]; cases hs F r1 <;> cases hs H r2 <;> cases hs H 0 <;> rfl
theorem pj_full : ∀ (m r1 r2 : Nat) (F H : W), Fa r1 F → Fa r2 H → Dis r1 r2 → stl r1 F = true → pc r2 = m → ask (r1 ||| r2) (pj r1 r2 F H) ≤ m
  | m, r1, r2, F, H, hF, hH, hd, hs1, hm => by
    by_cases hst : stl r2 H = true
    · rw [ask_stl (stl_pj hF hH hd hs1 hst)]; omega
    · cases m with
      | zero => exact absurd (pc_zero hH.r64 hm ▸ stl_zero H) hst
      | succ m =>
        obtain ⟨x, hx, hb⟩ := pc_some hH.r64 (r := r2) (fun e => by subst e; exact hst (stl_zero H))
        have hp := pc_rst hx hH.r64 hb
        have hd' : Dis r2 r1 := fun i hi => by
          cases h : r1.testBit i
          · rfl
          · rw [hd i h] at hi; cases hi
        have hg := ask_go (F := pj r1 r2 F H) (Nat.or_lt_two_pow (n := 6) hF.r64 hH.r64) hx (by rw [Nat.testBit_or, hb]; simp)
        have hdx : Dis r1 (rst r2 x) := fun i hi => by
          rw [rst_bit hH.r64, hd i hi]; rfl
        have e : rst (r1 ||| r2) x = r1 ||| rst r2 x := by rw [Nat.or_comm, rst_or hH.r64 hF.r64 hd' hb, Nat.or_comm]
        simp only [go] at hg
        rw [e, pj_comm, pj_wot hH.r64 hd' H F hx hb, pj_lnk hH.r64 hd' H F hx hb, pj_comm (rst r2 x) r1 (wot H x) F, pj_comm (rst r2 x) r1 (lnk H x) F, pj_comm r2 r1 H F] at hg
        have g1 := pj_full m r1 (rst r2 x) F (wot H x) hF (wot_fa hH hx) hdx hs1 (by omega)
        have g2 := pj_full m r1 (rst r2 x) F (lnk H x) hF (lnk_fa hH hx) hdx hs1 (by omega)
        omega
theorem pj_ask : ∀ (m r1 r2 : Nat) (F H : W), Fa r1 F → Fa r2 H → Dis r1 r2 → pc r1 = m → ask (r1 ||| r2) (pj r1 r2 F H) ≤ ask r1 F + pc r2
  | m, r1, r2, F, H, hF, hH, hd, hm => by
    by_cases hst : stl r1 F = true
    · have := pj_full _ r1 r2 F H hF hH hd hst rfl; omega
    · cases m with
      | zero => exact absurd (pc_zero hF.r64 hm ▸ stl_zero F) hst
      | succ m =>
        obtain ⟨x, hx, hb, e⟩ := ask_get hF.r64 hst
        have hp := pc_rst hx hF.r64 hb
        have hg := ask_go (F := pj r1 r2 F H) (Nat.or_lt_two_pow (n := 6) hF.r64 hH.r64) hx (by rw [Nat.testBit_or, hb]; rfl)
        simp only [go] at hg e
        rw [rst_or hF.r64 hH.r64 hd hb, pj_wot hF.r64 hd F H hx hb, pj_lnk hF.r64 hd F H hx hb] at hg
        have g1 := pj_ask m (rst r1 x) r2 (wot F x) H (wot_fa hF hx) hH (dis_rst hF.r64 hd x) (by omega)
        have g2 := pj_ask m (rst r1 x) r2 (lnk F x) H (lnk_fa hF hx) hH (dis_rst hF.r64 hd x) (by omega)
        omega
end Go.Proofs.Evd

