/- Layer 2: whom a player reaches, by the reference; the mathematics of it. -/
import Derived.Test.YtnnhomkkggkkfaaDoorRkAr
import Derived.KernelRfl
set_option linter.unusedSimpArgs false
set_option linter.unusedVariables false
set_option linter.unnecessarySimpa false
set_option maxHeartbeats 4000000
set_option maxRecDepth 100000
namespace Go.Proofs.Rnk
open Go Go.VM
open Go.Proofs.Sur (andn andn_bit andn_le i_wrap i_and i_or i_andn i_shl i_shr bit_01)

def rI (t : List Int) (s : Nat) : Nat → Nat
  | 0 => s
  | j + 1 => if (rI t s j).testBit j = true then rI t s j ||| sn t j else rI t s j
def rO (t : List Int) (s : Nat) : Nat → Nat
  | 0 => s
  | k + 1 => rI t (rO t s k) t.length
theorem rI_mono {t : List Int} {s b : Nat} (hb : s.testBit b = true) : ∀ j, (rI t s j).testBit b = true
  | 0 => hb
  | j + 1 => by
    simp only [rI]; split
    · rw [Nat.testBit_or, rI_mono hb j]; rfl
    · exact rI_mono hb j
theorem rI_mono2 {t : List Int} {s b j : Nat} : ∀ {l : Nat}, j ≤ l → (rI t s j).testBit b = true → (rI t s l).testBit b = true
  | 0, h, hb => by have : j = 0 := by omega
                   subst this; exact hb
  | l + 1, h, hb => by
    rcases Nat.lt_or_ge j (l + 1) with q | q
    · have ih := rI_mono2 (l := l) (by omega) hb
      simp only [rI]; split
      · rw [Nat.testBit_or, ih]; rfl
      · exact ih
    · have : j = l + 1 := by omega
      subst this; exact hb
theorem rI_step {t : List Int} {s i b : Nat} (hi : i < t.length) (hs : s.testBit i = true) (hb : bt t i b = true) : (rI t s t.length).testBit b = true := by
  refine rI_mono2 (j := i + 1) (by omega) ?_
  simp only [rI]
  rw [if_pos (rI_mono hs i), Nat.testBit_or]
  have : (sn t i).testBit b = true := hb
  rw [this, Bool.or_true]
def clo (t : List Int) (S : Nat) : Prop := ∀ i b, S.testBit i = true → bt t i b = true → S.testBit b = true
theorem rI_least {t : List Int} {S s : Nat} (hS : clo t S) (h : ∀ b, s.testBit b = true → S.testBit b = true) : ∀ j b, (rI t s j).testBit b = true → S.testBit b = true
  | 0, b, q => h b q
  | j + 1, b, q => by
    have ih := rI_least hS h j
    simp only [rI] at q
    split at q
    · rename_i c
      rw [Nat.testBit_or, Bool.or_eq_true] at q
      rcases q with q | q
      · exact ih b q
      · exact hS j b (ih j c) q
    · exact ih b q
theorem rO_least {t : List Int} {S s : Nat} (hS : clo t S) (h : ∀ b, s.testBit b = true → S.testBit b = true) : ∀ k b, (rO t s k).testBit b = true → S.testBit b = true
  | 0 => h
  | k + 1 => rI_least hS (rO_least hS h k) _
theorem rO_mono {t : List Int} {s b : Nat} (hb : s.testBit b = true) : ∀ k, (rO t s k).testBit b = true
  | 0 => hb
  | k + 1 => rI_mono (rO_mono hb k) _
theorem rO_fix {t : List Int} {s k : Nat} (h : rO t s (k + 1) = rO t s k) : ∀ l, k ≤ l → rO t s l = rO t s k
  | 0, q => by have : k = 0 := by omega
               subst this; rfl
  | l + 1, q => by
    rcases Nat.lt_or_ge k (l + 1) with w | w
    · have ih := rO_fix h l (by omega)
      simp only [rO] at h ⊢
      rw [ih]; exact h
    · have : k = l + 1 := by omega
      subst this; rfl
theorem clo_of_fix {t : List Int} (h : Tn t) {S : Nat} (e : rI t S t.length = S) : clo t S := fun i b hi hb => by
  rw [← e]; exact rI_step (h.lt hb).1 hi hb
theorem pc_allsY : ∀ n, n < 9 → pc (alls n) = n := by decide +kernel
theorem rO_in {t : List Int} (h : Tn t) {s : Nat} (hs : ∀ b, s.testBit b = true → b < t.length) (k : Nat) : ∀ b, (rO t s k).testBit b = true → b < t.length := by
  intro b hb
  have hA : clo t (alls t.length) := fun i b _ q => by rw [alls_bit]; exact decide_eq_true (h.lt q).2
  have := rO_least hA (fun b q => by rw [alls_bit]; exact decide_eq_true (hs b q)) k b hb
  rw [alls_bit] at this
  exact of_decide_eq_true this
theorem rO_pc {t : List Int} (h : Tn t) {s : Nat} (hs : ∀ b, s.testBit b = true → b < t.length) (h0 : 1 ≤ pc s) : ∀ k, (∃ j, j < k ∧ rO t s (j + 1) = rO t s j) ∨ k + 1 ≤ pc (rO t s k)
  | 0 => .inr h0
  | k + 1 => by
    rcases rO_pc h hs h0 k with ⟨j, hj, e⟩ | q
    · exact .inl ⟨j, by omega, e⟩
    · by_cases e : rO t s (k + 1) = rO t s k
      · exact .inl ⟨k, by omega, e⟩
      · right
        have h8 := h.s.2
        have hd : ∃ b, (rO t s k).testBit b = false ∧ (rO t s (k + 1)).testBit b = true := by
          apply Classical.byContradiction
          intro hn
          apply e
          apply Nat.eq_of_testBit_eq; intro b
          cases c : (rO t s k).testBit b
          · cases d : (rO t s (k + 1)).testBit b
            · rfl
            · exact absurd ⟨b, c, d⟩ hn
          · exact rI_mono c _
        obtain ⟨b, c, d⟩ := hd
        have := pc_lt (a := rO t s k) (b := rO t s (k + 1)) (fun i _ q => rI_mono q _) ⟨b, by have := rO_in h hs (k + 1) b d; omega, c, d⟩
        omega
theorem rO_clo {t : List Int} (h : Tn t) {s : Nat} (hs : ∀ b, s.testBit b = true → b < t.length) (h0 : 1 ≤ pc s) : clo t (rO t s t.length) := by
  have h8 := h.s.2
  have hle : pc (rO t s t.length) ≤ t.length := by
    have := pc_mono (a := rO t s t.length) (b := alls t.length) (fun i _ q => by rw [alls_bit]; exact decide_eq_true (rO_in h hs _ i q))
    rw [pc_allsY _ (by omega)] at this
    exact this
  rcases rO_pc h hs h0 t.length with ⟨j, hj, e⟩ | q
  · have e1 := rO_fix e t.length (by omega)
    rw [e1]
    exact clo_of_fix h e
  · omega
abbrev rch (t : List Int) (e : Nat) : Nat := rO t (2 ^ e) t.length
theorem pc_powY : ∀ e, e < 8 → pc (2 ^ e) = 1 := by decide +kernel
theorem pow_in {t : List Int} {e : Nat} (he : e < t.length) : ∀ b, (2 ^ e).testBit b = true → b < t.length := fun b hb => by
  rw [Nat.testBit_two_pow] at hb
  have := of_decide_eq_true hb
  omega
theorem rch_clo {t : List Int} (h : Tn t) {e : Nat} (he : e < t.length) : clo t (rch t e) :=
  rO_clo h (pow_in he) (by have := h.s.2; rw [pc_powY e (by omega)]; exact Nat.le_refl 1)
theorem rch_self (t : List Int) (e : Nat) : (rch t e).testBit e = true := rO_mono (by rw [Nat.testBit_two_pow]; simp) _
theorem rch_least {t : List Int} {S e : Nat} (hS : clo t S) (h : S.testBit e = true) : ∀ b, (rch t e).testBit b = true → S.testBit b = true :=
  rO_least hS (fun b q => by rw [Nat.testBit_two_pow] at q; rw [← of_decide_eq_true q]; exact h) _
theorem rch_bt {t : List Int} (h : Tn t) {e b : Nat} (hb : bt t e b = true) : (rch t e).testBit b = true :=
  rch_clo h (h.lt hb).1 e b (rch_self t e) hb
theorem rch_trans {t : List Int} (h : Tn t) {e b : Nat} (he : e < t.length) (hb : (rch t e).testBit b = true) : ∀ c, (rch t b).testBit c = true → (rch t e).testBit c = true :=
  rch_least (rch_clo h he) hb
def r0 (t : List Int) : Ord.Rel := fun e => if e < t.length then sn t e ||| 2 ^ e else 0
theorem r0_rg {t : List Int} (h : Tn t) : Ord.Rg t.length (r0 t) := by
  refine ⟨fun i => ?_, fun i hi => ?_⟩
  · simp only [r0]; split
    · rename_i hi
      refine Nat.or_lt_two_pow ?_ (Nat.pow_lt_pow_right (by decide) hi)
      apply Nat.lt_pow_two_of_testBit
      intro b hb
      cases c : (sn t i).testBit b
      · rfl
      · exact absurd (h.lt (show bt t i b = true from c)).2 (by omega)
    · exact Nat.pow_pos (by decide)
  · simp only [r0]; rw [if_neg (by omega)]
theorem r0_ab {t : List Int} (h : Tn t) {e b : Nat} : Ord.ab (r0 t) e b ↔ e < t.length ∧ (b = e ∨ bt t e b = true) := by
  simp only [Ord.ab, r0]
  split
  · rename_i he
    rw [Nat.testBit_or, Nat.testBit_two_pow, Bool.or_eq_true, decide_eq_true_eq]
    constructor
    · rintro (q | q)
      · exact ⟨he, .inr q⟩
      · exact ⟨he, .inl q.symm⟩
    · rintro ⟨_, q | q⟩
      · exact .inr q.symm
      · exact .inl q
  · rename_i he
    simp [he]
theorem Wn_rch {t : List Int} (h : Tn t) {e : Nat} (he : e < t.length) : Ord.Wn (r0 t) t.length e = rch t e := by
  have hg := r0_rg h
  have htr := Ord.Wn_tr hg
  apply Nat.eq_of_testBit_eq; intro b
  have h1 : (Ord.Wn (r0 t) t.length e).testBit b = true → (rch t e).testBit b = true := fun q => by
    have hB : Ord.Tr (fun i => if i < t.length then rch t i else 0) := by
      intro i j k p q
      simp only [Ord.ab] at p q ⊢
      split at p
      · rename_i hi
        split at q
        · rw [if_pos hi]; exact rch_trans h hi p k q
        · simp at q
      · simp at p
    have := Ord.Wn_least hB (A := r0 t) (fun i j p => by
      obtain ⟨hi, p⟩ := (r0_ab h).1 p
      simp only [Ord.ab]
      rw [if_pos hi]
      rcases p with rfl | p
      · exact rch_self t _
      · exact rch_bt h p) t.length e b q
    simp only [Ord.ab] at this
    rw [if_pos he] at this
    exact this
  have h2 : (rch t e).testBit b = true → (Ord.Wn (r0 t) t.length e).testBit b = true := by
    refine rch_least ?_ (Ord.Wn_mono ((r0_ab h).2 ⟨he, .inl rfl⟩)) b
    intro i c hi hc
    exact htr e i c hi (Ord.Wn_mono ((r0_ab h).2 ⟨(h.lt hc).1, .inr hc⟩))
  cases c : (Ord.Wn (r0 t) t.length e).testBit b <;> cases d : (rch t e).testBit b <;> simp_all
end Go.Proofs.Rnk

