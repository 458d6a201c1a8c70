/- Joined: RkY, RkZ, RkAh, RkAi. -/
import Derived.Test.YtnnhomkkggkkfaaDoorRkAr
import Derived.KernelRfl
import Derived.Test.YtnnhomkkggkkfaaDoorVm8
import Derived.Test.YtnnhomkkggkkfaaDoorVm7
import Derived.Test.YtnnhomkkggkkfaaDoorRkM
import Derived.Test.YtnnhomkkggkkfaaDoorRkC
import Derived.Test.YtnnhomkkggkkfaaDoorVm9
set_option linter.unusedSimpArgs false
set_option linter.unusedVariables false
set_option linter.unnecessarySimpa false
section
set_option maxHeartbeats 4000000
set_option maxRecDepth 100000
namespace Go.Proofs.Rnk
open Go Go.VM
open Go.Proofs.Sur (andn andn_bit andn_le i_wrap i_and i_or i_andn i_shl i_shr bit_01)

def rI (t : List Int) (s : Nat) : Nat → Nat
  | 0 => s
  | j + 1 => if (rI t s j).testBit j = true then rI t s j ||| sn t j else rI t s j
def rO (t : List Int) (s : Nat) : Nat → Nat
  | 0 => s
  | k + 1 => rI t (rO t s k) t.length
theorem rI_mono {t : List Int} {s b : Nat} (hb : s.testBit b = true) : ∀ j, (rI t s j).testBit b = true
  | 0 => hb
  | j + 1 => by
    simp only [rI]; split
    · rw [Nat.testBit_or, rI_mono hb j]; rfl
    · exact rI_mono hb j
theorem rI_mono2 {t : List Int} {s b j : Nat} : ∀ {l : Nat}, j ≤ l → (rI t s j).testBit b = true → (rI t s l).testBit b = true
  | 0, h, hb => by have : j = 0 := by omega
                   subst this; exact hb
  | l + 1, h, hb => by
    rcases Nat.lt_or_ge j (l + 1) with q | q
    · have ih := rI_mono2 (l := l) (by omega) hb
      simp only [rI]; split
      · rw [Nat.testBit_or, ih]; rfl
      · exact ih
    · have : j = l + 1 := by omega
      subst this; exact hb
theorem rI_step {t : List Int} {s i b : Nat} (hi : i < t.length) (hs : s.testBit i = true) (hb : bt t i b = true) : (rI t s t.length).testBit b = true := by
  refine rI_mono2 (j := i + 1) (by omega) ?_
  simp only [rI]
  rw [if_pos (rI_mono hs i), Nat.testBit_or]
  have : (sn t i).testBit b = true := hb
  rw [this, Bool.or_true]
def clo (t : List Int) (S : Nat) : Prop := ∀ i b, S.testBit i = true → bt t i b = true → S.testBit b = true
theorem rI_least {t : List Int} {S s : Nat} (hS : clo t S) (h : ∀ b, s.testBit b = true → S.testBit b = true) : ∀ j b, (rI t s j).testBit b = true → S.testBit b = true
  | 0, b, q => h b q
  | j + 1, b, q => by
    have ih := rI_least hS h j
    simp only [rI] at q
    split at q
    · rename_i c
      rw [Nat.testBit_or, Bool.or_eq_true] at q
      rcases q with q | q
      · exact ih b q
      · exact hS j b (ih j c) q
    · exact ih b q
theorem rO_least {t : List Int} {S s : Nat} (hS : clo t S) (h : ∀ b, s.testBit b = true → S.testBit b = true) : ∀ k b, (rO t s k).testBit b = true → S.testBit b = true
  | 0 => h
  | k + 1 => rI_least hS (rO_least hS h k) _
theorem rO_mono {t : List Int} {s b : Nat} (hb : s.testBit b = true) : ∀ k, (rO t s k).testBit b = true
  | 0 => hb
  | k + 1 => rI_mono (rO_mono hb k) _
theorem rO_fix {t : List Int} {s k : Nat} (h : rO t s (k + 1) = rO t s k) : ∀ l, k ≤ l → rO t s l = rO t s k
  | 0, q => by have : k = 0 := by omega
               subst this; rfl
  | l + 1, q => by
    rcases Nat.lt_or_ge k (l + 1) with w | w
    · have ih := rO_fix h l (by omega)
      simp only [rO] at h ⊢
      rw [ih]; exact h
    · have : k = l + 1 := by omega
      subst this; rfl
theorem clo_of_fix {t : List Int} (h : Tn t) {S : Nat} (e : rI t S t.length = S) : clo t S := fun i b hi hb => by
  rw [← e]; exact rI_step (h.lt hb).1 hi hb
theorem pc_allsY : ∀ n, n < 9 → pc (alls n) = n := by decide +kernel
theorem rO_in {t : List Int} (h : Tn t) {s : Nat} (hs : ∀ b, s.testBit b = true → b < t.length) (k : Nat) : ∀ b, (rO t s k).testBit b = true → b < t.length := by
  intro b hb
  have hA : clo t (alls t.length) := fun i b _ q => by rw [alls_bit]; exact decide_eq_true (h.lt q).2
  have := rO_least hA (fun b q => by rw [alls_bit]; exact decide_eq_true (hs b q)) k b hb
  rw [alls_bit] at this
  exact of_decide_eq_true this
theorem rO_pc {t : List Int} (h : Tn t) {s : Nat} (hs : ∀ b, s.testBit b = true → b < t.length) (h0 : 1 ≤ pc s) : ∀ k, (∃ j, j < k ∧ rO t s (j + 1) = rO t s j) ∨ k + 1 ≤ pc (rO t s k)
  | 0 => .inr h0
  | k + 1 => by
    rcases rO_pc h hs h0 k with ⟨j, hj, e⟩ | q
    · exact .inl ⟨j, by omega, e⟩
    · by_cases e : rO t s (k + 1) = rO t s k
      · exact .inl ⟨k, by omega, e⟩
      · right
        have h8 := h.s.2
        have hd : ∃ b, (rO t s k).testBit b = false ∧ (rO t s (k + 1)).testBit b = true := by
          apply Classical.byContradiction
          intro hn
          apply e
          apply Nat.eq_of_testBit_eq; intro b
          cases c : (rO t s k).testBit b
          · cases d : (rO t s (k + 1)).testBit b
            · rfl
            · exact absurd ⟨b, c, d⟩ hn
          · exact rI_mono c _
        obtain ⟨b, c, d⟩ := hd
        have := pc_lt (a := rO t s k) (b := rO t s (k + 1)) (fun i _ q => rI_mono q _) ⟨b, by have := rO_in h hs (k + 1) b d; omega, c, d⟩
        omega
theorem rO_clo {t : List Int} (h : Tn t) {s : Nat} (hs : ∀ b, s.testBit b = true → b < t.length) (h0 : 1 ≤ pc s) : clo t (rO t s t.length) := by
  have h8 := h.s.2
  have hle : pc (rO t s t.length) ≤ t.length := by
    have := pc_mono (a := rO t s t.length) (b := alls t.length) (fun i _ q => by rw [alls_bit]; exact decide_eq_true (rO_in h hs _ i q))
    rw [pc_allsY _ (by omega)] at this
    exact this
  rcases rO_pc h hs h0 t.length with ⟨j, hj, e⟩ | q
  · have e1 := rO_fix e t.length (by omega)
    rw [e1]
    exact clo_of_fix h e
  · omega
abbrev rch (t : List Int) (e : Nat) : Nat := rO t (2 ^ e) t.length
theorem pc_powY : ∀ e, e < 8 → pc (2 ^ e) = 1 := by decide +kernel
theorem pow_in {t : List Int} {e : Nat} (he : e < t.length) : ∀ b, (2 ^ e).testBit b = true → b < t.length := fun b hb => by
  rw [Nat.testBit_two_pow] at hb
  have := of_decide_eq_true hb
  omega
theorem rch_clo {t : List Int} (h : Tn t) {e : Nat} (he : e < t.length) : clo t (rch t e) :=
  rO_clo h (pow_in he) (by have := h.s.2; rw [pc_powY e (by omega)]; exact Nat.le_refl 1)
theorem rch_self (t : List Int) (e : Nat) : (rch t e).testBit e = true := rO_mono (by rw [Nat.testBit_two_pow]; simp) _
theorem rch_least {t : List Int} {S e : Nat} (hS : clo t S) (h : S.testBit e = true) : ∀ b, (rch t e).testBit b = true → S.testBit b = true :=
  rO_least hS (fun b q => by rw [Nat.testBit_two_pow] at q; rw [← of_decide_eq_true q]; exact h) _
theorem rch_bt {t : List Int} (h : Tn t) {e b : Nat} (hb : bt t e b = true) : (rch t e).testBit b = true :=
  rch_clo h (h.lt hb).1 e b (rch_self t e) hb
theorem rch_trans {t : List Int} (h : Tn t) {e b : Nat} (he : e < t.length) (hb : (rch t e).testBit b = true) : ∀ c, (rch t b).testBit c = true → (rch t e).testBit c = true :=
  rch_least (rch_clo h he) hb
def r0 (t : List Int) : Ord.Rel := fun e => if e < t.length then sn t e ||| 2 ^ e else 0
end Go.Proofs.Rnk
end
section
set_option maxHeartbeats 4000000
set_option maxRecDepth 100000
namespace Go.Proofs.Rnk
open Go Go.VM
open Go.Proofs.Sur (andn andn_bit andn_le i_wrap i_and i_or i_andn i_shl i_shr bit_01)

def wl (n : Nat) (A : Nat → Nat) : List Int := (List.range n).map fun e => ((A e : Nat) : Int)
@[simp] theorem wl_len (n : Nat) (A : Nat → Nat) : (wl n A).length = n := by simp [wl]
theorem wl_get {n : Nat} (A : Nat → Nat) {k : Nat} (hk : k < n) : (wl n A).getD k i0 = ((A k : Nat) : Int) := by
  simp [wl, List.getD_eq_getElem?_getD, hk]
abbrev hR (n : Nat) (A : Nat → Nat) : H := ⟨[ints (wl n A)], [], []⟩
def g0 (t : List Int) (k : Nat) : Nat → Nat := fun e => if e < k then sn t e ||| 2 ^ e else sn t e
abbrev rws (t : List Int) : List Int := wl t.length (rch t)
end Go.Proofs.Rnk
end
section
set_option maxHeartbeats 4000000
set_option maxRecDepth 100000
namespace Go.Proofs.Rnk
open Go Go.VM
open Go.Proofs.Sur (andn andn_bit andn_le i_wrap i_and i_or i_andn i_shl i_shr bit_01)

end Go.Proofs.Rnk
end
section
set_option maxHeartbeats 4000000
set_option maxRecDepth 100000
namespace Go.Proofs.Rnk
open Go Go.VM
open Go.Proofs.Sur (andn andn_bit andn_le i_wrap i_and i_or i_andn i_shl i_shr bit_01)

structure PK (n : Nat) (l : List Pr) (k : Nat) : Prop where
  a : 0 ≤ (l.getD k pair0).1
  b : (l.getD k pair0).1 < (l.getD k pair0).2
  c : (l.getD k pair0).2 < (n : Int)
structure PD (n : Nat) (l : List Pr) (k : Nat) : Prop where
  p : PK n l k
  d : l.getD k pair0 ∉ l.take k
structure PS (n : Nat) (l : List Pr) : Prop where
  h : ∀ k, k < l.length → PD n l k
structure PB (n : Nat) (l : List Pr) : Prop where
  le : l.length ≤ 28
  h : PS n l
/-! ### by the reference -/
end Go.Proofs.Rnk
end
