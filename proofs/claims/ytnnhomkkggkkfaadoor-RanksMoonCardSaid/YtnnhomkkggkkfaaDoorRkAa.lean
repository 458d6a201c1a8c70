/- Joined: RkAa, RkAb. -/
import Derived.Test.YtnnhomkkggkkfaaDoorRkY
import Derived.Test.YtnnhomkkggkkfaaDoorVm8
import Derived.KernelRfl
set_option linter.unusedSimpArgs false
set_option linter.unusedVariables false
set_option linter.unnecessarySimpa false
section
set_option maxHeartbeats 4000000
set_option maxRecDepth 100000
namespace Go.Proofs.Rnk
open Go Go.VM
open Go.Proofs.Sur (andn andn_bit andn_le i_wrap i_and i_or i_andn i_shl i_shr bit_01)

abbrev inp (t : List Int) (S i : Nat) : Prop := S.testBit i = true ∧ rch t i &&& S = S
def pA (t : List Int) (S : Nat) : Nat → Nat
  | 0 => 0
  | j + 1 => if inp t S j then pA t S j ||| 2 ^ j else pA t S j
abbrev pp (t : List Int) (S : Nat) : Nat := pA t S t.length
theorem pA_bit {t : List Int} {S b : Nat} : ∀ j, (pA t S j).testBit b = true ↔ b < j ∧ inp t S b
  | 0 => by simp [pA]
  | j + 1 => by
    have ih := @pA_bit t S b j
    simp only [pA]
    split
    · rename_i c
      rw [Nat.testBit_or, Nat.testBit_two_pow, Bool.or_eq_true, decide_eq_true_eq, ih]
      constructor
      · rintro (⟨h, k⟩ | rfl)
        · exact ⟨by omega, k⟩
        · exact ⟨by omega, c⟩
      · rintro ⟨h, k⟩
        rcases Nat.lt_or_ge b j with w | w
        · exact .inl ⟨w, k⟩
        · exact .inr (by omega)
    · rename_i c
      rw [ih]
      constructor
      · rintro ⟨h, k⟩; exact ⟨by omega, k⟩
      · rintro ⟨h, k⟩
        rcases Nat.lt_or_ge b j with w | w
        · exact ⟨w, k⟩
        · have : b = j := by omega
          subst this; exact absurd k c
def rst (t : List Int) : Nat → Nat
  | 0 => alls t.length
  | k + 1 => andn (rst t k) (pp t (rst t k))
theorem rst_lt {t : List Int} (h : Tn t) : ∀ k, rst t k < 256
  | 0 => by have := pow8 h.s.2; have := Nat.two_pow_pos t.length; show 2 ^ t.length - 1 < 256; omega
  | k + 1 => Nat.lt_of_le_of_lt (andn_le (by have := rst_lt h k; omega)) (rst_lt h k)
theorem rst_bit {t : List Int} (h : Tn t) (k b : Nat) : (rst t (k + 1)).testBit b = true ↔ (rst t k).testBit b = true ∧ ¬ (pp t (rst t k)).testBit b = true := by
  rw [rst, andn_bit (by have := rst_lt h k; omega)]
  cases (rst t k).testBit b <;> cases (pp t (rst t k)).testBit b <;> simp
theorem rst_in {t : List Int} (h : Tn t) : ∀ k b, (rst t k).testBit b = true → b < t.length
  | 0, b, q => by rw [rst, alls_bit] at q; exact of_decide_eq_true q
  | k + 1, b, q => rst_in h k b ((rst_bit h k b).1 q).1
theorem and_sub {a S : Nat} : a &&& S = S ↔ ∀ b, S.testBit b = true → a.testBit b = true := by
  constructor
  · intro e b hb
    rw [← e, Nat.testBit_and, Bool.and_eq_true] at hb
    exact hb.1
  · intro k
    apply Nat.eq_of_testBit_eq; intro b
    rw [Nat.testBit_and]
    cases c : S.testBit b
    · simp
    · rw [k b c]; rfl
theorem rst_clo {t : List Int} (h : Tn t) : ∀ k, clo t (rst t k)
  | 0, i, b, _, q => by rw [rst, alls_bit]; exact decide_eq_true (h.lt q).2
  | k + 1, i, b, hi, q => by
    have ih := rst_clo h k
    obtain ⟨hi1, hi2⟩ := (rst_bit h k i).1 hi
    have hb := ih i b hi1 q
    refine (rst_bit h k b).2 ⟨hb, fun hp => hi2 ?_⟩
    have hin := rst_in h k i hi1
    obtain ⟨hbl, _, hbr⟩ := (pA_bit _).1 hp
    refine (pA_bit _).2 ⟨hin, hi1, and_sub.2 fun c hc => ?_⟩
    exact rch_trans h hin (rch_bt h q) c (and_sub.1 hbr c hc)
theorem rch_rst {t : List Int} (h : Tn t) {k i : Nat} (hi : (rst t k).testBit i = true) : ∀ b, (rch t i).testBit b = true → (rst t k).testBit b = true :=
  rch_least (rst_clo h k) hi
theorem inp_eq {t : List Int} (h : Tn t) {k i : Nat} (hi : (rst t k).testBit i = true) : rch t i &&& rst t k = rst t k ↔ rch t i = rst t k := by
  constructor
  · intro e
    have e := and_sub.1 e
    have q := rch_rst h hi
    apply Nat.eq_of_testBit_eq; intro b
    have e := e b; have q := q b
    cases c : (rch t i).testBit b <;> cases d : (rst t k).testBit b <;> simp_all
  · intro e; rw [e, Nat.and_self]
theorem ex_bit {S : Nat} (h : S ≠ 0) : ∃ b, S.testBit b = true := by
  apply Classical.byContradiction
  intro hn
  apply h
  apply Nat.eq_of_testBit_eq; intro b
  rw [Nat.zero_testBit]
  cases c : S.testBit b
  · rfl
  · exact absurd ⟨b, c⟩ hn
theorem ex_in {t : List Int} (h : Tn t) {k : Nat} (h0 : rst t k ≠ 0) : ∃ i, i < t.length ∧ inp t (rst t k) i := by
  obtain ⟨b0, hb0⟩ := ex_bit h0
  obtain ⟨i, ⟨hi, hs⟩, hmax⟩ := ex_max (fun i => pc (rch t i &&& rst t k)) (fun i => (rst t k).testBit i = true) t.length ⟨b0, rst_in h k b0 hb0, hb0⟩
  refine ⟨i, hi, hs, and_sub.2 fun b hb => ?_⟩
  cases c : (rch t i).testBit b
  · exfalso
    have hbl := rst_in h k b hb
    have hne : i ≠ b := fun e => by rw [← e, rch_self] at c; cases c
    have h1 : bt t i b = false := by
      cases d : bt t i b
      · rfl
      · rw [rch_bt h d] at c; cases c
    have h2 : bt t b i = true := by
      have := h.tot hi hbl hne
      rw [h1] at this
      cases d : bt t b i
      · rw [d] at this; cases this
      · rfl
    have := pc_lt (a := rch t i &&& rst t k) (b := rch t b &&& rst t k) (fun e _ q => by
      rw [Nat.testBit_and, Bool.and_eq_true] at q ⊢
      exact ⟨rch_trans h hbl (rch_bt h h2) e q.1, q.2⟩) ⟨b, by have := h.s.2; omega, by rw [Nat.testBit_and, c]; rfl, by rw [Nat.testBit_and, rch_self, hb]; rfl⟩
    have := hmax b hbl hb
    omega
  · rfl
theorem rst_pc {t : List Int} (h : Tn t) : ∀ k, rst t k = 0 ∨ pc (rst t k) + k ≤ t.length
  | 0 => .inr (by have := h.s.2; show pc (alls t.length) + 0 ≤ _; rw [pc_allsY _ (by omega)]; omega)
  | k + 1 => by
    by_cases e : rst t (k + 1) = 0
    · exact .inl e
    · right
      have e0 : rst t k ≠ 0 := fun q => e (by
        apply Classical.byContradiction; intro w
        obtain ⟨b, hb⟩ := ex_bit w
        have := ((rst_bit h k b).1 hb).1
        rw [q] at this; simp at this)
      rcases rst_pc h k with q | q
      · exact absurd q e0
      · obtain ⟨i, hi, hp⟩ := ex_in h e0
        have h8 := h.s.2
        have := pc_lt (a := rst t (k + 1)) (b := rst t k) (fun b _ w => ((rst_bit h k b).1 w).1) ⟨i, by omega, by
          cases c : (rst t (k + 1)).testBit i
          · rfl
          · exact absurd ((pA_bit _).2 ⟨hi, hp⟩) ((rst_bit h k i).1 c).2, hp.1⟩
        omega
theorem least {p : Nat → Prop} : ∀ n, p n → ∃ m, m ≤ n ∧ p m ∧ ∀ j, j < m → ¬ p j := by
  intro n
  induction n using Nat.strongRecOn with
  | _ n ih =>
    intro hn
    by_cases q : ∃ j, j < n ∧ p j
    · obtain ⟨j, hj, hp⟩ := q
      obtain ⟨m, h1, h2, h3⟩ := ih j hj hp
      exact ⟨m, by omega, h2, h3⟩
    · exact ⟨n, Nat.le_refl n, hn, fun j hj hp => q ⟨j, hj, hp⟩⟩
theorem ex_m {t : List Int} (h : Tn t) : ∃ m, m ≤ t.length ∧ rst t m = 0 ∧ ∀ j, j < m → rst t j ≠ 0 := by
  refine least (p := fun k => rst t k = 0) t.length ?_
  rcases rst_pc h t.length with q | q
  · exact q
  · have e : pc (rst t t.length) = 0 := by omega
    apply Classical.byContradiction; intro w
    obtain ⟨b, hb⟩ := ex_bit w
    have := pc_lt (a := 0) (b := rst t t.length) (fun i _ q => by simp at q) ⟨b, bit_lt8 (rst_lt h _) hb, by simp, hb⟩
    omega
open Classical in
noncomputable def mP (t : List Int) : Nat := if h : Tn t then Classical.choose (ex_m h) else 0
theorem mP_spec {t : List Int} (h : Tn t) : mP t ≤ t.length ∧ rst t (mP t) = 0 ∧ ∀ j, j < mP t → rst t j ≠ 0 := by
  unfold mP
  rw [dif_pos h]
  exact Classical.choose_spec (ex_m h)
def pl (t : List Int) (k : Nat) : List Int := (List.range k).map fun i => ((pp t (rst t i) : Nat) : Int)
@[simp] theorem pl_len (t : List Int) (k : Nat) : (pl t k).length = k := by simp [pl]
theorem pl_succ (t : List Int) (k : Nat) : pl t (k + 1) = pl t k ++ [((pp t (rst t k) : Nat) : Int)] := by simp [pl, List.range_succ]
end Go.Proofs.Rnk
end
section
set_option maxHeartbeats 4000000
set_option maxRecDepth 100000
namespace Go.Proofs.Rnk
open Go Go.VM
open Go.Proofs.Sur (andn andn_bit andn_le i_wrap i_and i_or i_andn i_shl i_shr bit_01)

abbrev lA (l : List Int) : AV := .sl (ints l) l.length (rm 0 l)
abbrev lH (l : List Int) : H := ⟨[], tk l, []⟩
noncomputable abbrev pts (t : List Int) : List Int := pl t (mP t)
noncomputable abbrev pR (t : List Int) : Room := (rm 0 (pts t)).wk
end Go.Proofs.Rnk
end
