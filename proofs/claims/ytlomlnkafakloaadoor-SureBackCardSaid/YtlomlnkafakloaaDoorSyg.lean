/- Layer 5: weights: what Weigh comes to. -/
import Derived.Test.YtlomlnkafakloaaDoorSyf
import Derived.Test.YtlomlnkafakloaaDoorSvD
import Derived.KernelRfl
set_option linter.unusedSimpArgs false
set_option linter.unusedVariables false
set_option linter.unnecessarySimpa false
set_option maxHeartbeats 4000000
set_option maxRecDepth 100000
namespace Go.Proofs.Sur
open Go Go.VM

noncomputable def c58 : PCtr Tryd.prog := sctr ok58 (X := Nat × List Int × Room) (fun x => [I (x.1 : Nat), .sl (ints x.2.1) x.2.1.length x.2.2]) (fun x => rok x.2.1 x.2.2 ∧ nm x.1 x.2.1.length ∧ setsOk x.1 x.2.1.length x.2.1 ∧ 1 ≤ x.2.1.length ∧ reach x.1 x.2.1.length x.2.1)
  (fun x => .agg [I (lpV x.1 x.2.1.length (bS x.2.1)).1, I (lpV x.1 x.2.1.length (bS x.2.1)).2])
  (by
    rintro ⟨n, S, r⟩ ⟨n', S', r'⟩ e _ _
    simp at e
    obtain ⟨e1, e2, _, _⟩ := e
    have e1 : n = n' := by omega
    subst e1 e2
    rfl)
  (fun x => by simp [AV.bnds, AV.bnd, AV.wk, rm_wk_bnd]) (fun x => by simp [AV.bnd, AV.bnds])
  (fun x hx => ⟨_, _, _, ct58 x.1 x.2.1.length x.2.1 x.2.2.wk ((rok_wk _ _).2 hx.1) hx.2.1 hx.2.2.1 hx.2.2.2.1, r58 x.1 x.2.1.length x.2.1 x.2.2.wk ((rok_wk _ _).2 hx.1) hx.2.1 hx.2.2.1 hx.2.2.2.1 hx.2.2.2.2⟩)
/-! what the greatest sum is -/
theorem sm_const (d : Nat) (c : Int) : sm d (fun _ => c) = d * c := by
  induction d with
  | zero => simp [sm]
  | succ d ih =>
    simp only [sm, ih]
    have : ((d + 1 : Nat) : Int) = (d : Int) + 1 := by omega
    rw [this, Int.add_mul, Int.one_mul]
/-- it is from one to the number of signals, and not of great numbers -/
theorem Cert.small {n m : Nat} {b : Nat → Nat → Bool} {z s : Int} (h : Cert n m b z s) (hb : ∀ j, j < n → ∃ i, i < m ∧ b i j = true) (h1 : 1 ≤ n) (hs : s ≤ 720) :
    1 ≤ (lpV n m b).2 ∧ (lpV n m b).2 ≤ 720 ∧ (lpV n m b).2 ≤ (lpV n m b).1 ∧ (lpV n m b).1 ≤ n * (lpV n m b).2 := by
  obtain ⟨a1, a2, a3, a4, a5, a6⟩ := h.lp
  refine ⟨by omega, by omega, ?_, ?_⟩
  · have h2 := h.lptop (x := fun j => if j = 0 then 1 else 0) (D := 1) (fun j _ => by show (0 : Int) ≤ if j = 0 then 1 else 0; split <;> decide) (fun i hi => by
      have : sm n (fun j => if b i j = true then (if j = 0 then (1 : Int) else 0) else 0) ≤ sm n (fun j => if j = 0 then 1 else 0) := sm_le n fun j _ => by
        split
        · exact Int.le_refl _
        · split <;> decide
      rw [sm_one n (f := fun j => if j = 0 then (1 : Int) else 0) (k := 0) (by omega) (fun j _ hj => if_neg hj), if_pos rfl] at this
      exact this)
    rw [sm_one n (f := fun j => if j = 0 then (1 : Int) else 0) (k := 0) (by omega) (fun j _ hj => if_neg hj), if_pos rfl] at h2
    omega
  · obtain ⟨_, ⟨x, x1, x2, x3⟩, _⟩ := h
    have hx : ∀ j, j < n → x j ≤ s := fun j hj => by
      obtain ⟨i, i1, i2⟩ := hb j hj
      have h3 := x2 i i1
      have h4 := sm_le_term (d := n) (f := fun j => -(if b i j = true then x j else 0)) (k := j) (fun k hk => by
        show -(if b i k = true then x k else 0) ≤ 0
        have := x1 k hk
        split <;> omega) hj
      rw [sm_neg, if_pos i2] at h4
      omega
    have h5 := sm_le n (f := x) (g := fun _ => s) hx
    rw [x3, sm_const] at h5
    have h6 : (lpV n m b).1 * s ≤ (n * (lpV n m b).2) * s := by
      rw [a4]
      have := Int.mul_le_mul_of_nonneg_right h5 (show 0 ≤ (lpV n m b).2 by omega)
      have e : (n : Int) * s * (lpV n m b).2 = n * (lpV n m b).2 * s := by rw [Int.mul_assoc, Int.mul_comm s, Int.mul_assoc]
      omega
    exact Int.le_of_mul_le_mul_right h6 (by
      have : 0 < s := by omega
      exact this)
/-! cliques as sets for it -/
end Go.Proofs.Sur

