/- Joined: RkAr, RkAs, RkAt, RkAu, RkX, OrM. -/
import Derived.Test.YtnnhomkkggkkfaaDoorRkAm
import Derived.Test.YtnnhomkkggkkfaaDoorRkT
import Derived.Test.YtnnhomkkggkkfaaDoorVm9
import Derived.Test.YtnnhomkkggkkfaaDoorVm8
import Derived.KernelRfl
import Derived.Test.YtnnhomkkggkkfaaDoorRkD
import Derived.Test.YtnnhomkkggkkfaaDoorRkR
import Derived.Test.YtnnhomkkggkkfaaDoorRkJ
import Derived.Test.YtnnhomkkggkkfaaDoorSuM
set_option linter.unusedSimpArgs false
set_option linter.unusedVariables false
set_option linter.unnecessarySimpa false
section
set_option maxHeartbeats 4000000
set_option maxRecDepth 100000
namespace Go.Proofs.Rnk
open Go Go.VM
open Go.Proofs.Sur (andn andn_bit andn_le i_wrap i_and i_or i_andn i_shl i_shr bit_01)

abbrev prI (x : Nat × Nat) : Pr := ((x.1 : Int), (x.2 : Int))
def tbl (A : Nat → Nat) (n j : Nat) : List Pr := (List.range n).map fun x => prI (tb A j x)
@[simp] theorem tbl_len (A : Nat → Nat) (n j : Nat) : (tbl A n j).length = n := by simp [tbl]
end Go.Proofs.Rnk
end
section
set_option maxHeartbeats 4000000
set_option maxRecDepth 100000
namespace Go.Proofs.Rnk
open Go Go.VM
open Go.Proofs.Sur (andn andn_bit andn_le i_wrap i_and i_or i_andn i_shl i_shr bit_01)

def oL (t : List Int) (k : Nat) : List Int := (List.range k).map fun i => ((oo (sn t) (alls t.length) i : Nat) : Int)
@[simp] theorem oL_len (t : List Int) (k : Nat) : (oL t k).length = k := by simp [oL]
end Go.Proofs.Rnk
end
section
set_option maxHeartbeats 4000000
set_option maxRecDepth 100000
namespace Go.Proofs.Rnk
open Go Go.VM
open Go.Proofs.Sur (andn andn_bit andn_le i_wrap i_and i_or i_andn i_shl i_shr bit_01)

/-! ### is it an order? -/
structure OD (n : Nat) (l : List Int) (k : Nat) : Prop where
  a : 0 ≤ l.getD k i0
  b : l.getD k i0 < (n : Int)
  d : l.getD k i0 ∉ l.take k
structure OS (n : Nat) (l : List Int) : Prop where
  h : ∀ k, k < l.length → OD n l k
structure OB (n : Nat) (l : List Int) : Prop where
  le : l.length = n
  h : OS n l
end Go.Proofs.Rnk
end
section
set_option maxHeartbeats 4000000
set_option maxRecDepth 100000
namespace Go.Proofs.Rnk
open Go Go.VM
open Go.Proofs.Sur (andn andn_bit andn_le i_wrap i_and i_or i_andn i_shl i_shr bit_01)

abbrev ofn (o : List Int) (k : Nat) : Nat := (o.getD k i0).toNat
theorem OB.way {n : Nat} {o : List Int} (h : OB n o) (h8 : n ≤ 8) : way (alls n) (ofn o) n := fun k hk => by
  rw [rs_bit (alls_lt h8) k, alls_bit]
  have hl := h.le
  have hd := h.h.h k (by omega)
  have h1 := hd.a
  have h2 := hd.b
  refine ⟨by simp only [ofn, decide_eq_true_eq]; omega, fun j hj e => hd.d ?_⟩
  have h3 := (h.h.h j (by omega)).a
  have e' : o.getD j i0 = o.getD k i0 := by simp only [ofn] at e; omega
  rw [← e']
  have hjl : j < o.length := by omega
  have : (o.take k)[j]? = some (o.getD j i0) := by
    rw [List.getElem?_take, if_pos hj, List.getD_eq_getElem?_getD, List.getElem?_eq_getElem hjl]; rfl
  exact List.mem_of_getElem? this
theorem ix_intsI {P : Program} {t : TypeId} (hu : (elemT P t).bind (sizeT P) = some 1) {l : List Int} {n : Nat} {r : Room} {k : IntKind} {i : Int} (h0 : 0 ≤ i) (h : i < n) (hr : r ≠ .nil) :
    aIndexAddr P t (.sl (ints l) n r) (.int k i) = some (.cptr (ints (l.drop i.toNat))) := by
  obtain ⟨m, rfl⟩ : ∃ m : Nat, i = m := ⟨i.toNat, by omega⟩
  exact ix_ints hu (by omega) hr
end Go.Proofs.Rnk
end
section
set_option maxHeartbeats 4000000
set_option maxRecDepth 100000
namespace Go.Proofs.Rnk
open Go Go.VM
open Go.Proofs.Sur (andn andn_bit andn_le i_wrap i_and i_or i_andn i_shl i_shr bit_01)

end Go.Proofs.Rnk
end
section
namespace Go.Proofs.Ord
open Go Go.VM

abbrev Rel := Nat → Nat
abbrev ab (A : Rel) (i j : Nat) : Prop := (A i).testBit j = true
def Tr (A : Rel) : Prop := ∀ i j k, ab A i j → ab A j k → ab A i k
def Irr (A : Rel) : Prop := ∀ i, ¬ ab A i i
def Rg (n : Nat) (A : Rel) : Prop := (∀ i, A i < 2 ^ n) ∧ ∀ i, n ≤ i → A i = 0
theorem Rg.bit {n : Nat} {A : Rel} (h : Rg n A) {i j : Nat} (k : ab A i j) : i < n ∧ j < n := by
  constructor
  · rcases Nat.lt_or_ge i n with q | q
    · exact q
    · rw [ab, h.2 i q] at k; simp at k
  · rcases Nat.lt_or_ge j n with q | q
    · exact q
    · have := Nat.testBit_lt_two_pow (Nat.lt_of_lt_of_le (h.1 i) (Nat.pow_le_pow_right (by decide) q))
      rw [ab, this] at k; cases k
def W1 (A : Rel) (v : Nat) : Rel := fun e => if (A e).testBit v then A e ||| A v else A e
theorem W1_ab {A : Rel} {v e t : Nat} : ab (W1 A v) e t ↔ ab A e t ∨ ab A e v ∧ ab A v t := by
  simp only [ab, W1]
  split <;> rename_i h
  · simp [h]
  · simp [h]
def W1j (A : Rel) (v j : Nat) : Rel := fun e => if e < j then W1 A v e else A e
theorem W1j_0 (A : Rel) (v : Nat) : W1j A v 0 = A := by funext e; simp [W1j]
theorem W1_self (A : Rel) (v : Nat) : W1 A v v = A v := by simp [W1]
theorem W1j_v (A : Rel) (v j : Nat) : W1j A v j v = A v := by
  simp only [W1j]; split
  · exact W1_self A v
  · rfl
def Wn (A : Rel) : Nat → Rel
  | 0 => A
  | k + 1 => W1 (Wn A k) k
theorem Wn_mono {A : Rel} {k e t : Nat} (h : ab A e t) : ab (Wn A k) e t := by
  induction k with
  | zero => exact h
  | succ k ih => exact W1_ab.2 (.inl ih)
theorem Wn_via {A : Rel} : ∀ (k : Nat) {v a b : Nat}, v < k → ab (Wn A k) a v → ab (Wn A k) v b → ab (Wn A k) a b
  | 0, v, _, _, h, _, _ => by omega
  | k + 1, v, a, b, h, p, q => by
    rw [Wn] at p q ⊢
    rw [W1_ab] at p q ⊢
    have ih := @Wn_via A k
    rcases Nat.lt_or_ge v k with hv | hv
    · rcases p with p | ⟨p1, p2⟩
      · rcases q with q | ⟨q1, q2⟩
        · exact .inl (ih hv p q)
        · exact .inr ⟨ih hv p q1, q2⟩
      · rcases q with q | ⟨q1, q2⟩
        · exact .inr ⟨p1, ih hv p2 q⟩
        · exact .inr ⟨p1, q2⟩
    · have : v = k := by omega
      subst this
      have p' : ab (Wn A v) a v := by rcases p with p | ⟨p, _⟩ <;> exact p
      have q' : ab (Wn A v) v b := by rcases q with q | ⟨_, q⟩ <;> exact q
      exact .inr ⟨p', q'⟩
theorem W1_rg {n : Nat} {A : Rel} (h : Rg n A) (v : Nat) : Rg n (W1 A v) := by
  refine ⟨fun i => ?_, fun i hi => ?_⟩
  · simp only [W1]; split
    · exact Nat.or_lt_two_pow (h.1 i) (h.1 v)
    · exact h.1 i
  · simp [W1, h.2 i hi]
theorem Wn_rg {n : Nat} {A : Rel} (h : Rg n A) : ∀ k, Rg n (Wn A k)
  | 0 => h
  | k + 1 => W1_rg (Wn_rg h k) k
theorem Wn_tr {n : Nat} {A : Rel} (h : Rg n A) : Tr (Wn A n) := fun _ _ _ p q => Wn_via n ((Wn_rg h n).bit p).2 p q
theorem Wn_least {A B : Rel} (hB : Tr B) (h : ∀ i j, ab A i j → ab B i j) : ∀ k i j, ab (Wn A k) i j → ab B i j
  | 0, i, j, p => h i j p
  | k + 1, i, j, p => by
    rcases W1_ab.1 p with p | ⟨p, q⟩
    · exact Wn_least hB h k i j p
    · exact hB _ _ _ (Wn_least hB h k _ _ p) (Wn_least hB h k _ _ q)
structure Od (n : Nat) (A : Rel) : Prop where
  rg : Rg n A
  tr : Tr A
  irr : Irr A
end Go.Proofs.Ord
end
