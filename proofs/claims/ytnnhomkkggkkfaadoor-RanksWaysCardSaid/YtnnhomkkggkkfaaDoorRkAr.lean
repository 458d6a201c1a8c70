/- Joined: RkAr, RkAs, RkAt, RkAu, RkX, OrM. -/
import Derived.Test.YtnnhomkkggkkfaaDoorRkAm
import Derived.Test.YtnnhomkkggkkfaaDoorRkT
import Derived.Test.YtnnhomkkggkkfaaDoorVm9
import Derived.Test.YtnnhomkkggkkfaaDoorVm8
import Derived.KernelRfl
import Derived.Test.YtnnhomkkggkkfaaDoorRkD
import Derived.Test.YtnnhomkkggkkfaaDoorRkR
import Derived.Test.YtnnhomkkggkkfaaDoorRkJ
import Derived.Test.YtnnhomkkggkkfaaDoorSuM
set_option linter.unusedSimpArgs false
set_option linter.unusedVariables false
set_option linter.unnecessarySimpa false
section
set_option maxHeartbeats 4000000
set_option maxRecDepth 100000
namespace Go.Proofs.Rnk
open Go Go.VM
open Go.Proofs.Sur (andn andn_bit andn_le i_wrap i_and i_or i_andn i_shl i_shr bit_01)

abbrev prI (x : Nat × Nat) : Pr := ((x.1 : Int), (x.2 : Int))
def tbl (A : Nat → Nat) (n j : Nat) : List Pr := (List.range n).map fun x => prI (tb A j x)
@[simp] theorem tbl_len (A : Nat → Nat) (n j : Nat) : (tbl A n j).length = n := by simp [tbl]
end Go.Proofs.Rnk
end
section
set_option maxHeartbeats 4000000
set_option maxRecDepth 100000
namespace Go.Proofs.Rnk
open Go Go.VM
open Go.Proofs.Sur (andn andn_bit andn_le i_wrap i_and i_or i_andn i_shl i_shr bit_01)

def oL (t : List Int) (k : Nat) : List Int := (List.range k).map fun i => ((oo (sn t) (alls t.length) i : Nat) : Int)
@[simp] theorem oL_len (t : List Int) (k : Nat) : (oL t k).length = k := by simp [oL]
end Go.Proofs.Rnk
end
section
set_option maxHeartbeats 4000000
set_option maxRecDepth 100000
namespace Go.Proofs.Rnk
open Go Go.VM
open Go.Proofs.Sur (andn andn_bit andn_le i_wrap i_and i_or i_andn i_shl i_shr bit_01)

/-! ### is it an order? -/
structure OD (n : Nat) (l : List Int) (k : Nat) : Prop where
  a : 0 ≤ l.getD k i0
  b : l.getD k i0 < (n : Int)
  d : l.getD k i0 ∉ l.take k
structure OS (n : Nat) (l : List Int) : Prop where
  h : ∀ k, k < l.length → OD n l k
structure OB (n : Nat) (l : List Int) : Prop where
  le : l.length = n
  h : OS n l
end Go.Proofs.Rnk
end
section
set_option maxHeartbeats 4000000
set_option maxRecDepth 100000
namespace Go.Proofs.Rnk
open Go Go.VM
open Go.Proofs.Sur (andn andn_bit andn_le i_wrap i_and i_or i_andn i_shl i_shr bit_01)

abbrev ofn (o : List Int) (k : Nat) : Nat := (o.getD k i0).toNat
theorem OB.way {n : Nat} {o : List Int} (h : OB n o) (h8 : n ≤ 8) : way (alls n) (ofn o) n := fun k hk => by
  rw [rs_bit (alls_lt h8) k, alls_bit]
  have hl := h.le
  have hd := h.h.h k (by omega)
  have h1 := hd.a
  have h2 := hd.b
  refine ⟨by simp only [ofn, decide_eq_true_eq]; omega, fun j hj e => hd.d ?_⟩
  have h3 := (h.h.h j (by omega)).a
  have e' : o.getD j i0 = o.getD k i0 := by simp only [ofn] at e; omega
  rw [← e']
  have hjl : j < o.length := by omega
  have : (o.take k)[j]? = some (o.getD j i0) := by
    rw [List.getElem?_take, if_pos hj, List.getD_eq_getElem?_getD, List.getElem?_eq_getElem hjl]; rfl
  exact List.mem_of_getElem? this
theorem ix_intsI {P : Program} {t : TypeId} (hu : (elemT P t).bind (sizeT P) = some 1) {l : List Int} {n : Nat} {r : Room} {k : IntKind} {i : Int} (h0 : 0 ≤ i) (h : i < n) (hr : r ≠ .nil) :
    aIndexAddr P t (.sl (ints l) n r) (.int k i) = some (.cptr (ints (l.drop i.toNat))) := by
  obtain ⟨m, rfl⟩ : ∃ m : Nat, i = m := ⟨i.toNat, by omega⟩
  exact ix_ints hu (by omega) hr
theorem em_wk {l : List Int} {r : Room} (h : em l r) : em l r.wk := fun e => by
  cases r <;> first | (cases e; done) | exact h rfl
end Go.Proofs.Rnk
end
section
set_option maxHeartbeats 4000000
set_option maxRecDepth 100000
namespace Go.Proofs.Rnk
open Go Go.VM
open Go.Proofs.Sur (andn andn_bit andn_le i_wrap i_and i_or i_andn i_shl i_shr bit_01)

end Go.Proofs.Rnk
end
section
namespace Go.Proofs.Ord
open Go Go.VM

abbrev Rel := Nat → Nat
abbrev ab (A : Rel) (i j : Nat) : Prop := (A i).testBit j = true
def Tr (A : Rel) : Prop := ∀ i j k, ab A i j → ab A j k → ab A i k
def Irr (A : Rel) : Prop := ∀ i, ¬ ab A i i
def Rg (n : Nat) (A : Rel) : Prop := (∀ i, A i < 2 ^ n) ∧ ∀ i, n ≤ i → A i = 0
structure Od (n : Nat) (A : Rel) : Prop where
  rg : Rg n A
  tr : Tr A
  irr : Irr A
end Go.Proofs.Ord
end
