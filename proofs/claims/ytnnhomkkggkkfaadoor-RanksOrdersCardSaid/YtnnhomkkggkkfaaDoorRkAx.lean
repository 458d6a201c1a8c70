/- Layer 2: in the best order parts stand together. -/
import Derived.Test.YtnnhomkkggkkfaaDoorRkAw
import Derived.Test.YtnnhomkkggkkfaaDoorRkI
import Derived.KernelRfl
set_option linter.unusedSimpArgs false
set_option linter.unusedVariables false
set_option linter.unnecessarySimpa false
set_option maxHeartbeats 4000000
set_option maxRecDepth 100000
namespace Go.Proofs.Rnk
open Go Go.VM
open Go.Proofs.Sur (andn andn_bit andn_le i_wrap i_and i_or i_xor i_andn i_shl i_shr bit_01)

theorem pw_shlO {x : Int} (h0 : 0 ≤ x) (h : x ≤ 62) : IntKind.i64.wrap (1 * 2 ^ min x.toNat IntKind.i64.bits) = ((2 ^ x.toNat : Nat) : Int) := by
  obtain ⟨n, rfl⟩ : ∃ n : Nat, x = n := ⟨x.toNat, by omega⟩
  exact pw_shl (n := n) (by omega)
theorem OB.pos {n : Nat} {o : List Int} (h : OB n o) {k : Nat} (hk : k < n) : 0 ≤ o.getD k i0 ∧ o.getD k i0 < (n : Int) ∧ ofn o k < n ∧ ((ofn o k : Nat) : Int) = o.getD k i0 := by
  have hd := h.h.h k (by rw [h.le]; exact hk)
  have h1 := hd.a; have h2 := hd.b
  simp only [ofn]; omega
theorem OB.inj {n : Nat} {o : List Int} (h : OB n o) {j k : Nat} (hj : j < k) (hk : k < n) : ofn o j ≠ ofn o k := fun e => by
  have hd := (h.h.h k (by rw [h.le]; exact hk)).d
  have h1 := (h.pos (show j < n by omega)).2.2.2
  have h2 := (h.pos hk).2.2.2
  apply hd
  have hjl : j < o.length := by rw [h.le]; omega
  have e' : o.getD j i0 = o.getD k i0 := by omega
  rw [← e']
  have : (o.take k)[j]? = some (o.getD j i0) := by
    rw [List.getElem?_take, if_pos hj, List.getD_eq_getElem?_getD, List.getElem?_eq_getElem hjl]; rfl
  exact List.mem_of_getElem? this
theorem simp39 : allSimpleM none1 (loopAt Tryd.f39 0) = true := by kernel_rfl
theorem ok39 : FokM Tryd.prog none1 39 Tryd.f39 := ⟨mixed, by kernel_rfl, by kernel_rfl, by kernel_rfl, by kernel_rfl⟩
/-- the best order and the parts, as lists -/
structure OPs (t o l : List Int) (ro rl : Room) : Prop where
  ol : o.length = t.length
  og : ∀ k, k < t.length → o.getD k i0 = ((bo t k : Nat) : Int)
  or : rok o ro
  ll : l.length = mP t
  lg : ∀ k, k < mP t → l.getD k i0 = ((pp t (rst t k) : Nat) : Int)
  lr : rok l rl
end Go.Proofs.Rnk

