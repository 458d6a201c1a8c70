/- Joined: RkAb, RkAc, RkAd, RkAw, RkBq, RkBr, RkAx. -/
import Derived.Test.YtnnhomkkggkkfaaDoorRkAa
import Derived.Test.YtnnhomkkggkkfaaDoorVm8
import Derived.KernelRfl
import Derived.Test.YtnnhomkkggkkfaaDoorRkY
import Derived.Test.YtnnhomkkggkkfaaDoorVm9
import Derived.Test.YtnnhomkkggkkfaaDoorRkAj
import Derived.Test.YtnnhomkkggkkfaaDoorRkT
set_option linter.unusedSimpArgs false
set_option linter.unusedVariables false
set_option linter.unnecessarySimpa false
section
set_option maxHeartbeats 4000000
set_option maxRecDepth 100000
namespace Go.Proofs.Rnk
open Go Go.VM
open Go.Proofs.Sur (andn andn_bit andn_le i_wrap i_and i_or i_andn i_shl i_shr bit_01)

end Go.Proofs.Rnk
end
section
set_option maxHeartbeats 4000000
set_option maxRecDepth 100000
namespace Go.Proofs.Rnk
open Go Go.VM
open Go.Proofs.Sur (andn andn_bit andn_le i_wrap i_and i_or i_andn i_shl i_shr bit_01)

def pk (t : List Int) (S : Nat) : Nat → Nat
  | 0 => 0
  | j + 1 => if rch t (el S j) = S then pk t S j ||| 2 ^ (el S j) else pk t S j
abbrev rB (t : List Int) : List AV := [.sl (ints (rws t)) t.length .no]
def gb (t : List Int) : Nat → List (List AV)
  | 0 => []
  | k + 1 => gb t k ++ [[I (rst t (k + 1) : Nat)], [I (pk t (rst t k) (pc (rst t k)) : Nat)], [I (drop1 (rst t k) (pc (rst t k)) : Nat)]]
abbrev hb (t : List Int) (k : Nat) : List (List AV) := rB t :: (gb t k ++ [[I (rst t k : Nat)]])
end Go.Proofs.Rnk
end
section
set_option maxHeartbeats 4000000
set_option maxRecDepth 100000
namespace Go.Proofs.Rnk
open Go Go.VM
open Go.Proofs.Sur (andn andn_bit andn_le i_wrap i_and i_or i_andn i_shl i_shr bit_01)

end Go.Proofs.Rnk
end
section
set_option maxRecDepth 100000
namespace Go.Proofs.Rnk
open Go Go.VM
open Go.Proofs.Sur (andn andn_bit andn_le)

abbrev bo (t : List Int) (k : Nat) : Nat := oo (sn t) (alls t.length) k
def pa (t : List Int) : Nat → Nat
  | 0 => 0
  | k + 1 => pa t k + pc (pp t (rst t k))
end Go.Proofs.Rnk
end
section
set_option maxRecDepth 100000
namespace Go.Proofs.Rnk
open Go Go.VM
open Go.Proofs.Sur (andn andn_bit andn_le)

theorem pc_and_add {a m q : Nat} (hq : q < 8) (hn : m.testBit q = false) : pc (a &&& (m ||| 2 ^ q)) = pc (a &&& m) + (a.testBit q).toNat := by
  rw [pc_sm, pc_sm (a &&& m)]
  have e : ∀ b, b < 8 → ((a &&& (m ||| 2 ^ q)).testBit b).toNat = ((a &&& m).testBit b).toNat + (if b = q then (a.testBit q).toNat else 0) := fun b _ => by
    rw [Nat.testBit_and, Nat.testBit_or, Nat.testBit_two_pow, Nat.testBit_and]
    by_cases c : b = q
    · subst c; rw [hn]; cases a.testBit b <;> simp
    · have : ¬ q = b := fun e => c e.symm
      simp [c, this]
  rw [sm_congr e, sm_add (fun b => ((a &&& m).testBit b).toNat) (fun b => if b = q then (a.testBit q).toNat else 0), sm_one, if_pos hq]
end Go.Proofs.Rnk
end
section
set_option maxHeartbeats 4000000
set_option maxRecDepth 100000
namespace Go.Proofs.Rnk
open Go Go.VM
open Go.Proofs.Sur (andn andn_bit andn_le i_wrap i_and i_or i_xor i_andn i_shl i_shr bit_01)

def rq (l : List Int) : Room := if l.length = 0 then .nil else .no
def rs1 (l : List Int) : Room := if l.length = 0 then .nil else .full
theorem rq_c (l : List Int) : (rq l = .nil ∧ l = []) ∨ (rq l = .no ∧ l ≠ []) := by
  cases l with
  | nil => exact .inl ⟨rfl, rfl⟩
  | cons x l => exact .inr ⟨rfl, by simp⟩
@[simp] theorem rq_bnd (l : List Int) (n : Nat) : (rq l).bnd n = true := by rcases rq_c l with ⟨e, _⟩ | ⟨e, _⟩ <;> rw [e] <;> rfl
theorem rq_rok (l : List Int) : rok l (rq l) := fun h => by rcases rq_c l with ⟨e, h'⟩ | ⟨e, _⟩
                                                            · exact absurd h' h
                                                            · rw [e]; decide
abbrev lq (l : List Int) : AV := .sl (ints l) l.length (rq l)
abbrev hQ (best : Nat) (o : List Int) (T : List Nat) : H := ⟨[[I best], [lq o]], T, []⟩
theorem sl_q {P : Program} {t : TypeId} (hu : (elemT P t).bind (sizeT P) = some 1) {b : List Int} {H : H} : aSlice P t (lq b) none (some (I b.length)) (some (I b.length)) H = some (.sl (ints b) b.length (rs1 b)) := by
  cases he : elemT P t with
  | none => rw [he] at hu; cases hu
  | some e =>
    rw [he] at hu
    have hs : sizeT P e = some 1 := hu
    have hb : aBounds b.length none (some ((b.length : Nat) : Int)) = some (0, b.length) := by simp [aBounds]
    rcases rq_c b with ⟨q, rfl⟩ | ⟨q, h⟩
    · simp [aSlice, intOf?, he, hs, q, aBounds, rs1, ints]
    · have h0 : b.length ≠ 0 := fun e => h (List.length_eq_zero_iff.1 e)
      have hi : intOf? (some (I (b.length : Nat))) = some (some ((b.length : Nat) : Int)) := rfl
      have hn : intOf? (none : Option AV) = some none := rfl
      simp only [aSlice, hi, hn, he, hs, hb, q]
      simp [rs1, h0, ints]
      exact List.take_of_length_le (by simp)
end Go.Proofs.Rnk
end
section
set_option maxHeartbeats 4000000
set_option maxRecDepth 100000
namespace Go.Proofs.Rnk
open Go Go.VM
open Go.Proofs.Sur (andn andn_bit andn_le i_wrap i_and i_or i_xor i_andn i_shl i_shr bit_01)

theorem OB.pos {n : Nat} {o : List Int} (h : OB n o) {k : Nat} (hk : k < n) : 0 ≤ o.getD k i0 ∧ o.getD k i0 < (n : Int) ∧ ofn o k < n ∧ ((ofn o k : Nat) : Int) = o.getD k i0 := by
  have hd := h.h.h k (by rw [h.le]; exact hk)
  have h1 := hd.a; have h2 := hd.b
  simp only [ofn]; omega
theorem OB.inj {n : Nat} {o : List Int} (h : OB n o) {j k : Nat} (hj : j < k) (hk : k < n) : ofn o j ≠ ofn o k := fun e => by
  have hd := (h.h.h k (by rw [h.le]; exact hk)).d
  have h1 := (h.pos (show j < n by omega)).2.2.2
  have h2 := (h.pos hk).2.2.2
  apply hd
  have hjl : j < o.length := by rw [h.le]; omega
  have e' : o.getD j i0 = o.getD k i0 := by omega
  rw [← e']
  have : (o.take k)[j]? = some (o.getD j i0) := by
    rw [List.getElem?_take, if_pos hj, List.getD_eq_getElem?_getD, List.getElem?_eq_getElem hjl]; rfl
  exact List.mem_of_getElem? this
structure OPs (t o l : List Int) (ro rl : Room) : Prop where
  ol : o.length = t.length
  og : ∀ k, k < t.length → o.getD k i0 = ((bo t k : Nat) : Int)
  or : rok o ro
  ll : l.length = mP t
  lg : ∀ k, k < mP t → l.getD k i0 = ((pp t (rst t k) : Nat) : Int)
  lr : rok l rl
end Go.Proofs.Rnk
end
