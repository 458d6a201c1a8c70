/- Joined: RkAw, RkBq, RkBr, RkAx, RkBw. -/
import Derived.Test.YtnnhomkkggkkfaaDoorRkAj
import Derived.Test.YtnnhomkkggkkfaaDoorRkAd
import Derived.Test.YtnnhomkkggkkfaaDoorRkT
import Derived.Test.YtnnhomkkggkkfaaDoorVm9
import Derived.KernelRfl
set_option linter.unusedSimpArgs false
set_option linter.unusedVariables false
set_option linter.unnecessarySimpa false
section
set_option maxRecDepth 100000
namespace Go.Proofs.Rnk
open Go Go.VM
open Go.Proofs.Sur (andn andn_bit andn_le)

abbrev bo (t : List Int) (k : Nat) : Nat := oo (sn t) (alls t.length) k
def pa (t : List Int) : Nat → Nat
  | 0 => 0
  | k + 1 => pa t k + pc (pp t (rst t k))
end Go.Proofs.Rnk
end
section
set_option maxRecDepth 100000
namespace Go.Proofs.Rnk
open Go Go.VM
open Go.Proofs.Sur (andn andn_bit andn_le)

theorem pc_and_add {a m q : Nat} (hq : q < 8) (hn : m.testBit q = false) : pc (a &&& (m ||| 2 ^ q)) = pc (a &&& m) + (a.testBit q).toNat := by
  rw [pc_sm, pc_sm (a &&& m)]
  have e : ∀ b, b < 8 → ((a &&& (m ||| 2 ^ q)).testBit b).toNat = ((a &&& m).testBit b).toNat + (if b = q then (a.testBit q).toNat else 0) := fun b _ => by
    rw [Nat.testBit_and, Nat.testBit_or, Nat.testBit_two_pow, Nat.testBit_and]
    by_cases c : b = q
    · subst c; rw [hn]; cases a.testBit b <;> simp
    · have : ¬ q = b := fun e => c e.symm
      simp [c, this]
  rw [sm_congr e, sm_add (fun b => ((a &&& m).testBit b).toNat) (fun b => if b = q then (a.testBit q).toNat else 0), sm_one, if_pos hq]
end Go.Proofs.Rnk
end
section
set_option maxHeartbeats 4000000
set_option maxRecDepth 100000
namespace Go.Proofs.Rnk
open Go Go.VM
open Go.Proofs.Sur (andn andn_bit andn_le i_wrap i_and i_or i_xor i_andn i_shl i_shr bit_01)

def rq (l : List Int) : Room := if l.length = 0 then .nil else .no
theorem rq_c (l : List Int) : (rq l = .nil ∧ l = []) ∨ (rq l = .no ∧ l ≠ []) := by
  cases l with
  | nil => exact .inl ⟨rfl, rfl⟩
  | cons x l => exact .inr ⟨rfl, by simp⟩
@[simp] theorem rq_bnd (l : List Int) (n : Nat) : (rq l).bnd n = true := by rcases rq_c l with ⟨e, _⟩ | ⟨e, _⟩ <;> rw [e] <;> rfl
abbrev lq (l : List Int) : AV := .sl (ints l) l.length (rq l)
abbrev hQ (best : Nat) (o : List Int) (T : List Nat) : H := ⟨[[I best], [lq o]], T, []⟩
end Go.Proofs.Rnk
end
section
set_option maxHeartbeats 4000000
set_option maxRecDepth 100000
namespace Go.Proofs.Rnk
open Go Go.VM
open Go.Proofs.Sur (andn andn_bit andn_le i_wrap i_and i_or i_xor i_andn i_shl i_shr bit_01)

theorem OB.pos {n : Nat} {o : List Int} (h : OB n o) {k : Nat} (hk : k < n) : 0 ≤ o.getD k i0 ∧ o.getD k i0 < (n : Int) ∧ ofn o k < n ∧ ((ofn o k : Nat) : Int) = o.getD k i0 := by
  have hd := h.h.h k (by rw [h.le]; exact hk)
  have h1 := hd.a; have h2 := hd.b
  simp only [ofn]; omega
theorem OB.inj {n : Nat} {o : List Int} (h : OB n o) {j k : Nat} (hj : j < k) (hk : k < n) : ofn o j ≠ ofn o k := fun e => by
  have hd := (h.h.h k (by rw [h.le]; exact hk)).d
  have h1 := (h.pos (show j < n by omega)).2.2.2
  have h2 := (h.pos hk).2.2.2
  apply hd
  have hjl : j < o.length := by rw [h.le]; omega
  have e' : o.getD j i0 = o.getD k i0 := by omega
  rw [← e']
  have : (o.take k)[j]? = some (o.getD j i0) := by
    rw [List.getElem?_take, if_pos hj, List.getD_eq_getElem?_getD, List.getElem?_eq_getElem hjl]; rfl
  exact List.mem_of_getElem? this
structure OPs (t o l : List Int) (ro rl : Room) : Prop where
  ol : o.length = t.length
  og : ∀ k, k < t.length → o.getD k i0 = ((bo t k : Nat) : Int)
  or : rok o ro
  ll : l.length = mP t
  lg : ∀ k, k < mP t → l.getD k i0 = ((pp t (rst t k) : Nat) : Int)
  lr : rok l rl
end Go.Proofs.Rnk
end
section
set_option maxHeartbeats 4000000
set_option maxRecDepth 100000
namespace Go.Proofs.Rnk
open Go Go.VM
open Go.Proofs.Sur (andn andn_bit andn_le i_wrap i_and i_or i_xor i_andn i_shl i_shr bit_01)

abbrev lastN (b : List Int) : Nat := (b.getD (b.length - 1) i0).toNat
abbrev frsN (b : List Int) : Nat := (b.getD 0 i0).toNat
def fol (A : Nat → Nat) (b : List Int) (m i : Nat) : Bool := !m.testBit i && (decide (b = []) || (A (lastN b)).testBit i)
def wyM (A : Nat → Nat) (n : Nat) (rd : Bool) : Nat → List Int → Nat → Option (List Int)
  | 0, b, _ => if rd && !(A (lastN b)).testBit (frsN b) then none else some b
  | f + 1, b, m => (List.range n).foldl (fun r i => r.or (if fol A b m i then wyM A n rd f (b ++ [(i : Int)]) (m ||| 2 ^ i) else none)) none
def fRw (A : Nat → Nat) (n : Nat) (rd : Bool) (f : Nat) (b : List Int) (m : Nat) : Nat → Option (List Int)
  | 0 => none
  | k + 1 => (fRw A n rd f b m k).or (if fol A b m k then wyM A n rd f (b ++ [(k : Int)]) (m ||| 2 ^ k) else none)
theorem fRw_fold {A : Nat → Nat} {n : Nat} {rd : Bool} {f : Nat} {b : List Int} {m : Nat} : ∀ k, (List.range k).foldl (fun r i => r.or (if fol A b m i then wyM A n rd f (b ++ [(i : Int)]) (m ||| 2 ^ i) else none)) none = fRw A n rd f b m k
  | 0 => rfl
  | k + 1 => by rw [List.range_succ, List.foldl_append, fRw_fold k]; rfl
theorem wyM_go {A : Nat → Nat} {n : Nat} {rd : Bool} {f : Nat} {b : List Int} {m : Nat} : wyM A n rd (f + 1) b m = fRw A n rd f b m n := by rw [wyM, fRw_fold]
theorem fRw_some {A : Nat → Nat} {n : Nat} {rd : Bool} {f : Nat} {b : List Int} {m : Nat} {l : List Int} {k : Nat} (h : fRw A n rd f b m k = some l) : ∀ j, fRw A n rd f b m (k + j) = some l
  | 0 => h
  | j + 1 => by rw [← Nat.add_assoc, fRw, fRw_some h j]; rfl
abbrev inN (n : Nat) (b : List Int) : Prop := ∀ j, j < b.length → 0 ≤ b.getD j i0 ∧ b.getD j i0 < (n : Int)
structure WyP (t b : List Int) (r : Room) (f k m : Nat) : Prop where
  h : Tn t
  r : rok t r
  l : b.length + f = k
  k1 : 1 ≤ k
  k8 : k ≤ 8
  m : m < 256
  i : inN t.length b
theorem WyP.next {t b : List Int} {r : Room} {f k m i : Nat} (p : WyP t b r (f + 1) k m) (hi : i < t.length) : WyP t (b ++ [(i : Int)]) r f k (m ||| 2 ^ i) where
  h := p.h
  r := p.r
  l := by have := p.l; simp only [List.length_append, List.length_cons, List.length_nil]; omega
  k1 := p.k1
  k8 := p.k8
  m := Nat.or_lt_two_pow (n := 8) p.m (Nat.pow_lt_pow_right (by decide) (by have := p.h.s.2; omega))
  i := fun j hj => by
    simp only [List.length_append, List.length_cons, List.length_nil] at hj
    by_cases c : j < b.length
    · have : (b ++ [(i : Int)]).getD j i0 = b.getD j i0 := by simp only [List.getD_eq_getElem?_getD, List.getElem?_append_left c]
      rw [this]; exact p.i j c
    · have e : j = b.length := by omega
      subst e
      have : (b ++ [(i : Int)]).getD b.length i0 = (i : Int) := by simp [List.getD_eq_getElem?_getD]
      rw [this]; omega
end Go.Proofs.Rnk
end
