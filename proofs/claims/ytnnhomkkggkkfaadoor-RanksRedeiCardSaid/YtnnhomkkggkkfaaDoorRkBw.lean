/- Joined: RkBw, RkBx, RkBa, RkBb, RkBc, RkBd, RkBe, RkBf. -/
import Derived.Test.YtnnhomkkggkkfaaDoorRkAb
import Derived.KernelRfl
import Derived.Test.YtnnhomkkggkkfaaDoorRkT
import Derived.Test.YtnnhomkkggkkfaaDoorVm8
import Derived.Test.YtnnhomkkggkkfaaDoorVm9
import Derived.Test.YtnnhomkkggkkfaaDoorRkAr
set_option linter.unusedSimpArgs false
set_option linter.unusedVariables false
set_option linter.unnecessarySimpa false
section
set_option maxHeartbeats 4000000
set_option maxRecDepth 100000
namespace Go.Proofs.Rnk
open Go Go.VM
open Go.Proofs.Sur (andn andn_bit andn_le i_wrap i_and i_or i_xor i_andn i_shl i_shr bit_01)

abbrev lastN (b : List Int) : Nat := (b.getD (b.length - 1) i0).toNat
abbrev frsN (b : List Int) : Nat := (b.getD 0 i0).toNat
/-- may a player follow? -/
def fol (A : Nat → Nat) (b : List Int) (m i : Nat) : Bool := !m.testBit i && (decide (b = []) || (A (lastN b)).testBit i)
/-- the first row that begins so -/
def wyM (A : Nat → Nat) (n : Nat) (rd : Bool) : Nat → List Int → Nat → Option (List Int)
  | 0, b, _ => if rd && !(A (lastN b)).testBit (frsN b) then none else some b
  | f + 1, b, m => (List.range n).foldl (fun r i => r.or (if fol A b m i then wyM A n rd f (b ++ [(i : Int)]) (m ||| 2 ^ i) else none)) none
def fRw (A : Nat → Nat) (n : Nat) (rd : Bool) (f : Nat) (b : List Int) (m : Nat) : Nat → Option (List Int)
  | 0 => none
  | k + 1 => (fRw A n rd f b m k).or (if fol A b m k then wyM A n rd f (b ++ [(k : Int)]) (m ||| 2 ^ k) else none)
theorem fRw_fold {A : Nat → Nat} {n : Nat} {rd : Bool} {f : Nat} {b : List Int} {m : Nat} : ∀ k, (List.range k).foldl (fun r i => r.or (if fol A b m i then wyM A n rd f (b ++ [(i : Int)]) (m ||| 2 ^ i) else none)) none = fRw A n rd f b m k
  | 0 => rfl
  | k + 1 => by rw [List.range_succ, List.foldl_append, fRw_fold k]; rfl
theorem wyM_go {A : Nat → Nat} {n : Nat} {rd : Bool} {f : Nat} {b : List Int} {m : Nat} : wyM A n rd (f + 1) b m = fRw A n rd f b m n := by rw [wyM, fRw_fold]
theorem fRw_some {A : Nat → Nat} {n : Nat} {rd : Bool} {f : Nat} {b : List Int} {m : Nat} {l : List Int} {k : Nat} (h : fRw A n rd f b m k = some l) : ∀ j, fRw A n rd f b m (k + j) = some l
  | 0 => h
  | j + 1 => by rw [← Nat.add_assoc, fRw, fRw_some h j]; rfl
abbrev inN (n : Nat) (b : List Int) : Prop := ∀ j, j < b.length → 0 ≤ b.getD j i0 ∧ b.getD j i0 < (n : Int)
structure WyP (t b : List Int) (r : Room) (f k m : Nat) : Prop where
  h : Tn t
  r : rok t r
  l : b.length + f = k
  k1 : 1 ≤ k
  k8 : k ≤ 8
  m : m < 256
  i : inN t.length b
theorem WyP.next {t b : List Int} {r : Room} {f k m i : Nat} (p : WyP t b r (f + 1) k m) (hi : i < t.length) : WyP t (b ++ [(i : Int)]) r f k (m ||| 2 ^ i) where
  h := p.h
  r := p.r
  l := by have := p.l; simp only [List.length_append, List.length_cons, List.length_nil]; omega
  k1 := p.k1
  k8 := p.k8
  m := Nat.or_lt_two_pow (n := 8) p.m (Nat.pow_lt_pow_right (by decide) (by have := p.h.s.2; omega))
  i := fun j hj => by
    simp only [List.length_append, List.length_cons, List.length_nil] at hj
    by_cases c : j < b.length
    · have : (b ++ [(i : Int)]).getD j i0 = b.getD j i0 := by simp only [List.getD_eq_getElem?_getD, List.getElem?_append_left c]
      rw [this]; exact p.i j c
    · have e : j = b.length := by omega
      subst e
      have : (b ++ [(i : Int)]).getD b.length i0 = (i : Int) := by simp [List.getD_eq_getElem?_getD]
      rw [this]; omega
end Go.Proofs.Rnk
end
section
set_option maxHeartbeats 4000000
set_option maxRecDepth 100000
namespace Go.Proofs.Rnk
open Go Go.VM

theorem leaveW2 (l : List Int) (e : Int) : leave ⟨0, 0, 0⟩ (.tup [ls l .no, I e]) .nil = (.tup [ls l .no, I e], .nil) := by
  have hb : AV.bnds 0 0 0 (ints l) = true := enc_bnds ints_c1 l 0 0 0
  simp [leave, AV.bnd, AV.bnds, hb, Room.bnd]
/-- the first row of k -/
abbrev rowR (t : List Int) (k : Nat) (rd : Bool) : Option (List Int) := wyM (sn t) t.length rd k [] 0
end Go.Proofs.Rnk
end
section
set_option maxHeartbeats 4000000
set_option maxRecDepth 100000
namespace Go.Proofs.Rnk
open Go Go.VM
open Go.Proofs.Sur (andn andn_bit andn_le i_wrap i_and i_or i_andn i_shl i_shr bit_01)

/-- in order -/
structure Srt (s : List Int) (n : Nat) : Prop where
  h : ∀ k, n < k + 1 → k + 1 < s.length → s.getD k i0 ≤ s.getD (k + 1) i0
structure Sc8 (s : List Int) : Prop where
  h : ∀ k, k < s.length → 0 ≤ s.getD k i0 ∧ s.getD k i0 < 8
/-- scores -/
structure SB (s : List Int) : Prop where
  l1 : 1 ≤ s.length
  l8 : s.length ≤ 8
  c : Sc8 s
  o : Srt s 0
end Go.Proofs.Rnk
end
section
set_option maxRecDepth 100000
namespace Go.Proofs.Rnk
open Go Go.VM

/-- wins of the first ones, and games -/
def ws (s : List Int) : Nat → Int
  | 0 => 0
  | k + 1 => ws s k + s.getD k i0
end Go.Proofs.Rnk
end
section
set_option maxHeartbeats 4000000
set_option maxRecDepth 100000
namespace Go.Proofs.Rnk
open Go Go.VM
open Go.Proofs.Sur (andn andn_bit andn_le i_wrap i_and i_or i_andn i_shl i_shr bit_01)

/-- the heap in which players are sorted -/
abbrev hW (T W : List Int) (n : Nat) : H := ⟨[ints T, ints W, [.msl 1 0 n noCap 1]], [], []⟩
end Go.Proofs.Rnk
end
section
set_option maxHeartbeats 4000000
set_option maxRecDepth 100000
namespace Go.Proofs.Rnk
open Go Go.VM
open Go.Proofs.Sur (andn andn_bit andn_le i_wrap i_and i_or i_andn i_shl i_shr bit_01)
local instance wrI3 : Inhabited Globs := ⟨⟨gcell, fun t => t == 22⟩⟩

abbrev hC (T W : List Int) (n s : Nat) : H := ⟨[ints T, ints W, [.msl 1 0 n noCap 1], [I (s : Nat)]], [], []⟩
theorem CallOkB.full {P : Program} {nb : Nat} {f : FuncId} {args : List AV} {h : H} {v : AV} {h' : H} (k : CallOkB P nb f args h v h') (hn : h.blk.length ≤ nb) : CallOk P f args h v h' := fun G w vs s hg hr => k G w vs s (fun γ hγ => Nat.le_trans (s.bases γ hγ).1 hn) hg hr
end Go.Proofs.Rnk
end
section
set_option maxHeartbeats 4000000
set_option maxRecDepth 100000
namespace Go.Proofs.Rnk
open Go Go.VM
open Go.Proofs.Sur (andn andn_bit andn_le i_wrap i_and i_or i_andn i_shl i_shr bit_01)

end Go.Proofs.Rnk
end
section
set_option maxHeartbeats 4000000
set_option maxRecDepth 100000
namespace Go.Proofs.Rnk
open Go Go.VM
open Go.Proofs.Sur (andn andn_bit andn_le i_wrap i_and i_or i_andn i_shl i_shr bit_01)

section
local instance wrI4 : Inhabited Globs := ⟨⟨gcell, fun t => t == 22⟩⟩
def appTV (P : Program) (t : TypeId) : Bool :=
  match elemT P t with
  | some e => match P.info? e, zeroCs P e with
    | some i, some z => i.size == 1 && decide (i.bytes ≤ 24) && z.length == 1 && appW t
    | _, _ => false
  | none => false
end
end Go.Proofs.Rnk
end
