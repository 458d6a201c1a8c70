/- Joined: RkCe, RkCf. -/
import Derived.Test.YtnnhomkkggkkfaaDoorRkCb
import Derived.KernelRfl
set_option linter.unusedSimpArgs false
set_option linter.unusedVariables false
set_option linter.unnecessarySimpa false
section
set_option maxHeartbeats 4000000
set_option maxRecDepth 100000
namespace Go.Proofs.Rnk
open Go Go.VM
open Go.Proofs.Sur (andn andn_bit andn_le i_wrap i_and i_or i_xor i_andn i_shl i_shr bit_01)
section
attribute [local instance] wrI
def RC (j : Nat) : AV := if j = 0 then .sl [] 0 .nil else rowV (7 + 2 * j) 0
def ZT (nx j : Nat) : List (List AV) := if j = 0 then [] else List.replicate (2 * j - 1) [] ++ [ints [((el nx (j - 1) : Nat) : Int)]]
theorem ap_nil1 {P : Program} {t : TypeId} (hT : appTV P t = true) {x : Int} {h : H} :
    aAppend P t t (.sl [] 0 .nil) (.sl [I x] 1 .full) h = some (rowV h.blk.length 1, { h with blk := h.blk ++ [[I x]] }) := by
  unfold appTV at hT
  split at hT
  · rename_i e he
    split at hT
    · rename_i i z hi hz
      simp only [Bool.and_eq_true, beq_iff_eq, decide_eq_true_eq] at hT
      obtain ⟨⟨⟨h1, h2⟩, h3⟩, h4⟩ := hT
      have hb : i.bytes ≤ 140737488355328 := Nat.le_trans h2 (by decide)
      have ho : (I x).one = true := rfl
      simp [aAppend, he, hi, hz, h1, h3, h4, slCells, hb, ho]
      decide
    · cases hT
  · cases hT
theorem ap_msl0 {P : Program} {t : TypeId} (hT : appTV P t = true) {R : Nat} {y x : Int} {h : H} (hR : h.blk[R]? = some (ints [y])) :
    aAppend P t t (rowV R 0) (.sl [I x] 1 .full) h = some (rowV h.blk.length 1, { h with blk := h.blk.set R [] ++ [[I x]] }) := by
  unfold appTV at hT
  split at hT
  · rename_i e he
    split at hT
    · rename_i i z hi hz
      simp only [Bool.and_eq_true, beq_iff_eq, decide_eq_true_eq] at hT
      obtain ⟨⟨⟨h1, h2⟩, h3⟩, h4⟩ := hT
      have hb : i.bytes ≤ 140737488355328 := Nat.le_trans h2 (by decide)
      have ho : (I x).one = true := rfl
      simp [aAppend, he, hi, hz, h1, h3, slCells, hR, hb, ho]
      decide
    · cases hT
  · cases hT
end
end Go.Proofs.Rnk
end
section
set_option maxHeartbeats 4000000
set_option maxRecDepth 100000
namespace Go.Proofs.Rnk
open Go Go.VM
open Go.Proofs.Sur (andn andn_bit andn_le i_wrap i_and i_or i_xor i_andn i_shl i_shr bit_01)
section
attribute [local instance] wrI
structure ExT (t : List Int) (f k : Nat) : Prop where
  h : Tn t
  kf : f + 1 = k
  k8 : k ≤ 8
theorem met_all {t : List Int} (h8 : t.length ≤ 8) : metF t (alls t.length) = 0 := by
  have hA := alls_lt h8
  apply Nat.eq_of_testBit_eq
  intro i
  rw [metF, andn_bit (by omega), Nat.zero_testBit]
  cases (alls t.length).testBit i <;> rfl
theorem ExT.next {t : List Int} {f k p : Nat} (h : ExT t f k) (hp : p < t.length) : ExP t [(p : Int)] f k (andn (alls t.length) (2 ^ p)) (andn (alls t.length) (2 ^ p) &&& sn t p) where
  w := by
    have h8 := h.h.s.2
    have w0 : WyP t [] .no (f + 1) k 0 := ⟨h.h, fun _ => no_ne, by have := h.kf; simp only [List.length_nil]; omega, by have := h.kf; omega, h.k8, by omega, fun j hj => by simp at hj⟩
    have := w0.next hp
    rw [met_next h8 (alls_lt h8) hp, met_all h8]
    exact this
  ne := by simp
  f8 := by have := alls_lt h.h.s.2; have := andn_le (a := alls t.length) (b := 2 ^ p) (by omega); omega
  fi i hi := by
    have hA := alls_lt h.h.s.2
    rw [andn_bit (by omega), Bool.and_eq_true, alls_bit] at hi
    simpa using hi.1
  n8 := by have := alls_lt h.h.s.2; have := andn_le (a := alls t.length) (b := 2 ^ p) (by omega); have := @Nat.and_le_left (andn (alls t.length) (2 ^ p)) (sn t p); omega
  ni i := by
    have := last_app [] p
    simp only [List.nil_append] at this
    rw [Nat.testBit_and, Bool.and_eq_true, this]
structure TTs (t : List Int) (k j0 j : Nat) (H : H) : Prop where
  e : H = ⟨[ls t .no] :: [I k] :: [fitV] :: [RC j] :: [selfV] :: [I (alls t.length : Nat)] :: [.bool false] :: [I (dI (alls t.length : Nat) j)] :: ZT (alls t.length) j, [], []⟩
  le : j ≤ j0
end
end Go.Proofs.Rnk
end
