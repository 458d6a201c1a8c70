/- Joined: RkBx, RkBa, RkBb, RkBc, RkBd, RkBe, RkBf, RkBz. -/
import Derived.Test.YtnnhomkkggkkfaaDoorRkAw
import Derived.KernelRfl
import Derived.Test.YtnnhomkkggkkfaaDoorRkT
import Derived.Test.YtnnhomkkggkkfaaDoorVm8
import Derived.Test.YtnnhomkkggkkfaaDoorVm9
import Derived.Test.YtnnhomkkggkkfaaDoorRkAr
import Derived.Test.YtnnhomkkggkkfaaDoorRkG
set_option linter.unusedSimpArgs false
set_option linter.unusedVariables false
set_option linter.unnecessarySimpa false
section
set_option maxHeartbeats 4000000
set_option maxRecDepth 100000
namespace Go.Proofs.Rnk
open Go Go.VM

abbrev rowR (t : List Int) (k : Nat) (rd : Bool) : Option (List Int) := wyM (sn t) t.length rd k [] 0
end Go.Proofs.Rnk
end
section
set_option maxHeartbeats 4000000
set_option maxRecDepth 100000
namespace Go.Proofs.Rnk
open Go Go.VM
open Go.Proofs.Sur (andn andn_bit andn_le i_wrap i_and i_or i_andn i_shl i_shr bit_01)

structure Srt (s : List Int) (n : Nat) : Prop where
  h : ∀ k, n < k + 1 → k + 1 < s.length → s.getD k i0 ≤ s.getD (k + 1) i0
structure Sc8 (s : List Int) : Prop where
  h : ∀ k, k < s.length → 0 ≤ s.getD k i0 ∧ s.getD k i0 < 8
structure SB (s : List Int) : Prop where
  l1 : 1 ≤ s.length
  l8 : s.length ≤ 8
  c : Sc8 s
  o : Srt s 0
end Go.Proofs.Rnk
end
section
set_option maxRecDepth 100000
namespace Go.Proofs.Rnk
open Go Go.VM

def ws (s : List Int) : Nat → Int
  | 0 => 0
  | k + 1 => ws s k + s.getD k i0
end Go.Proofs.Rnk
end
section
set_option maxHeartbeats 4000000
set_option maxRecDepth 100000
namespace Go.Proofs.Rnk
open Go Go.VM
open Go.Proofs.Sur (andn andn_bit andn_le i_wrap i_and i_or i_andn i_shl i_shr bit_01)

abbrev hW (T W : List Int) (n : Nat) : H := ⟨[ints T, ints W, [.msl 1 0 n noCap 1]], [], []⟩
end Go.Proofs.Rnk
end
section
set_option maxHeartbeats 4000000
set_option maxRecDepth 100000
namespace Go.Proofs.Rnk
open Go Go.VM
open Go.Proofs.Sur (andn andn_bit andn_le i_wrap i_and i_or i_andn i_shl i_shr bit_01)
local instance wrI3 : Inhabited Globs := ⟨⟨gcell, fun t => t == 22⟩⟩

abbrev hC (T W : List Int) (n s : Nat) : H := ⟨[ints T, ints W, [.msl 1 0 n noCap 1], [I (s : Nat)]], [], []⟩
theorem CallOkB.full {P : Program} {nb : Nat} {f : FuncId} {args : List AV} {h : H} {v : AV} {h' : H} (k : CallOkB P nb f args h v h') (hn : h.blk.length ≤ nb) : CallOk P f args h v h' := fun G w vs s hg hr => k G w vs s (fun γ hγ => Nat.le_trans (s.bases γ hγ).1 hn) hg hr
end Go.Proofs.Rnk
end
section
set_option maxHeartbeats 4000000
set_option maxRecDepth 100000
namespace Go.Proofs.Rnk
open Go Go.VM
open Go.Proofs.Sur (andn andn_bit andn_le i_wrap i_and i_or i_andn i_shl i_shr bit_01)

end Go.Proofs.Rnk
end
section
set_option maxHeartbeats 4000000
set_option maxRecDepth 100000
namespace Go.Proofs.Rnk
open Go Go.VM
open Go.Proofs.Sur (andn andn_bit andn_le i_wrap i_and i_or i_andn i_shl i_shr bit_01)

section
local instance wrI4 : Inhabited Globs := ⟨⟨gcell, fun t => t == 22⟩⟩
def appTV (P : Program) (t : TypeId) : Bool :=
  match elemT P t with
  | some e => match P.info? e, zeroCs P e with
    | some i, some z => i.size == 1 && decide (i.bytes ≤ 24) && z.length == 1 && appW t
    | _, _ => false
  | none => false
end
end Go.Proofs.Rnk
end
section
set_option maxHeartbeats 4000000
set_option maxRecDepth 100000
namespace Go.Proofs.Rnk
open Go Go.VM
section
attribute [local instance] wrI
abbrev selfV : AV := .fn (.func 94) [] [.ptr 3 0, .ptr 1 0, .ptr 2 0, .ptr 4 0, .ptr 0 0]
abbrev fitV : AV := .fn (.func 65) [] []
abbrev rowV (R n : Nat) : AV := .msl R 0 n noCap 1
def Dj (b : List Int) (j : Nat) : List AV := if j = 0 then ints b else []
def Zj (b : List Int) (nx j : Nat) : List (List AV) := if j = 0 then [] else List.replicate (2 * j - 1) [] ++ [ints (b ++ [((el nx (j - 1) : Nat) : Int)])]
def Rj (j : Nat) : Nat := if j = 0 then 5 else 8 + 2 * j
abbrev bJ (t : List Int) (k : Nat) (b : List Int) (fr nx j : Nat) : List (List AV) := [ls t .no] :: [I k] :: [fitV] :: [rowV (Rj j) b.length] :: [selfV] :: Dj b j :: [I fr] :: [.bool false] :: [I (dI (nx : Nat) j)] :: Zj b nx j
theorem ap_msl {P : Program} {t : TypeId} (hT : appTV P t = true) {R n : Nat} {cs : List AV} {x : Int} {h : H} (hR : h.blk[R]? = some cs) (h0 : 0 < n) (hn : n ≤ cs.length) (h8 : n ≤ 1000) :
    aAppend P t t (rowV R n) (.sl [I x] 1 .full) h = some (rowV h.blk.length (n + 1), { h with blk := h.blk.set R [] ++ [cs.take n ++ [I x]] }) := by
  unfold appTV at hT
  split at hT
  · rename_i e he
    split at hT
    · rename_i i z hi hz
      simp only [Bool.and_eq_true, beq_iff_eq, decide_eq_true_eq] at hT
      obtain ⟨⟨⟨h1, h2⟩, h3⟩, h4⟩ := hT
      have hb : (n + 1) * i.bytes ≤ 2 ^ 47 := Nat.le_trans (Nat.mul_le_mul (Nat.succ_le_succ h8) h2) (by decide)
      have hm : n + 1 ≤ maxLen := Nat.le_trans (Nat.succ_le_succ h8) (by decide)
      have ho : (I x).one = true := rfl
      by_cases c : cs.length = n
      · have ht : cs.take n = cs := List.take_of_length_le (by omega)
        rw [ht]
        simp [aAppend, he, hi, hz, h1, h3, slCells, hR, hb, hm, ho, c, h0]
      · have c2 : n < cs.length := by omega
        simp [aAppend, he, hi, hz, h1, h3, slCells, hR, hb, hm, ho, c, c2]
    · cases hT
  · cases hT
theorem RV.row {ρ : Nat → Nat} {n R m : Nat} (h : R < n) : RV ρ n (rowV R m) (rowV (ρ R) m) := fun Gc G v a => by
  simp only [rowV, VRel, a.φ R h]
theorem bnd_ls (t : List Int) : AV.bnds 0 0 0 [ls t .no] = true := by
  have hb : AV.bnds 0 0 0 (ints t) = true := enc_bnds ints_c1 t 0 0 0
  simp [AV.bnds, AV.bnd, Room.bnd, hb]
theorem bnd_ints (t : List Int) : AV.bnds 0 0 0 (ints t) = true := enc_bnds ints_c1 t 0 0 0
end
end Go.Proofs.Rnk
end
