/- Layer 2: sets of players: the least one, and how many there are. -/
import Derived.Test.YtnnhomkkggkkfaaDoorVm8
import Derived.Test.YtnnhomkkggkkfaaDoorVm7
import Derived.Test.YtnnhomkkggkkfaaDoorVm2
import Derived.Test.YtnnhomkkggkkfaaDoorSuM
import Derived.Test.YtnnhomkkggkkfaaDoorProg
import Derived.KernelRfl
set_option linter.unusedSimpArgs false
set_option linter.unusedVariables false
set_option linter.unnecessarySimpa false
set_option maxHeartbeats 4000000
set_option maxRecDepth 100000
namespace Go.Proofs.Rnk
open Go Go.VM

theorem mixed : Tryd.prog.follows .mixedOrders = true := by kernel_rfl
abbrev dbs : List Value := [.int .u8 0, .int .u8 1, .int .u8 56, .int .u8 2, .int .u8 57, .int .u8 49, .int .u8 28, .int .u8 3, .int .u8 61, .int .u8 58, .int .u8 42, .int .u8 50, .int .u8 38, .int .u8 29, .int .u8 17, .int .u8 4, .int .u8 62, .int .u8 47, .int .u8 59, .int .u8 36, .int .u8 45, .int .u8 43, .int .u8 51, .int .u8 22, .int .u8 53, .int .u8 39, .int .u8 33, .int .u8 30, .int .u8 24, .int .u8 18, .int .u8 12, .int .u8 5, .int .u8 63, .int .u8 55, .int .u8 48, .int .u8 27, .int .u8 60, .int .u8 41, .int .u8 37, .int .u8 16, .int .u8 46, .int .u8 35, .int .u8 44, .int .u8 21, .int .u8 52, .int .u8 32, .int .u8 23, .int .u8 11, .int .u8 54, .int .u8 26, .int .u8 40, .int .u8 15, .int .u8 34, .int .u8 20, .int .u8 31, .int .u8 10, .int .u8 25, .int .u8 14, .int .u8 19, .int .u8 9, .int .u8 13, .int .u8 8, .int .u8 7, .int .u8 6]
instance : Inhabited Globs := ⟨⟨fun g => match g with | 1 => dbs | _ => [], fun _ => false⟩⟩
/-- the least element of a set -/
def lo (s : Nat) : Nat := Sur.fst (fun i => s.testBit i) 0 8
/-- how many elements a set has -/
def pc (s : Nat) : Nat := ((List.range 8).filter fun i => s.testBit i).length
def resIs (r : Option (AV × H)) (v : AV) : Bool :=
  match r with
  | some (x, h) => AV.beq x v && H.beq h .nil
  | none => false
theorem resIs_ok {r : Option (AV × H)} {v : AV} (h : resIs r v = true) : r = some (v, .nil) := by
  unfold resIs at h
  split at h
  · simp only [Bool.and_eq_true] at h
    rw [AV.beq_eq _ _ h.1, H.beq_eq h.2]
  · cases h
noncomputable def run96 (s : Nat) : Bool := resIs (deepW Tryd.prog (fun _ => false) (fun _ => false) 100 3 0 96 [.int .u64 s] .nil) (.int .i64 (lo s : Nat))
noncomputable def run57 (s : Nat) : Bool := resIs (deepW Tryd.prog (fun _ => false) (fun _ => false) 100 4 0 57 [.int .i64 s] .nil) (.int .i64 (pc s : Nat))
theorem all96 : (List.range 255).all (fun s => run96 (s + 1)) = true := by kernel_rfl
theorem all57 : (List.range 256).all run57 = true := by kernel_rfl
theorem r96 {s : Nat} (h : 0 < s ∧ s < 256) : CallOk Tryd.prog 96 [.int .u64 s] .nil (.int .i64 (lo s : Nat)) .nil := by
  have h1 := List.all_eq_true.1 all96 (s - 1) (List.mem_range.2 (by omega))
  rw [show s - 1 + 1 = s by omega] at h1
  have h2 := deepW_ok (P := Tryd.prog) mixed 3 0 _ _ _ _ _ (resIs_ok h1)
  exact pure_callB h2.2 rfl rfl .nil
theorem r57 {s : Nat} (h : s < 256) : CallOk Tryd.prog 57 [.int .i64 s] .nil (.int .i64 (pc s : Nat)) .nil := by
  have h1 := List.all_eq_true.1 all57 s (List.mem_range.2 h)
  have h2 := deepW_ok (P := Tryd.prog) mixed 4 0 _ _ _ _ _ (resIs_ok h1)
  exact pure_callB h2.2 rfl rfl .nil
theorem call96 : callable Tryd.prog 96 = true := by kernel_rfl
theorem call57 : callable Tryd.prog 57 = true := by kernel_rfl
noncomputable def c96 : PCtr Tryd.prog where
  f := 96
  X := Nat
  args s := [.int .u64 s]
  pre s := 0 < s ∧ s < 256
  v s := I (lo s : Nat)
  det := by
    intro x y e _ _
    simp only [List.cons.injEq, AV.int.injEq, true_and, and_true] at e
    rw [show x = y by omega]
  ok s hs := ⟨call96, fun h => (pure_call (r96 hs) rfl rfl h).wk⟩
noncomputable def c57 : PCtr Tryd.prog where
  f := 57
  X := Nat
  args s := [I s]
  pre s := s < 256
  v s := I (pc s : Nat)
  det := by
    intro x y e _ _
    simp only [List.cons.injEq, AV.int.injEq, true_and, and_true] at e
    rw [show x = y by omega]
  ok s hs := ⟨call57, fun h => (pure_call (r57 hs) rfl rfl h).wk⟩
end Go.Proofs.Rnk

