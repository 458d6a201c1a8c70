/- Layer 2: players collected. -/
import Derived.Test.YtnnhomkkggkkfaaDoorRkBc
import Derived.Test.YtnnhomkkggkkfaaDoorRkL
import Derived.Test.YtnnhomkkggkkfaaDoorVm9
import Derived.Test.YtnnhomkkggkkfaaDoorVm8
import Derived.KernelRfl
set_option linter.unusedSimpArgs false
set_option linter.unusedVariables false
set_option linter.unnecessarySimpa false
set_option maxHeartbeats 4000000
set_option maxRecDepth 100000
namespace Go.Proofs.Rnk
open Go Go.VM
open Go.Proofs.Sur (andn andn_bit andn_le i_wrap i_and i_or i_andn i_shl i_shr bit_01)
local instance wrI3 : Inhabited Globs := ⟨⟨gcell, fun t => t == 22⟩⟩

/-- the heap while players are collected -/
def gA (T W : List Int) (n s : Nat) : Nat → H
  | 0 => ⟨[ints T, ints W, [.msl 1 0 n noCap 1], [I (dI (s : Nat) 0)], [.sl [] 0 .nil]], [], []⟩
  | 1 => ⟨[ints T, ints W, [.msl 1 0 n noCap 1], [I (dI (s : Nat) 1)], [.msl 5 0 1 noCap 1], [I (el s 0 : Nat)]], [], []⟩
  | 2 => ⟨[ints T, ints W, [.msl 1 0 n noCap 1], [I (dI (s : Nat) 2)], [.msl 6 0 2 noCap 1], [], [I (el s 0 : Nat), I (el s 1 : Nat)]], [], []⟩
  | 3 => ⟨[ints T, ints W, [.msl 1 0 n noCap 1], [I (dI (s : Nat) 3)], [.msl 7 0 3 noCap 1], [], [], [I (el s 0 : Nat), I (el s 1 : Nat), I (el s 2 : Nat)]], [], []⟩
  | 4 => ⟨[ints T, ints W, [.msl 1 0 n noCap 1], [I (dI (s : Nat) 4)], [.msl 8 0 4 noCap 1], [], [], [], [I (el s 0 : Nat), I (el s 1 : Nat), I (el s 2 : Nat), I (el s 3 : Nat)]], [], []⟩
  | 5 => ⟨[ints T, ints W, [.msl 1 0 n noCap 1], [I (dI (s : Nat) 5)], [.msl 9 0 5 noCap 1], [], [], [], [], [I (el s 0 : Nat), I (el s 1 : Nat), I (el s 2 : Nat), I (el s 3 : Nat), I (el s 4 : Nat)]], [], []⟩
  | 6 => ⟨[ints T, ints W, [.msl 1 0 n noCap 1], [I (dI (s : Nat) 6)], [.msl 10 0 6 noCap 1], [], [], [], [], [], [I (el s 0 : Nat), I (el s 1 : Nat), I (el s 2 : Nat), I (el s 3 : Nat), I (el s 4 : Nat), I (el s 5 : Nat)]], [], []⟩
  | 7 => ⟨[ints T, ints W, [.msl 1 0 n noCap 1], [I (dI (s : Nat) 7)], [.msl 11 0 7 noCap 1], [], [], [], [], [], [], [I (el s 0 : Nat), I (el s 1 : Nat), I (el s 2 : Nat), I (el s 3 : Nat), I (el s 4 : Nat), I (el s 5 : Nat), I (el s 6 : Nat)]], [], []⟩
  | 8 => ⟨[ints T, ints W, [.msl 1 0 n noCap 1], [I (dI (s : Nat) 8)], [.msl 12 0 8 noCap 1], [], [], [], [], [], [], [], [I (el s 0 : Nat), I (el s 1 : Nat), I (el s 2 : Nat), I (el s 3 : Nat), I (el s 4 : Nat), I (el s 5 : Nat), I (el s 6 : Nat), I (el s 7 : Nat)]], [], []⟩
  | _ => .nil
abbrev hC (T W : List Int) (n s : Nat) : H := ⟨[ints T, ints W, [.msl 1 0 n noCap 1], [I (s : Nat)]], [], []⟩
noncomputable abbrev EnC (l : List (Ctr Tryd.prog)) : Env := ⟨Tryd.prog, Sof (P := Tryd.prog) l, Pof (P := Tryd.prog) [], ⟨4, 0, 987654321⟩, 300⟩
theorem itC {p : Pures} {β : Base} {s : Nat} (hs : s < 256) {h0 : H} (hh : h0.blk[3]? = some [I (s : Nat)]) : IterOk Tryd.prog β 95 [.ptr 3 0] h0 h0 (pc s) (pxs s) (powI 3 (s : Nat)) (pnxI 3 (s : Nat)) :=
  @IterOk.up instInhabitedGlobs wrI3 (fun _ => rfl) _ _ _ _ _ _ _ _ _ _ (@players_itN p β 3 s hs h0 hh)
abbrev o117 (T W : List Int) (n s : Nat) : List Out := [.mk Unit .normal [2] (fun _ => True) (fun _ => [.ptr 4 0]) (fun _ => gA T W n s (pc s)) (fun _ => [])]
theorem simp117 : allSimpleM none1 (rangeBody (rangeAt Tryd.f117 0)) = true := by kernel_rfl
theorem st117_0 (T W : List Int) (n s : Nat) : ∃ os, ∀ u, Led (wS (EnC []) (rangeBody (rangeAt Tryd.f117 0)) (setPs (fr 13 u ([2, 6].zip [.ptr 4 0, .fn (.func 95) [] [.ptr 3 0]])) (rangePs (rangeAt Tryd.f117 0)) (pxs s 0)) ⟨[ints T, ints W, [.msl 1 0 n noCap 1], [I (dI (s : Nat) 0)], [.sl [] 0 .nil]], [], []⟩ os (KrangeS none (powI 3 (s : Nat)) (fun k h => h = gA T W n s k) (pnxI 3 (s : Nat)) 0 (fr 13 u ([2, 6].zip [.ptr 4 0, .fn (.func 95) [] [.ptr 3 0]])) (o117 T W n s))) := by
  refine ⟨[], fun u => of_eq (True ∧ Keep (powI (3 : Nat) (↑s : Int) (0 : Nat) (H.mk [ints T, ints W, [AV.msl 1 0 n (9223372036854775808 : Nat) (1 : Nat)], [I (dI (↑s : Int) (0 : Nat))], [AV.msl 5 0 (1 : Nat) (9223372036854775808 : Nat) (1 : Nat)], [I (↑(el s (0 : Nat)) : Int)]] [] []) ∧ H.mk [ints T, ints W, [AV.msl 1 0 n (9223372036854775808 : Nat) (1 : Nat)], [I (dI (↑s : Int) (1 : Nat))], [AV.msl 5 0 (1 : Nat) (9223372036854775808 : Nat) (1 : Nat)], [I (↑(el s (0 : Nat)) : Int)]] [] [] = H.mk [ints T, ints W, [AV.msl 1 0 n (9223372036854775808 : Nat) (1 : Nat)], [I (dI (↑s : Int) (1 : Nat))], [AV.msl 5 0 (1 : Nat) (9223372036854775808 : Nat) (1 : Nat)], [I (↑(el s (0 : Nat)) : Int)]] [] [])) (by kernel_rfl) ?_⟩
  refine ⟨by trivial, ?_⟩
  exact ⟨rfl, rfl⟩
theorem st117_1 (T W : List Int) (n s : Nat) : ∃ os, ∀ u, Led (wS (EnC []) (rangeBody (rangeAt Tryd.f117 0)) (setPs (fr 13 u ([2, 6].zip [.ptr 4 0, .fn (.func 95) [] [.ptr 3 0]])) (rangePs (rangeAt Tryd.f117 0)) (pxs s 1)) ⟨[ints T, ints W, [.msl 1 0 n noCap 1], [I (dI (s : Nat) 1)], [.msl 5 0 1 noCap 1], [I (el s 0 : Nat)]], [], []⟩ os (KrangeS none (powI 3 (s : Nat)) (fun k h => h = gA T W n s k) (pnxI 3 (s : Nat)) 1 (fr 13 u ([2, 6].zip [.ptr 4 0, .fn (.func 95) [] [.ptr 3 0]])) (o117 T W n s))) := by
  refine ⟨[], fun u => of_eq (True ∧ Keep (powI (3 : Nat) (↑s : Int) (1 : Nat) (H.mk [ints T, ints W, [AV.msl 1 0 n (9223372036854775808 : Nat) (1 : Nat)], [I (dI (↑s : Int) (1 : Nat))], [AV.msl 6 0 (2 : Nat) (9223372036854775808 : Nat) (1 : Nat)], [], [I (↑(el s (0 : Nat)) : Int), I (↑(el s (1 : Nat)) : Int)]] [] []) ∧ H.mk [ints T, ints W, [AV.msl 1 0 n (9223372036854775808 : Nat) (1 : Nat)], [I (dI (↑s : Int) ((1 : Nat) + (1 : Nat)))], [AV.msl 6 0 (2 : Nat) (9223372036854775808 : Nat) (1 : Nat)], [], [I (↑(el s (0 : Nat)) : Int), I (↑(el s (1 : Nat)) : Int)]] [] [] = H.mk [ints T, ints W, [AV.msl 1 0 n (9223372036854775808 : Nat) (1 : Nat)], [I (dI (↑s : Int) (2 : Nat))], [AV.msl 6 0 (2 : Nat) (9223372036854775808 : Nat) (1 : Nat)], [], [I (↑(el s (0 : Nat)) : Int), I (↑(el s (1 : Nat)) : Int)]] [] [])) (by kernel_rfl) ?_⟩
  refine ⟨by trivial, ?_⟩
  exact ⟨rfl, rfl⟩
theorem st117_2 (T W : List Int) (n s : Nat) : ∃ os, ∀ u, Led (wS (EnC []) (rangeBody (rangeAt Tryd.f117 0)) (setPs (fr 13 u ([2, 6].zip [.ptr 4 0, .fn (.func 95) [] [.ptr 3 0]])) (rangePs (rangeAt Tryd.f117 0)) (pxs s 2)) ⟨[ints T, ints W, [.msl 1 0 n noCap 1], [I (dI (s : Nat) 2)], [.msl 6 0 2 noCap 1], [], [I (el s 0 : Nat), I (el s 1 : Nat)]], [], []⟩ os (KrangeS none (powI 3 (s : Nat)) (fun k h => h = gA T W n s k) (pnxI 3 (s : Nat)) 2 (fr 13 u ([2, 6].zip [.ptr 4 0, .fn (.func 95) [] [.ptr 3 0]])) (o117 T W n s))) := by
  refine ⟨[], fun u => of_eq (True ∧ Keep (powI (3 : Nat) (↑s : Int) (2 : Nat) (H.mk [ints T, ints W, [AV.msl 1 0 n (9223372036854775808 : Nat) (1 : Nat)], [I (dI (↑s : Int) (2 : Nat))], [AV.msl 7 0 (3 : Nat) (9223372036854775808 : Nat) (1 : Nat)], [], [], [I (↑(el s (0 : Nat)) : Int), I (↑(el s (1 : Nat)) : Int), I (↑(el s (2 : Nat)) : Int)]] [] []) ∧ H.mk [ints T, ints W, [AV.msl 1 0 n (9223372036854775808 : Nat) (1 : Nat)], [I (dI (↑s : Int) ((2 : Nat) + (1 : Nat)))], [AV.msl 7 0 (3 : Nat) (9223372036854775808 : Nat) (1 : Nat)], [], [], [I (↑(el s (0 : Nat)) : Int), I (↑(el s (1 : Nat)) : Int), I (↑(el s (2 : Nat)) : Int)]] [] [] = H.mk [ints T, ints W, [AV.msl 1 0 n (9223372036854775808 : Nat) (1 : Nat)], [I (dI (↑s : Int) (3 : Nat))], [AV.msl 7 0 (3 : Nat) (9223372036854775808 : Nat) (1 : Nat)], [], [], [I (↑(el s (0 : Nat)) : Int), I (↑(el s (1 : Nat)) : Int), I (↑(el s (2 : Nat)) : Int)]] [] [])) (by kernel_rfl) ?_⟩
  refine ⟨by trivial, ?_⟩
  exact ⟨rfl, rfl⟩
theorem st117_3 (T W : List Int) (n s : Nat) : ∃ os, ∀ u, Led (wS (EnC []) (rangeBody (rangeAt Tryd.f117 0)) (setPs (fr 13 u ([2, 6].zip [.ptr 4 0, .fn (.func 95) [] [.ptr 3 0]])) (rangePs (rangeAt Tryd.f117 0)) (pxs s 3)) ⟨[ints T, ints W, [.msl 1 0 n noCap 1], [I (dI (s : Nat) 3)], [.msl 7 0 3 noCap 1], [], [], [I (el s 0 : Nat), I (el s 1 : Nat), I (el s 2 : Nat)]], [], []⟩ os (KrangeS none (powI 3 (s : Nat)) (fun k h => h = gA T W n s k) (pnxI 3 (s : Nat)) 3 (fr 13 u ([2, 6].zip [.ptr 4 0, .fn (.func 95) [] [.ptr 3 0]])) (o117 T W n s))) := by
  refine ⟨[], fun u => of_eq (True ∧ Keep (powI (3 : Nat) (↑s : Int) (3 : Nat) (H.mk [ints T, ints W, [AV.msl 1 0 n (9223372036854775808 : Nat) (1 : Nat)], [I (dI (↑s : Int) (3 : Nat))], [AV.msl 8 0 (4 : Nat) (9223372036854775808 : Nat) (1 : Nat)], [], [], [], [I (↑(el s (0 : Nat)) : Int), I (↑(el s (1 : Nat)) : Int), I (↑(el s (2 : Nat)) : Int), I (↑(el s (3 : Nat)) : Int)]] [] []) ∧ H.mk [ints T, ints W, [AV.msl 1 0 n (9223372036854775808 : Nat) (1 : Nat)], [I (dI (↑s : Int) ((3 : Nat) + (1 : Nat)))], [AV.msl 8 0 (4 : Nat) (9223372036854775808 : Nat) (1 : Nat)], [], [], [], [I (↑(el s (0 : Nat)) : Int), I (↑(el s (1 : Nat)) : Int), I (↑(el s (2 : Nat)) : Int), I (↑(el s (3 : Nat)) : Int)]] [] [] = H.mk [ints T, ints W, [AV.msl 1 0 n (9223372036854775808 : Nat) (1 : Nat)], [I (dI (↑s : Int) (4 : Nat))], [AV.msl 8 0 (4 : Nat) (9223372036854775808 : Nat) (1 : Nat)], [], [], [], [I (↑(el s (0 : Nat)) : Int), I (↑(el s (1 : Nat)) : Int), I (↑(el s (2 : Nat)) : Int), I (↑(el s (3 : Nat)) : Int)]] [] [])) (by kernel_rfl) ?_⟩
  refine ⟨by trivial, ?_⟩
  exact ⟨rfl, rfl⟩
theorem st117_4 (T W : List Int) (n s : Nat) : ∃ os, ∀ u, Led (wS (EnC []) (rangeBody (rangeAt Tryd.f117 0)) (setPs (fr 13 u ([2, 6].zip [.ptr 4 0, .fn (.func 95) [] [.ptr 3 0]])) (rangePs (rangeAt Tryd.f117 0)) (pxs s 4)) ⟨[ints T, ints W, [.msl 1 0 n noCap 1], [I (dI (s : Nat) 4)], [.msl 8 0 4 noCap 1], [], [], [], [I (el s 0 : Nat), I (el s 1 : Nat), I (el s 2 : Nat), I (el s 3 : Nat)]], [], []⟩ os (KrangeS none (powI 3 (s : Nat)) (fun k h => h = gA T W n s k) (pnxI 3 (s : Nat)) 4 (fr 13 u ([2, 6].zip [.ptr 4 0, .fn (.func 95) [] [.ptr 3 0]])) (o117 T W n s))) := by
  refine ⟨[], fun u => of_eq (True ∧ Keep (powI (3 : Nat) (↑s : Int) (4 : Nat) (H.mk [ints T, ints W, [AV.msl 1 0 n (9223372036854775808 : Nat) (1 : Nat)], [I (dI (↑s : Int) (4 : Nat))], [AV.msl 9 0 (5 : Nat) (9223372036854775808 : Nat) (1 : Nat)], [], [], [], [], [I (↑(el s (0 : Nat)) : Int), I (↑(el s (1 : Nat)) : Int), I (↑(el s (2 : Nat)) : Int), I (↑(el s (3 : Nat)) : Int), I (↑(el s (4 : Nat)) : Int)]] [] []) ∧ H.mk [ints T, ints W, [AV.msl 1 0 n (9223372036854775808 : Nat) (1 : Nat)], [I (dI (↑s : Int) ((4 : Nat) + (1 : Nat)))], [AV.msl 9 0 (5 : Nat) (9223372036854775808 : Nat) (1 : Nat)], [], [], [], [], [I (↑(el s (0 : Nat)) : Int), I (↑(el s (1 : Nat)) : Int), I (↑(el s (2 : Nat)) : Int), I (↑(el s (3 : Nat)) : Int), I (↑(el s (4 : Nat)) : Int)]] [] [] = H.mk [ints T, ints W, [AV.msl 1 0 n (9223372036854775808 : Nat) (1 : Nat)], [I (dI (↑s : Int) (5 : Nat))], [AV.msl 9 0 (5 : Nat) (9223372036854775808 : Nat) (1 : Nat)], [], [], [], [], [I (↑(el s (0 : Nat)) : Int), I (↑(el s (1 : Nat)) : Int), I (↑(el s (2 : Nat)) : Int), I (↑(el s (3 : Nat)) : Int), I (↑(el s (4 : Nat)) : Int)]] [] [])) (by kernel_rfl) ?_⟩
  refine ⟨by trivial, ?_⟩
  exact ⟨rfl, rfl⟩
theorem st117_5 (T W : List Int) (n s : Nat) : ∃ os, ∀ u, Led (wS (EnC []) (rangeBody (rangeAt Tryd.f117 0)) (setPs (fr 13 u ([2, 6].zip [.ptr 4 0, .fn (.func 95) [] [.ptr 3 0]])) (rangePs (rangeAt Tryd.f117 0)) (pxs s 5)) ⟨[ints T, ints W, [.msl 1 0 n noCap 1], [I (dI (s : Nat) 5)], [.msl 9 0 5 noCap 1], [], [], [], [], [I (el s 0 : Nat), I (el s 1 : Nat), I (el s 2 : Nat), I (el s 3 : Nat), I (el s 4 : Nat)]], [], []⟩ os (KrangeS none (powI 3 (s : Nat)) (fun k h => h = gA T W n s k) (pnxI 3 (s : Nat)) 5 (fr 13 u ([2, 6].zip [.ptr 4 0, .fn (.func 95) [] [.ptr 3 0]])) (o117 T W n s))) := by
  refine ⟨[], fun u => of_eq (True ∧ Keep (powI (3 : Nat) (↑s : Int) (5 : Nat) (H.mk [ints T, ints W, [AV.msl 1 0 n (9223372036854775808 : Nat) (1 : Nat)], [I (dI (↑s : Int) (5 : Nat))], [AV.msl 10 0 (6 : Nat) (9223372036854775808 : Nat) (1 : Nat)], [], [], [], [], [], [I (↑(el s (0 : Nat)) : Int), I (↑(el s (1 : Nat)) : Int), I (↑(el s (2 : Nat)) : Int), I (↑(el s (3 : Nat)) : Int), I (↑(el s (4 : Nat)) : Int), I (↑(el s (5 : Nat)) : Int)]] [] []) ∧ H.mk [ints T, ints W, [AV.msl 1 0 n (9223372036854775808 : Nat) (1 : Nat)], [I (dI (↑s : Int) ((5 : Nat) + (1 : Nat)))], [AV.msl 10 0 (6 : Nat) (9223372036854775808 : Nat) (1 : Nat)], [], [], [], [], [], [I (↑(el s (0 : Nat)) : Int), I (↑(el s (1 : Nat)) : Int), I (↑(el s (2 : Nat)) : Int), I (↑(el s (3 : Nat)) : Int), I (↑(el s (4 : Nat)) : Int), I (↑(el s (5 : Nat)) : Int)]] [] [] = H.mk [ints T, ints W, [AV.msl 1 0 n (9223372036854775808 : Nat) (1 : Nat)], [I (dI (↑s : Int) (6 : Nat))], [AV.msl 10 0 (6 : Nat) (9223372036854775808 : Nat) (1 : Nat)], [], [], [], [], [], [I (↑(el s (0 : Nat)) : Int), I (↑(el s (1 : Nat)) : Int), I (↑(el s (2 : Nat)) : Int), I (↑(el s (3 : Nat)) : Int), I (↑(el s (4 : Nat)) : Int), I (↑(el s (5 : Nat)) : Int)]] [] [])) (by kernel_rfl) ?_⟩
  refine ⟨by trivial, ?_⟩
  exact ⟨rfl, rfl⟩
theorem st117_6 (T W : List Int) (n s : Nat) : ∃ os, ∀ u, Led (wS (EnC []) (rangeBody (rangeAt Tryd.f117 0)) (setPs (fr 13 u ([2, 6].zip [.ptr 4 0, .fn (.func 95) [] [.ptr 3 0]])) (rangePs (rangeAt Tryd.f117 0)) (pxs s 6)) ⟨[ints T, ints W, [.msl 1 0 n noCap 1], [I (dI (s : Nat) 6)], [.msl 10 0 6 noCap 1], [], [], [], [], [], [I (el s 0 : Nat), I (el s 1 : Nat), I (el s 2 : Nat), I (el s 3 : Nat), I (el s 4 : Nat), I (el s 5 : Nat)]], [], []⟩ os (KrangeS none (powI 3 (s : Nat)) (fun k h => h = gA T W n s k) (pnxI 3 (s : Nat)) 6 (fr 13 u ([2, 6].zip [.ptr 4 0, .fn (.func 95) [] [.ptr 3 0]])) (o117 T W n s))) := by
  refine ⟨[], fun u => of_eq (True ∧ Keep (powI (3 : Nat) (↑s : Int) (6 : Nat) (H.mk [ints T, ints W, [AV.msl 1 0 n (9223372036854775808 : Nat) (1 : Nat)], [I (dI (↑s : Int) (6 : Nat))], [AV.msl 11 0 (7 : Nat) (9223372036854775808 : Nat) (1 : Nat)], [], [], [], [], [], [], [I (↑(el s (0 : Nat)) : Int), I (↑(el s (1 : Nat)) : Int), I (↑(el s (2 : Nat)) : Int), I (↑(el s (3 : Nat)) : Int), I (↑(el s (4 : Nat)) : Int), I (↑(el s (5 : Nat)) : Int), I (↑(el s (6 : Nat)) : Int)]] [] []) ∧ H.mk [ints T, ints W, [AV.msl 1 0 n (9223372036854775808 : Nat) (1 : Nat)], [I (dI (↑s : Int) ((6 : Nat) + (1 : Nat)))], [AV.msl 11 0 (7 : Nat) (9223372036854775808 : Nat) (1 : Nat)], [], [], [], [], [], [], [I (↑(el s (0 : Nat)) : Int), I (↑(el s (1 : Nat)) : Int), I (↑(el s (2 : Nat)) : Int), I (↑(el s (3 : Nat)) : Int), I (↑(el s (4 : Nat)) : Int), I (↑(el s (5 : Nat)) : Int), I (↑(el s (6 : Nat)) : Int)]] [] [] = H.mk [ints T, ints W, [AV.msl 1 0 n (9223372036854775808 : Nat) (1 : Nat)], [I (dI (↑s : Int) (7 : Nat))], [AV.msl 11 0 (7 : Nat) (9223372036854775808 : Nat) (1 : Nat)], [], [], [], [], [], [], [I (↑(el s (0 : Nat)) : Int), I (↑(el s (1 : Nat)) : Int), I (↑(el s (2 : Nat)) : Int), I (↑(el s (3 : Nat)) : Int), I (↑(el s (4 : Nat)) : Int), I (↑(el s (5 : Nat)) : Int), I (↑(el s (6 : Nat)) : Int)]] [] [])) (by kernel_rfl) ?_⟩
  refine ⟨by trivial, ?_⟩
  exact ⟨rfl, rfl⟩
theorem st117_7 (T W : List Int) (n s : Nat) : ∃ os, ∀ u, Led (wS (EnC []) (rangeBody (rangeAt Tryd.f117 0)) (setPs (fr 13 u ([2, 6].zip [.ptr 4 0, .fn (.func 95) [] [.ptr 3 0]])) (rangePs (rangeAt Tryd.f117 0)) (pxs s 7)) ⟨[ints T, ints W, [.msl 1 0 n noCap 1], [I (dI (s : Nat) 7)], [.msl 11 0 7 noCap 1], [], [], [], [], [], [], [I (el s 0 : Nat), I (el s 1 : Nat), I (el s 2 : Nat), I (el s 3 : Nat), I (el s 4 : Nat), I (el s 5 : Nat), I (el s 6 : Nat)]], [], []⟩ os (KrangeS none (powI 3 (s : Nat)) (fun k h => h = gA T W n s k) (pnxI 3 (s : Nat)) 7 (fr 13 u ([2, 6].zip [.ptr 4 0, .fn (.func 95) [] [.ptr 3 0]])) (o117 T W n s))) := by
  refine ⟨[], fun u => of_eq (True ∧ Keep (powI (3 : Nat) (↑s : Int) (7 : Nat) (H.mk [ints T, ints W, [AV.msl 1 0 n (9223372036854775808 : Nat) (1 : Nat)], [I (dI (↑s : Int) (7 : Nat))], [AV.msl 12 0 (8 : Nat) (9223372036854775808 : Nat) (1 : Nat)], [], [], [], [], [], [], [], [I (↑(el s (0 : Nat)) : Int), I (↑(el s (1 : Nat)) : Int), I (↑(el s (2 : Nat)) : Int), I (↑(el s (3 : Nat)) : Int), I (↑(el s (4 : Nat)) : Int), I (↑(el s (5 : Nat)) : Int), I (↑(el s (6 : Nat)) : Int), I (↑(el s (7 : Nat)) : Int)]] [] []) ∧ H.mk [ints T, ints W, [AV.msl 1 0 n (9223372036854775808 : Nat) (1 : Nat)], [I (dI (↑s : Int) ((7 : Nat) + (1 : Nat)))], [AV.msl 12 0 (8 : Nat) (9223372036854775808 : Nat) (1 : Nat)], [], [], [], [], [], [], [], [I (↑(el s (0 : Nat)) : Int), I (↑(el s (1 : Nat)) : Int), I (↑(el s (2 : Nat)) : Int), I (↑(el s (3 : Nat)) : Int), I (↑(el s (4 : Nat)) : Int), I (↑(el s (5 : Nat)) : Int), I (↑(el s (6 : Nat)) : Int), I (↑(el s (7 : Nat)) : Int)]] [] [] = H.mk [ints T, ints W, [AV.msl 1 0 n (9223372036854775808 : Nat) (1 : Nat)], [I (dI (↑s : Int) (8 : Nat))], [AV.msl 12 0 (8 : Nat) (9223372036854775808 : Nat) (1 : Nat)], [], [], [], [], [], [], [], [I (↑(el s (0 : Nat)) : Int), I (↑(el s (1 : Nat)) : Int), I (↑(el s (2 : Nat)) : Int), I (↑(el s (3 : Nat)) : Int), I (↑(el s (4 : Nat)) : Int), I (↑(el s (5 : Nat)) : Int), I (↑(el s (6 : Nat)) : Int), I (↑(el s (7 : Nat)) : Int)]] [] [])) (by kernel_rfl) ?_⟩
  refine ⟨by trivial, ?_⟩
  exact ⟨rfl, rfl⟩
theorem lp117 (T W : List Int) (n s : Nat) (hs : s < 256) :
    RangeS (EnC []) (rangeAt Tryd.f117 0) 13 [2, 6] [.ptr 4 0, .fn (.func 95) [] [.ptr 3 0]] (gA T W n s 0) (o117 T W n s) := by
  have hR : Rests (EnC []) none1 := rests mixed .nil
  refine range_at hR (by kernel_rfl) simp117 (itC (p := Pof (P := Tryd.prog) []) (s := s) hs rfl) (fun u => rfl) (fun k => rfl) none (by intro nb h; cases h) (fun k h => h = gA T W n s k) rfl (by intro nb h; cases h) ?_ ?_
  · rintro k _ hk hown rfl
    have h8 := pc_le s
    match k, hk with
    | 0, _ => exact st117_0 T W n s
    | 1, _ => exact st117_1 T W n s
    | 2, _ => exact st117_2 T W n s
    | 3, _ => exact st117_3 T W n s
    | 4, _ => exact st117_4 T W n s
    | 5, _ => exact st117_5 T W n s
    | 6, _ => exact st117_6 T W n s
    | 7, _ => exact st117_7 T W n s
    | k + 8, hk => omega
  · rintro _ rfl u
    exact .inl ⟨(), trivial, rfl, rfl, rfl⟩
theorem ok117 : FokM Tryd.prog none1 117 Tryd.f117 := ⟨mixed, by kernel_rfl, by kernel_rfl, by kernel_rfl, by kernel_rfl⟩
theorem r117 (T W : List Int) (n s : Nat) (hs : s < 256) (k : Nat) (hk : pc s = k) (h1 : 1 ≤ k) : BodyO (EnC []) none1 Tryd.f117 [.sl [] 0 .nil, .fn (.func 95) [] [.ptr 3 0]] (hC T W n s) (.msl (4 + k) 0 k noCap 1, gA T W n s k) := by
  have lp := lp117 T W n s hs
  have h8 := pc_le s
  simp only [o117, hk] at lp
  match k, h1, hk with
  | 1, _, hk =>
    refine bodyO_s ([Ans.loop [(2 : Nat), (6 : Nat)] [Out.mk Unit AX.normal [(2 : Nat)] (fun x => True) (fun x => [AV.ptr 4 0]) (fun x => H.mk [ints T, ints W, [AV.msl 1 0 n noCap (1 : Nat)], [I (dI (↑s : Int) (1 : Nat))], [AV.msl 5 0 (1 : Nat) noCap (1 : Nat)], [I (↑(el s (0 : Nat)) : Int)]] [] []) fun y => []]]) (RangeS (Env.mk Tryd.prog (Sof (P := Tryd.prog) []) (Pof (P := Tryd.prog) []) (Base.mk (4 : Nat) (0 : Nat) (987654321 : Nat)) (300 : Nat)) (rangeAt Tryd.f117 (0 : Nat)) (13 : Nat) [(2 : Nat), (6 : Nat)] [AV.ptr 4 0, AV.fn (Fn.func (95 : FuncId)) [] [AV.ptr 3 0]] (H.mk [ints T, ints W, [AV.msl 1 0 n (9223372036854775808 : Nat) (1 : Nat)], [I (↑s : Int)], [AV.sl [] (0 : Nat) Room.nil]] [] []) [Out.mk Unit AX.normal [(2 : Nat)] (fun x => True) (fun x => [AV.ptr 4 0]) (fun x => H.mk [ints T, ints W, [AV.msl 1 0 n noCap (1 : Nat)], [I (dI (↑s : Int) (1 : Nat))], [AV.msl 5 0 (1 : Nat) noCap (1 : Nat)], [I (↑(el s (0 : Nat)) : Int)]] [] []) fun y => []] ∧ (∀ (y : Unit), True → ∀ (u : Nat → AV), (AV.msl 5 0 (1 : Nat) (9223372036854775808 : Nat) (1 : Nat), H.mk [ints T, ints W, [AV.msl 1 0 n (9223372036854775808 : Nat) (1 : Nat)], [I (dI (↑s : Int) (1 : Nat))], [AV.msl 5 0 (1 : Nat) (9223372036854775808 : Nat) (1 : Nat)], [I (↑(el s (0 : Nat)) : Int)]] [] []) = (AV.msl 5 0 (1 : Nat) (9223372036854775808 : Nat) (1 : Nat), H.mk [ints T, ints W, [AV.msl 1 0 n (9223372036854775808 : Nat) (1 : Nat)], [I (dI (↑s : Int) (1 : Nat))], [AV.msl 5 0 (1 : Nat) (9223372036854775808 : Nat) (1 : Nat)], [I (↑(el s (0 : Nat)) : Int)]] [] [])) ∧ True) (by kernel_rfl) ?_
    refine ⟨lp, ?_⟩
    refine And.intro ?_ ?_
    · skip
      intro y
      intro w1
      intro u
      rfl
    · skip
      trivial
  | 2, _, hk =>
    refine bodyO_s ([Ans.loop [(2 : Nat), (6 : Nat)] [Out.mk Unit AX.normal [(2 : Nat)] (fun x => True) (fun x => [AV.ptr 4 0]) (fun x => H.mk [ints T, ints W, [AV.msl 1 0 n noCap (1 : Nat)], [I (dI (↑s : Int) (2 : Nat))], [AV.msl 6 0 (2 : Nat) noCap (1 : Nat)], [], [I (↑(el s (0 : Nat)) : Int), I (↑(el s (1 : Nat)) : Int)]] [] []) fun y => []]]) (RangeS (Env.mk Tryd.prog (Sof (P := Tryd.prog) []) (Pof (P := Tryd.prog) []) (Base.mk (4 : Nat) (0 : Nat) (987654321 : Nat)) (300 : Nat)) (rangeAt Tryd.f117 (0 : Nat)) (13 : Nat) [(2 : Nat), (6 : Nat)] [AV.ptr 4 0, AV.fn (Fn.func (95 : FuncId)) [] [AV.ptr 3 0]] (H.mk [ints T, ints W, [AV.msl 1 0 n (9223372036854775808 : Nat) (1 : Nat)], [I (↑s : Int)], [AV.sl [] (0 : Nat) Room.nil]] [] []) [Out.mk Unit AX.normal [(2 : Nat)] (fun x => True) (fun x => [AV.ptr 4 0]) (fun x => H.mk [ints T, ints W, [AV.msl 1 0 n noCap (1 : Nat)], [I (dI (↑s : Int) (2 : Nat))], [AV.msl 6 0 (2 : Nat) noCap (1 : Nat)], [], [I (↑(el s (0 : Nat)) : Int), I (↑(el s (1 : Nat)) : Int)]] [] []) fun y => []] ∧ (∀ (y : Unit), True → ∀ (u : Nat → AV), (AV.msl 6 0 (2 : Nat) (9223372036854775808 : Nat) (1 : Nat), H.mk [ints T, ints W, [AV.msl 1 0 n (9223372036854775808 : Nat) (1 : Nat)], [I (dI (↑s : Int) (2 : Nat))], [AV.msl 6 0 (2 : Nat) (9223372036854775808 : Nat) (1 : Nat)], [], [I (↑(el s (0 : Nat)) : Int), I (↑(el s (1 : Nat)) : Int)]] [] []) = (AV.msl 6 0 (2 : Nat) (9223372036854775808 : Nat) (1 : Nat), H.mk [ints T, ints W, [AV.msl 1 0 n (9223372036854775808 : Nat) (1 : Nat)], [I (dI (↑s : Int) (2 : Nat))], [AV.msl 6 0 (2 : Nat) (9223372036854775808 : Nat) (1 : Nat)], [], [I (↑(el s (0 : Nat)) : Int), I (↑(el s (1 : Nat)) : Int)]] [] [])) ∧ True) (by kernel_rfl) ?_
    refine ⟨lp, ?_⟩
    refine And.intro ?_ ?_
    · skip
      intro y
      intro w1
      intro u
      rfl
    · skip
      trivial
  | 3, _, hk =>
    refine bodyO_s ([Ans.loop [(2 : Nat), (6 : Nat)] [Out.mk Unit AX.normal [(2 : Nat)] (fun x => True) (fun x => [AV.ptr 4 0]) (fun x => H.mk [ints T, ints W, [AV.msl 1 0 n noCap (1 : Nat)], [I (dI (↑s : Int) (3 : Nat))], [AV.msl 7 0 (3 : Nat) noCap (1 : Nat)], [], [], [I (↑(el s (0 : Nat)) : Int), I (↑(el s (1 : Nat)) : Int), I (↑(el s (2 : Nat)) : Int)]] [] []) fun y => []]]) (RangeS (Env.mk Tryd.prog (Sof (P := Tryd.prog) []) (Pof (P := Tryd.prog) []) (Base.mk (4 : Nat) (0 : Nat) (987654321 : Nat)) (300 : Nat)) (rangeAt Tryd.f117 (0 : Nat)) (13 : Nat) [(2 : Nat), (6 : Nat)] [AV.ptr 4 0, AV.fn (Fn.func (95 : FuncId)) [] [AV.ptr 3 0]] (H.mk [ints T, ints W, [AV.msl 1 0 n (9223372036854775808 : Nat) (1 : Nat)], [I (↑s : Int)], [AV.sl [] (0 : Nat) Room.nil]] [] []) [Out.mk Unit AX.normal [(2 : Nat)] (fun x => True) (fun x => [AV.ptr 4 0]) (fun x => H.mk [ints T, ints W, [AV.msl 1 0 n noCap (1 : Nat)], [I (dI (↑s : Int) (3 : Nat))], [AV.msl 7 0 (3 : Nat) noCap (1 : Nat)], [], [], [I (↑(el s (0 : Nat)) : Int), I (↑(el s (1 : Nat)) : Int), I (↑(el s (2 : Nat)) : Int)]] [] []) fun y => []] ∧ (∀ (y : Unit), True → ∀ (u : Nat → AV), (AV.msl 7 0 (3 : Nat) (9223372036854775808 : Nat) (1 : Nat), H.mk [ints T, ints W, [AV.msl 1 0 n (9223372036854775808 : Nat) (1 : Nat)], [I (dI (↑s : Int) (3 : Nat))], [AV.msl 7 0 (3 : Nat) (9223372036854775808 : Nat) (1 : Nat)], [], [], [I (↑(el s (0 : Nat)) : Int), I (↑(el s (1 : Nat)) : Int), I (↑(el s (2 : Nat)) : Int)]] [] []) = (AV.msl 7 0 (3 : Nat) (9223372036854775808 : Nat) (1 : Nat), H.mk [ints T, ints W, [AV.msl 1 0 n (9223372036854775808 : Nat) (1 : Nat)], [I (dI (↑s : Int) (3 : Nat))], [AV.msl 7 0 (3 : Nat) (9223372036854775808 : Nat) (1 : Nat)], [], [], [I (↑(el s (0 : Nat)) : Int), I (↑(el s (1 : Nat)) : Int), I (↑(el s (2 : Nat)) : Int)]] [] [])) ∧ True) (by kernel_rfl) ?_
    refine ⟨lp, ?_⟩
    refine And.intro ?_ ?_
    · skip
      intro y
      intro w1
      intro u
      rfl
    · skip
      trivial
  | 4, _, hk =>
    refine bodyO_s ([Ans.loop [(2 : Nat), (6 : Nat)] [Out.mk Unit AX.normal [(2 : Nat)] (fun x => True) (fun x => [AV.ptr 4 0]) (fun x => H.mk [ints T, ints W, [AV.msl 1 0 n noCap (1 : Nat)], [I (dI (↑s : Int) (4 : Nat))], [AV.msl 8 0 (4 : Nat) noCap (1 : Nat)], [], [], [], [I (↑(el s (0 : Nat)) : Int), I (↑(el s (1 : Nat)) : Int), I (↑(el s (2 : Nat)) : Int), I (↑(el s (3 : Nat)) : Int)]] [] []) fun y => []]]) (RangeS (Env.mk Tryd.prog (Sof (P := Tryd.prog) []) (Pof (P := Tryd.prog) []) (Base.mk (4 : Nat) (0 : Nat) (987654321 : Nat)) (300 : Nat)) (rangeAt Tryd.f117 (0 : Nat)) (13 : Nat) [(2 : Nat), (6 : Nat)] [AV.ptr 4 0, AV.fn (Fn.func (95 : FuncId)) [] [AV.ptr 3 0]] (H.mk [ints T, ints W, [AV.msl 1 0 n (9223372036854775808 : Nat) (1 : Nat)], [I (↑s : Int)], [AV.sl [] (0 : Nat) Room.nil]] [] []) [Out.mk Unit AX.normal [(2 : Nat)] (fun x => True) (fun x => [AV.ptr 4 0]) (fun x => H.mk [ints T, ints W, [AV.msl 1 0 n noCap (1 : Nat)], [I (dI (↑s : Int) (4 : Nat))], [AV.msl 8 0 (4 : Nat) noCap (1 : Nat)], [], [], [], [I (↑(el s (0 : Nat)) : Int), I (↑(el s (1 : Nat)) : Int), I (↑(el s (2 : Nat)) : Int), I (↑(el s (3 : Nat)) : Int)]] [] []) fun y => []] ∧ (∀ (y : Unit), True → ∀ (u : Nat → AV), (AV.msl 8 0 (4 : Nat) (9223372036854775808 : Nat) (1 : Nat), H.mk [ints T, ints W, [AV.msl 1 0 n (9223372036854775808 : Nat) (1 : Nat)], [I (dI (↑s : Int) (4 : Nat))], [AV.msl 8 0 (4 : Nat) (9223372036854775808 : Nat) (1 : Nat)], [], [], [], [I (↑(el s (0 : Nat)) : Int), I (↑(el s (1 : Nat)) : Int), I (↑(el s (2 : Nat)) : Int), I (↑(el s (3 : Nat)) : Int)]] [] []) = (AV.msl 8 0 (4 : Nat) (9223372036854775808 : Nat) (1 : Nat), H.mk [ints T, ints W, [AV.msl 1 0 n (9223372036854775808 : Nat) (1 : Nat)], [I (dI (↑s : Int) (4 : Nat))], [AV.msl 8 0 (4 : Nat) (9223372036854775808 : Nat) (1 : Nat)], [], [], [], [I (↑(el s (0 : Nat)) : Int), I (↑(el s (1 : Nat)) : Int), I (↑(el s (2 : Nat)) : Int), I (↑(el s (3 : Nat)) : Int)]] [] [])) ∧ True) (by kernel_rfl) ?_
    refine ⟨lp, ?_⟩
    refine And.intro ?_ ?_
    · skip
      intro y
      intro w1
      intro u
      rfl
    · skip
      trivial
  | 5, _, hk =>
    refine bodyO_s ([Ans.loop [(2 : Nat), (6 : Nat)] [Out.mk Unit AX.normal [(2 : Nat)] (fun x => True) (fun x => [AV.ptr 4 0]) (fun x => H.mk [ints T, ints W, [AV.msl 1 0 n noCap (1 : Nat)], [I (dI (↑s : Int) (5 : Nat))], [AV.msl 9 0 (5 : Nat) noCap (1 : Nat)], [], [], [], [], [I (↑(el s (0 : Nat)) : Int), I (↑(el s (1 : Nat)) : Int), I (↑(el s (2 : Nat)) : Int), I (↑(el s (3 : Nat)) : Int), I (↑(el s (4 : Nat)) : Int)]] [] []) fun y => []]]) (RangeS (Env.mk Tryd.prog (Sof (P := Tryd.prog) []) (Pof (P := Tryd.prog) []) (Base.mk (4 : Nat) (0 : Nat) (987654321 : Nat)) (300 : Nat)) (rangeAt Tryd.f117 (0 : Nat)) (13 : Nat) [(2 : Nat), (6 : Nat)] [AV.ptr 4 0, AV.fn (Fn.func (95 : FuncId)) [] [AV.ptr 3 0]] (H.mk [ints T, ints W, [AV.msl 1 0 n (9223372036854775808 : Nat) (1 : Nat)], [I (↑s : Int)], [AV.sl [] (0 : Nat) Room.nil]] [] []) [Out.mk Unit AX.normal [(2 : Nat)] (fun x => True) (fun x => [AV.ptr 4 0]) (fun x => H.mk [ints T, ints W, [AV.msl 1 0 n noCap (1 : Nat)], [I (dI (↑s : Int) (5 : Nat))], [AV.msl 9 0 (5 : Nat) noCap (1 : Nat)], [], [], [], [], [I (↑(el s (0 : Nat)) : Int), I (↑(el s (1 : Nat)) : Int), I (↑(el s (2 : Nat)) : Int), I (↑(el s (3 : Nat)) : Int), I (↑(el s (4 : Nat)) : Int)]] [] []) fun y => []] ∧ (∀ (y : Unit), True → ∀ (u : Nat → AV), (AV.msl 9 0 (5 : Nat) (9223372036854775808 : Nat) (1 : Nat), H.mk [ints T, ints W, [AV.msl 1 0 n (9223372036854775808 : Nat) (1 : Nat)], [I (dI (↑s : Int) (5 : Nat))], [AV.msl 9 0 (5 : Nat) (9223372036854775808 : Nat) (1 : Nat)], [], [], [], [], [I (↑(el s (0 : Nat)) : Int), I (↑(el s (1 : Nat)) : Int), I (↑(el s (2 : Nat)) : Int), I (↑(el s (3 : Nat)) : Int), I (↑(el s (4 : Nat)) : Int)]] [] []) = (AV.msl 9 0 (5 : Nat) (9223372036854775808 : Nat) (1 : Nat), H.mk [ints T, ints W, [AV.msl 1 0 n (9223372036854775808 : Nat) (1 : Nat)], [I (dI (↑s : Int) (5 : Nat))], [AV.msl 9 0 (5 : Nat) (9223372036854775808 : Nat) (1 : Nat)], [], [], [], [], [I (↑(el s (0 : Nat)) : Int), I (↑(el s (1 : Nat)) : Int), I (↑(el s (2 : Nat)) : Int), I (↑(el s (3 : Nat)) : Int), I (↑(el s (4 : Nat)) : Int)]] [] [])) ∧ True) (by kernel_rfl) ?_
    refine ⟨lp, ?_⟩
    refine And.intro ?_ ?_
    · skip
      intro y
      intro w1
      intro u
      rfl
    · skip
      trivial
  | 6, _, hk =>
    refine bodyO_s ([Ans.loop [(2 : Nat), (6 : Nat)] [Out.mk Unit AX.normal [(2 : Nat)] (fun x => True) (fun x => [AV.ptr 4 0]) (fun x => H.mk [ints T, ints W, [AV.msl 1 0 n noCap (1 : Nat)], [I (dI (↑s : Int) (6 : Nat))], [AV.msl 10 0 (6 : Nat) noCap (1 : Nat)], [], [], [], [], [], [I (↑(el s (0 : Nat)) : Int), I (↑(el s (1 : Nat)) : Int), I (↑(el s (2 : Nat)) : Int), I (↑(el s (3 : Nat)) : Int), I (↑(el s (4 : Nat)) : Int), I (↑(el s (5 : Nat)) : Int)]] [] []) fun y => []]]) (RangeS (Env.mk Tryd.prog (Sof (P := Tryd.prog) []) (Pof (P := Tryd.prog) []) (Base.mk (4 : Nat) (0 : Nat) (987654321 : Nat)) (300 : Nat)) (rangeAt Tryd.f117 (0 : Nat)) (13 : Nat) [(2 : Nat), (6 : Nat)] [AV.ptr 4 0, AV.fn (Fn.func (95 : FuncId)) [] [AV.ptr 3 0]] (H.mk [ints T, ints W, [AV.msl 1 0 n (9223372036854775808 : Nat) (1 : Nat)], [I (↑s : Int)], [AV.sl [] (0 : Nat) Room.nil]] [] []) [Out.mk Unit AX.normal [(2 : Nat)] (fun x => True) (fun x => [AV.ptr 4 0]) (fun x => H.mk [ints T, ints W, [AV.msl 1 0 n noCap (1 : Nat)], [I (dI (↑s : Int) (6 : Nat))], [AV.msl 10 0 (6 : Nat) noCap (1 : Nat)], [], [], [], [], [], [I (↑(el s (0 : Nat)) : Int), I (↑(el s (1 : Nat)) : Int), I (↑(el s (2 : Nat)) : Int), I (↑(el s (3 : Nat)) : Int), I (↑(el s (4 : Nat)) : Int), I (↑(el s (5 : Nat)) : Int)]] [] []) fun y => []] ∧ (∀ (y : Unit), True → ∀ (u : Nat → AV), (AV.msl 10 0 (6 : Nat) (9223372036854775808 : Nat) (1 : Nat), H.mk [ints T, ints W, [AV.msl 1 0 n (9223372036854775808 : Nat) (1 : Nat)], [I (dI (↑s : Int) (6 : Nat))], [AV.msl 10 0 (6 : Nat) (9223372036854775808 : Nat) (1 : Nat)], [], [], [], [], [], [I (↑(el s (0 : Nat)) : Int), I (↑(el s (1 : Nat)) : Int), I (↑(el s (2 : Nat)) : Int), I (↑(el s (3 : Nat)) : Int), I (↑(el s (4 : Nat)) : Int), I (↑(el s (5 : Nat)) : Int)]] [] []) = (AV.msl 10 0 (6 : Nat) (9223372036854775808 : Nat) (1 : Nat), H.mk [ints T, ints W, [AV.msl 1 0 n (9223372036854775808 : Nat) (1 : Nat)], [I (dI (↑s : Int) (6 : Nat))], [AV.msl 10 0 (6 : Nat) (9223372036854775808 : Nat) (1 : Nat)], [], [], [], [], [], [I (↑(el s (0 : Nat)) : Int), I (↑(el s (1 : Nat)) : Int), I (↑(el s (2 : Nat)) : Int), I (↑(el s (3 : Nat)) : Int), I (↑(el s (4 : Nat)) : Int), I (↑(el s (5 : Nat)) : Int)]] [] [])) ∧ True) (by kernel_rfl) ?_
    refine ⟨lp, ?_⟩
    refine And.intro ?_ ?_
    · skip
      intro y
      intro w1
      intro u
      rfl
    · skip
      trivial
  | 7, _, hk =>
    refine bodyO_s ([Ans.loop [(2 : Nat), (6 : Nat)] [Out.mk Unit AX.normal [(2 : Nat)] (fun x => True) (fun x => [AV.ptr 4 0]) (fun x => H.mk [ints T, ints W, [AV.msl 1 0 n noCap (1 : Nat)], [I (dI (↑s : Int) (7 : Nat))], [AV.msl 11 0 (7 : Nat) noCap (1 : Nat)], [], [], [], [], [], [], [I (↑(el s (0 : Nat)) : Int), I (↑(el s (1 : Nat)) : Int), I (↑(el s (2 : Nat)) : Int), I (↑(el s (3 : Nat)) : Int), I (↑(el s (4 : Nat)) : Int), I (↑(el s (5 : Nat)) : Int), I (↑(el s (6 : Nat)) : Int)]] [] []) fun y => []]]) (RangeS (Env.mk Tryd.prog (Sof (P := Tryd.prog) []) (Pof (P := Tryd.prog) []) (Base.mk (4 : Nat) (0 : Nat) (987654321 : Nat)) (300 : Nat)) (rangeAt Tryd.f117 (0 : Nat)) (13 : Nat) [(2 : Nat), (6 : Nat)] [AV.ptr 4 0, AV.fn (Fn.func (95 : FuncId)) [] [AV.ptr 3 0]] (H.mk [ints T, ints W, [AV.msl 1 0 n (9223372036854775808 : Nat) (1 : Nat)], [I (↑s : Int)], [AV.sl [] (0 : Nat) Room.nil]] [] []) [Out.mk Unit AX.normal [(2 : Nat)] (fun x => True) (fun x => [AV.ptr 4 0]) (fun x => H.mk [ints T, ints W, [AV.msl 1 0 n noCap (1 : Nat)], [I (dI (↑s : Int) (7 : Nat))], [AV.msl 11 0 (7 : Nat) noCap (1 : Nat)], [], [], [], [], [], [], [I (↑(el s (0 : Nat)) : Int), I (↑(el s (1 : Nat)) : Int), I (↑(el s (2 : Nat)) : Int), I (↑(el s (3 : Nat)) : Int), I (↑(el s (4 : Nat)) : Int), I (↑(el s (5 : Nat)) : Int), I (↑(el s (6 : Nat)) : Int)]] [] []) fun y => []] ∧ (∀ (y : Unit), True → ∀ (u : Nat → AV), (AV.msl 11 0 (7 : Nat) (9223372036854775808 : Nat) (1 : Nat), H.mk [ints T, ints W, [AV.msl 1 0 n (9223372036854775808 : Nat) (1 : Nat)], [I (dI (↑s : Int) (7 : Nat))], [AV.msl 11 0 (7 : Nat) (9223372036854775808 : Nat) (1 : Nat)], [], [], [], [], [], [], [I (↑(el s (0 : Nat)) : Int), I (↑(el s (1 : Nat)) : Int), I (↑(el s (2 : Nat)) : Int), I (↑(el s (3 : Nat)) : Int), I (↑(el s (4 : Nat)) : Int), I (↑(el s (5 : Nat)) : Int), I (↑(el s (6 : Nat)) : Int)]] [] []) = (AV.msl 11 0 (7 : Nat) (9223372036854775808 : Nat) (1 : Nat), H.mk [ints T, ints W, [AV.msl 1 0 n (9223372036854775808 : Nat) (1 : Nat)], [I (dI (↑s : Int) (7 : Nat))], [AV.msl 11 0 (7 : Nat) (9223372036854775808 : Nat) (1 : Nat)], [], [], [], [], [], [], [I (↑(el s (0 : Nat)) : Int), I (↑(el s (1 : Nat)) : Int), I (↑(el s (2 : Nat)) : Int), I (↑(el s (3 : Nat)) : Int), I (↑(el s (4 : Nat)) : Int), I (↑(el s (5 : Nat)) : Int), I (↑(el s (6 : Nat)) : Int)]] [] [])) ∧ True) (by kernel_rfl) ?_
    refine ⟨lp, ?_⟩
    refine And.intro ?_ ?_
    · skip
      intro y
      intro w1
      intro u
      rfl
    · skip
      trivial
  | 8, _, hk =>
    refine bodyO_s ([Ans.loop [(2 : Nat), (6 : Nat)] [Out.mk Unit AX.normal [(2 : Nat)] (fun x => True) (fun x => [AV.ptr 4 0]) (fun x => H.mk [ints T, ints W, [AV.msl 1 0 n noCap (1 : Nat)], [I (dI (↑s : Int) (8 : Nat))], [AV.msl 12 0 (8 : Nat) noCap (1 : Nat)], [], [], [], [], [], [], [], [I (↑(el s (0 : Nat)) : Int), I (↑(el s (1 : Nat)) : Int), I (↑(el s (2 : Nat)) : Int), I (↑(el s (3 : Nat)) : Int), I (↑(el s (4 : Nat)) : Int), I (↑(el s (5 : Nat)) : Int), I (↑(el s (6 : Nat)) : Int), I (↑(el s (7 : Nat)) : Int)]] [] []) fun y => []]]) (RangeS (Env.mk Tryd.prog (Sof (P := Tryd.prog) []) (Pof (P := Tryd.prog) []) (Base.mk (4 : Nat) (0 : Nat) (987654321 : Nat)) (300 : Nat)) (rangeAt Tryd.f117 (0 : Nat)) (13 : Nat) [(2 : Nat), (6 : Nat)] [AV.ptr 4 0, AV.fn (Fn.func (95 : FuncId)) [] [AV.ptr 3 0]] (H.mk [ints T, ints W, [AV.msl 1 0 n (9223372036854775808 : Nat) (1 : Nat)], [I (↑s : Int)], [AV.sl [] (0 : Nat) Room.nil]] [] []) [Out.mk Unit AX.normal [(2 : Nat)] (fun x => True) (fun x => [AV.ptr 4 0]) (fun x => H.mk [ints T, ints W, [AV.msl 1 0 n noCap (1 : Nat)], [I (dI (↑s : Int) (8 : Nat))], [AV.msl 12 0 (8 : Nat) noCap (1 : Nat)], [], [], [], [], [], [], [], [I (↑(el s (0 : Nat)) : Int), I (↑(el s (1 : Nat)) : Int), I (↑(el s (2 : Nat)) : Int), I (↑(el s (3 : Nat)) : Int), I (↑(el s (4 : Nat)) : Int), I (↑(el s (5 : Nat)) : Int), I (↑(el s (6 : Nat)) : Int), I (↑(el s (7 : Nat)) : Int)]] [] []) fun y => []] ∧ (∀ (y : Unit), True → ∀ (u : Nat → AV), (AV.msl 12 0 (8 : Nat) (9223372036854775808 : Nat) (1 : Nat), H.mk [ints T, ints W, [AV.msl 1 0 n (9223372036854775808 : Nat) (1 : Nat)], [I (dI (↑s : Int) (8 : Nat))], [AV.msl 12 0 (8 : Nat) (9223372036854775808 : Nat) (1 : Nat)], [], [], [], [], [], [], [], [I (↑(el s (0 : Nat)) : Int), I (↑(el s (1 : Nat)) : Int), I (↑(el s (2 : Nat)) : Int), I (↑(el s (3 : Nat)) : Int), I (↑(el s (4 : Nat)) : Int), I (↑(el s (5 : Nat)) : Int), I (↑(el s (6 : Nat)) : Int), I (↑(el s (7 : Nat)) : Int)]] [] []) = (AV.msl 12 0 (8 : Nat) (9223372036854775808 : Nat) (1 : Nat), H.mk [ints T, ints W, [AV.msl 1 0 n (9223372036854775808 : Nat) (1 : Nat)], [I (dI (↑s : Int) (8 : Nat))], [AV.msl 12 0 (8 : Nat) (9223372036854775808 : Nat) (1 : Nat)], [], [], [], [], [], [], [], [I (↑(el s (0 : Nat)) : Int), I (↑(el s (1 : Nat)) : Int), I (↑(el s (2 : Nat)) : Int), I (↑(el s (3 : Nat)) : Int), I (↑(el s (4 : Nat)) : Int), I (↑(el s (5 : Nat)) : Int), I (↑(el s (6 : Nat)) : Int), I (↑(el s (7 : Nat)) : Int)]] [] [])) ∧ True) (by kernel_rfl) ?_
    refine ⟨lp, ?_⟩
    refine And.intro ?_ ?_
    · skip
      intro y
      intro w1
      intro u
      rfl
    · skip
      trivial
  | k + 9, _, hk => omega
theorem CallOkB.full {P : Program} {nb : Nat} {f : FuncId} {args : List AV} {h : H} {v : AV} {h' : H} (k : CallOkB P nb f args h v h') (hn : h.blk.length ≤ nb) : CallOk P f args h v h' := fun G w vs s hg hr => k G w vs s (fun γ hγ => Nat.le_trans (s.bases γ hγ).1 hn) hg hr
theorem k117 (T W : List Int) (n s : Nat) (hs : s < 256) (k : Nat) (hk : pc s = k) (h1 : 1 ≤ k) : CallOk Tryd.prog 117 [.sl [] 0 .nil, .fn (.func 95) [] [.ptr 3 0]] (hC T W n s) (.msl 4 0 k noCap 1) ((gA T W n s k).pick 4 (4 + k)) := by
  have h8 := pc_le s
  have hR : Rests (EnC []) none1 := rests mixed .nil
  have q := CallOkB.full ((r117 T W n s hs k hk h1).call ok117 hR rfl) (Nat.le_refl 4)
  have hcl : (gA T W n s k).clean 4 := by
    intro cs hcs
    have : cs = ints T ∨ cs = ints W ∨ cs = [.msl 1 0 n noCap 1] ∨ cs = [I (dI (s : Nat) k)] := by
      match k, h1, hk with
      | 1, _, _ => simpa [gA] using hcs
      | 2, _, _ => simpa [gA] using hcs
      | 3, _, _ => simpa [gA] using hcs
      | 4, _, _ => simpa [gA] using hcs
      | 5, _, _ => simpa [gA] using hcs
      | 6, _, _ => simpa [gA] using hcs
      | 7, _, _ => simpa [gA] using hcs
      | 8, _, _ => simpa [gA] using hcs
      | k + 9, _, hk => omega
    rcases this with rfl | rfl | rfl | rfl
    · exact ints_bnds _ _ _ _
    · exact ints_bnds _ _ _ _
    · rfl
    · rfl
  have hp : ∃ cp, (gA T W n s k).blk[4 + k]? = some cp ∧ AV.bnds 4 (gA T W n s k).toks.length (gA T W n s k).maps.length cp = true := by
    match k, h1, hk with
    | 1, _, _ => exact ⟨_, rfl, rfl⟩
    | 2, _, _ => exact ⟨_, rfl, rfl⟩
    | 3, _, _ => exact ⟨_, rfl, rfl⟩
    | 4, _, _ => exact ⟨_, rfl, rfl⟩
    | 5, _, _ => exact ⟨_, rfl, rfl⟩
    | 6, _, _ => exact ⟨_, rfl, rfl⟩
    | 7, _, _ => exact ⟨_, rfl, rfl⟩
    | 8, _, _ => exact ⟨_, rfl, rfl⟩
    | k + 9, _, hk => omega
  obtain ⟨cp, hp1, hp2⟩ := hp
  exact q.pick hp1 (show 4 ≤ 4 + k by omega) hp2 hcl
end Go.Proofs.Rnk

