/- Layer 2: players collected, as a contract. -/
import Derived.Test.YtnnhomkkggkkfaaDoorRkBd
import Derived.KernelRfl
set_option linter.unusedSimpArgs false
set_option linter.unusedVariables false
set_option linter.unnecessarySimpa false
set_option maxHeartbeats 4000000
set_option maxRecDepth 100000
namespace Go.Proofs.Rnk
open Go Go.VM
open Go.Proofs.Sur (andn andn_bit andn_le i_wrap i_and i_or i_andn i_shl i_shr bit_01)

theorem k117A (T W : List Int) (n s : Nat) (hs : s < 256) (k : Nat) (hk : pc s = k) (h1 : 1 ≤ k) : CallOk Tryd.prog 117 [.sl [] 0 .nil, .fn (.func 95) [] [.ptr 3 0]] (hC T W n s) (.msl 4 0 k noCap 1) ((gA T W n s k).pick 4 (4 + k)) :=
  @CallOk.up wrI3 instInhabitedGlobs (fun _ => rfl) _ _ _ _ _ _ (k117 T W n s hs k hk h1)
theorem pc_allsC : ∀ n, n < 9 → pc (alls n) = n := by decide +kernel
theorem gA_pick (T W : List Int) (n : Nat) (h1 : 1 ≤ n) (h8 : n ≤ 8) : (gA T W n (alls n) n).pick 4 (4 + n) = hU T W (nums n) n := by
  match n, h1, h8 with
  | 1, _, _ => rfl
  | 2, _, _ => rfl
  | 3, _, _ => rfl
  | 4, _, _ => rfl
  | 5, _, _ => rfl
  | 6, _, _ => rfl
  | 7, _, _ => rfl
  | 8, _, _ => rfl
  | k + 9, _, h8 => omega
noncomputable def c117 : Ctr Tryd.prog where
  f := 117
  X := (List Int × List Int) × Nat
  args _ := [.sl [] 0 .nil, .fn (.func 95) [] [.ptr 3 0]]
  pre x h := h = hC x.1.1 x.1.2 x.2 (alls x.2) ∧ 1 ≤ x.2 ∧ x.2 ≤ 8
  res x _ := (mU x.2, hU x.1.1 x.1.2 (nums x.2) x.2)
  det := by
    rintro ⟨⟨T, W⟩, n⟩ ⟨⟨T', W'⟩, n'⟩ h _ ⟨h1, _⟩ ⟨h2, _⟩
    have h1 := h1.symm.trans h2
    simp only [hC, H.mk.injEq, List.cons.injEq, and_true, AV.msl.injEq, true_and] at h1
    obtain ⟨a, b, c, _⟩ := h1
    have a := ints_inj a
    have b := ints_inj b
    subst a b c; rfl
  ok := by
    rintro ⟨⟨T, W⟩, n⟩ h ⟨h1, h2, h3⟩
    have h1 : h = hC T W n (alls n) := h1
    subst h1
    have hp : pc (alls n) = n := pc_allsC n (by simp only at h3; omega)
    have := k117A T W n (alls n) (by have := pow8 h3; have := Nat.two_pow_pos n; show 2 ^ n - 1 < 256; simp only at *; omega) n hp h2
    rw [gA_pick T W n h2 h3] at this
    exact ⟨ok117.call, this⟩
abbrev M117 : FuncId → Bool := (· == 117)
noncomputable abbrev EnD (l : List (Ctr Tryd.prog)) : Env := ⟨Tryd.prog, Sof (P := Tryd.prog) l, Pof (P := Tryd.prog) [], ⟨4, 0, 987654321⟩, 300⟩
theorem ok91 : FokM Tryd.prog M117 91 Tryd.f91 := ⟨mixed, by kernel_rfl, by kernel_rfl, by kernel_rfl, by kernel_rfl⟩
theorem r91 (T W : List Int) (n : Nat) (h1 : 1 ≤ n) (h8 : n ≤ 8) : BodyO (EnD [c117]) M117 Tryd.f91 [.fn (.func 95) [] [.ptr 3 0]] (hC T W n (alls n)) (mU n, hU T W (nums n) n) := by
  refine bodyO_s ([Ans.o (Orc.val 4 (AV.msl 4 0 n (9223372036854775808 : Nat) (1 : Nat)) (H.mk [ints T, ints W, [AV.msl 1 0 n (9223372036854775808 : Nat) (1 : Nat)], [I 0], ints (nums n)] [] []))]) (aCall (Sof [c117]) (AV.fn (Fn.func (117 : Nat)) [] []) [AV.sl [] (0 : Nat) Room.nil, AV.fn (Fn.func (95 : FuncId)) [] [AV.ptr 3 0]] (H.mk [ints T, ints W, [AV.msl 1 0 n (9223372036854775808 : Nat) (1 : Nat)], [I (↑(alls n) : Int)]] [] []) = some (AV.msl 4 0 n (9223372036854775808 : Nat) (1 : Nat), H.mk [ints T, ints W, [AV.msl 1 0 n (9223372036854775808 : Nat) (1 : Nat)], [I 0], ints (nums n)] [] []) ∧ (AV.msl 4 0 n (9223372036854775808 : Nat) (1 : Nat), H.mk [ints T, ints W, [AV.msl 1 0 n (9223372036854775808 : Nat) (1 : Nat)], [I 0], ints (nums n)] [] []) = (AV.msl 4 0 n (9223372036854775808 : Nat) (1 : Nat), H.mk [ints T, ints W, [AV.msl 1 0 n (9223372036854775808 : Nat) (1 : Nat)], [I 0], ints (nums n)] [] [])) (by kernel_rfl) ?_
  refine ⟨acall_hit (c := c117) ((T, W), n) _ rfl ⟨rfl, h1, h8⟩, ?_⟩
  rfl
/-- 'Collect' of all players -/
noncomputable def c91 : Ctr Tryd.prog where
  f := 91
  X := (List Int × List Int) × Nat
  args _ := [.fn (.func 95) [] [.ptr 3 0]]
  pre x h := h = hC x.1.1 x.1.2 x.2 (alls x.2) ∧ 1 ≤ x.2 ∧ x.2 ≤ 8
  res x _ := (mU x.2, hU x.1.1 x.1.2 (nums x.2) x.2)
  det := by
    rintro ⟨⟨T, W⟩, n⟩ ⟨⟨T', W'⟩, n'⟩ h _ ⟨h1, _⟩ ⟨h2, _⟩
    have h1 := h1.symm.trans h2
    simp only [hC, H.mk.injEq, List.cons.injEq, and_true, AV.msl.injEq, true_and] at h1
    obtain ⟨a, b, c, _⟩ := h1
    have a := ints_inj a
    have b := ints_inj b
    subst a b c; rfl
  ok := by
    rintro ⟨⟨T, W⟩, n⟩ h ⟨h1, h2, h3⟩
    have h1 : h = hC T W n (alls n) := h1
    subst h1
    exact ⟨ok91.call, CallOkB.full ((r91 T W n h2 h3).call ok91 (rests mixed (.eff c117 rfl .nil)) rfl) (Nat.le_refl 4)⟩
end Go.Proofs.Rnk

