/- Layer 2: how many players a set has; kings, by the program and by the reference. -/
import Derived.Test.YtnnhomkkggkkfaaDoorRkH
import Derived.KernelRfl
set_option linter.unusedSimpArgs false
set_option linter.unusedVariables false
set_option linter.unnecessarySimpa false
set_option maxHeartbeats 4000000
set_option maxRecDepth 100000
namespace Go.Proofs.Rnk
open Go Go.VM
open Go.Proofs.Sur (andn andn_bit andn_le i_wrap i_and i_or i_andn i_shl i_shr bit_01)

theorem dI_at {x : Int} (hx : s8 x) {j : Nat} (hj : j < pc x.toNat) : 0 < dI x j ∧ dI x j < 256 ∧ IntKind.i64.wrap (dI x j - 1) = dI x j - 1 ∧
    IntKind.i64.wrap ((BitVec.ofInt IntKind.i64.bits (dI x j) &&& BitVec.ofInt IntKind.i64.bits (dI x j - 1)).toNat : Int) = dI x (j + 1) := by
  obtain ⟨h1, h2, _⟩ := drop1_at (s := x.toNat) (by have := hx; simp only [s8] at this; omega) hj
  rw [dI_eq hx.1, dI_eq hx.1 (j + 1)]
  refine ⟨by omega, by omega, wr _ (by omega) (by omega), ?_⟩
  have e : ((drop1 x.toNat j : Nat) : Int) - 1 = ((drop1 x.toNat j - 1 : Nat) : Int) := by omega
  rw [e]
  exact i_and (a := drop1 x.toNat j) (b := drop1 x.toNat j - 1) (by omega) (by omega)
theorem dI_end {x : Int} (hx : s8 x) : dI x (pc x.toNat) = 0 := by
  rw [dI_eq hx.1, drop1_end (by have := hx; simp only [s8] at this; omega)]; rfl
abbrev o62 (x : Int) : List Out := [.mk Unit (.exit 0) [3] (fun _ => True) (fun _ => [I (pc x.toNat : Nat)]) (fun _ => .nil) (fun _ => [])]
theorem simp62 : allSimpleM none1 (loopAt Tryd.f62 0) = true := by kernel_rfl
theorem lp62 (x : Int) (hx : s8 x) : LoopS (En6 []) (loopAt Tryd.f62 0) 13 [0, 3] [I x, I 0] .nil (o62 x) := by
  have hR : Rests (En6 []) none1 := rests mixed .nil
  have h8 := pc_le x.toNat
  refine loop_s hR simp62 none (by intro _ h; cases h) (fun j vs h => h = .nil ∧ vs = [I (dI x j), I j] ∧ j ≤ pc x.toNat) (pc x.toNat) ⟨rfl, rfl, Nat.zero_le _⟩ (by intro _ h; cases h) ?_
  rintro j vs h hj ⟨rfl, rfl, hle⟩
  have ev0 := wj1 (j := j) (by omega)
  by_cases hlt : j < pc x.toNat
  · obtain ⟨h1, h2, ev1, ev2⟩ := dI_at hx hlt
    have hle' : j + 1 ≤ pc x.toNat := hlt
    refine ⟨[Ans.o (Orc.b true), Ans.o (Orc.val 11 (I (↑(j + (1 : Nat)) : Int)) H.nil), Ans.o (Orc.val 8 (I (dI x j - (1 : Int))) H.nil), Ans.o (Orc.val 9 (I (dI x (j + (1 : Nat)))) H.nil)], fun u => of_eq ((0 : Int) < dI x j ∧ aBin Tryd.prog BinOp.add (3 : Nat) (I (↑j : Int)) (I 1) = some (I (↑(j + (1 : Nat)) : Int)) ∧ aBin Tryd.prog BinOp.sub (3 : Nat) (I (dI x j)) (I 1) = some (I (dI x j - (1 : Int))) ∧ aBin Tryd.prog BinOp.and (3 : Nat) (I (dI x j)) (I (dI x j - (1 : Int))) = some (I (dI x (j + (1 : Nat)))) ∧ (13 : Nat) = (13 : Nat) ∧ j < pc x.toNat ∧ Keep (H.mk [] [] [] = H.mk [] [] [] ∧ [I (dI x (j + (1 : Nat))), I (↑(j + (1 : Nat)) : Int)] = [I (dI x (j + (1 : Nat))), I (↑(j + (1 : Nat)) : Int)] ∧ j + (1 : Nat) ≤ pc x.toNat)) (by kernel_rfl) ?_⟩
    refine ⟨by first | with_reducible assumption | omega | assumption, ?_⟩
    refine ⟨told_add (by with_reducible assumption), ?_⟩
    refine ⟨told_sub (by with_reducible assumption), ?_⟩
    refine ⟨told_and (by with_reducible assumption), ?_⟩
    refine ⟨by first | with_reducible assumption | omega | assumption, ?_⟩
    refine ⟨by first | with_reducible assumption | omega | assumption, ?_⟩
    exact ⟨rfl, rfl, hle'⟩
  · have e : j = pc x.toNat := by omega
    have h0 := dI_end hx
    rw [← e] at h0
    have hz : dI x j ≤ 0 := by omega
    subst e
    refine ⟨[Ans.o (Orc.b false)], fun u => of_eq (dI x (pc x.toNat) ≤ (0 : Int) ∧ (13 : Nat) = (13 : Nat) ∧ hits [Out.mk Unit (AX.exit (0 : Nat)) [(3 : Nat)] (fun x => True) (fun x_1 => [I (↑(pc x.toNat) : Int)]) (fun x => H.nil) fun x => []] (AX.exit (0 : Nat)) [I (dI x (pc x.toNat)), u (1 : Nat), u (2 : Nat), I (↑(pc x.toNat) : Int), I (dI x (pc x.toNat)), AV.bool false, u (6 : Nat), u (7 : Nat), u (8 : Nat), u (9 : Nat), u (10 : Nat), u (11 : Nat), u (12 : Nat)] (H.mk [] [] [])) (by kernel_rfl) ?_⟩
    refine ⟨by first | with_reducible assumption | omega | assumption, ?_⟩
    refine ⟨by first | with_reducible assumption | omega | assumption, ?_⟩
    exact .inl ⟨(), trivial, rfl, rfl, rfl⟩
theorem ok62 : FokM Tryd.prog none1 62 Tryd.f62 := ⟨mixed, by kernel_rfl, by kernel_rfl, by kernel_rfl, by kernel_rfl⟩
theorem r62 (x : Int) (hp : s8 x) : Body ⟨Tryd.prog, Sof (P := Tryd.prog) [], Pof (P := Tryd.prog) [], H.nil.base, 300⟩ none1 Tryd.f62 [I x] .nil (I (pc x.toNat : Nat), .nil) := by
  have lp := lp62 x hp
  refine body_s ([Ans.loop [(0 : Nat), (3 : Nat)] [Out.mk Unit (AX.exit (0 : Nat)) [(3 : Nat)] (fun x => True) (fun x_1 => [I (↑(pc x.toNat) : Int)]) (fun x => H.nil) fun y => []]]) (LoopS (Env.mk Tryd.prog (Sof (P := Tryd.prog) []) (Pof (P := Tryd.prog) []) H.nil.base (300 : Nat)) (loopAt Tryd.f62 (0 : Nat)) (13 : Nat) [(0 : Nat), (3 : Nat)] [I x, I 0] (H.mk [] [] []) [Out.mk Unit (AX.exit (0 : Nat)) [(3 : Nat)] (fun x => True) (fun x_1 => [I (↑(pc x.toNat) : Int)]) (fun x => H.nil) fun y => []] ∧ (∀ (y : Unit), True → ∀ (u : Nat → AV), (I (↑(pc x.toNat) : Int), H.mk [] [] []) = (I (↑(pc x.toNat) : Int), H.mk [] [] [])) ∧ True) (by kernel_rfl) ?_
  refine ⟨lp, ?_⟩
  refine And.intro ?_ ?_
  · skip
    intro y
    intro w1
    intro u
    first | with_reducible rfl | (refine bleaf_t ?_; omega) | (refine bleaf_f ?_; omega) | (refine ileaf ?_; omega) | rfl | (exfalso; omega)
  · skip
    trivial
noncomputable def c62 : PCtr Tryd.prog := sctr ok62 (X := Int) (fun x => [I x]) (fun x => s8 x) (fun x => I (pc x.toNat : Nat)) (by intro x y e _ _; simp [Int.natCast_inj] at e; simp [e]) (fun x => by simp [AV.bnds, AV.bnd, AV.wk, rm_wk_bnd]) (fun x => by first | rfl | (simp [AV.bnd, rm_wk_bnd]; done)  | (simp [AV.bnd, AV.bnds, rm_wk_bnd]; done) | simp [AV.bnd, AV.bnds, Room.bnd, rm_wk_bnd]) (fun x hx => ⟨_, _, _, .nil, r62 (x) hx⟩)
end Go.Proofs.Rnk

