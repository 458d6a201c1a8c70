/- Layer 5: what the laws of weights have in common. -/
import Derived.Test.YtlomlnkafakloaaDoorSyh
import Derived.Test.YtlomlnkafakloaaDoorSuY
import Derived.KernelRfl
set_option linter.unusedSimpArgs false
set_option linter.unusedVariables false
set_option linter.unnecessarySimpa false
set_option maxHeartbeats 4000000
set_option maxRecDepth 100000
namespace Go.Proofs.Sur
open Go Go.VM

theorem ok50 : FokM Tryd.prog none1 50 Tryd.f50 := ⟨mixed, by kernel_rfl, by kernel_rfl, by kernel_rfl, by kernel_rfl⟩
theorem r50 (n : Int) (d : Int) (hp : 1 ≤ d ∧ d ≤ 720 ∧ d ≤ n ∧ n ≤ 6 * d) : Body ⟨Tryd.prog, Sof (P := Tryd.prog) [], Pof (P := Tryd.prog) [], H.nil.base, 300⟩ none1 Tryd.f50 [.agg [I n, I d]] .nil (.bool true, .nil) := by
  obtain ⟨h1, h2, h3, h4⟩ := hp
  have h5 : d ≤ 1000 := by omega
  have ev0 : IntKind.i64.wrap (6 * d) = 6 * d := wr _ (by omega) (by omega)
  refine body_s ([Ans.o (Orc.b true), Ans.o (Orc.b true), Ans.o (Orc.b true), Ans.o (Orc.val 23 (I ((6 : Int) * d)) H.nil), Ans.o (Orc.b true)]) ((1 : Int) ≤ d ∧ d ≤ (1000 : Int) ∧ d ≤ n ∧ aBin Tryd.prog BinOp.mul (3 : Nat) (I 6) (I d) = some (I ((6 : Int) * d)) ∧ n ≤ (6 : Int) * d ∧ (AV.bool true, H.mk [] [] []) = (AV.bool true, H.mk [] [] [])) (by kernel_rfl) ?_
  refine ⟨by first | with_reducible assumption | omega | assumption, ?_⟩
  refine ⟨by first | with_reducible assumption | omega | assumption, ?_⟩
  refine ⟨by first | with_reducible assumption | omega | assumption, ?_⟩
  refine ⟨told_mul (by with_reducible assumption), ?_⟩
  refine ⟨by first | with_reducible assumption | omega | assumption, ?_⟩
  first | with_reducible rfl | (refine bleaf_t ?_; omega) | (refine bleaf_f ?_; omega) | (refine ileaf ?_; omega) | rfl | (exfalso; omega)
noncomputable def c50 : PCtr Tryd.prog := sctr ok50 (X := Int × Int) (fun x => [.agg [I x.1, I x.2]]) (fun x => 1 ≤ x.2 ∧ x.2 ≤ 720 ∧ x.2 ≤ x.1 ∧ x.1 ≤ 6 * x.2) (fun x => .bool true) (by intro x y e _ _; simp at e; simp [e]) (fun x => by simp [AV.bnds, AV.bnd, AV.wk, rm_wk_bnd]) (fun x => by first | rfl | (simp [AV.bnd, rm_wk_bnd]; done)  | (simp [AV.bnd, AV.bnds, rm_wk_bnd]; done) | simp [AV.bnd, AV.bnds, Room.bnd, rm_wk_bnd]) (fun x hx => ⟨_, _, _, .nil, r50 (x.1) (x.2) hx⟩)
theorem cut_g5 {g : List Int} (h : sz (cut g)) : cut g = g := by
  have h1 := h.2
  have : (cut g).length = min 80 g.length := by simp [cut]
  exact List.take_of_length_le (by omega)
theorem cut_gr5 {g : List Int} : Gr (cut g) ↔ Gr g := by
  constructor
  · intro h; rw [cut_g5 h.1] at h; exact h
  · intro h
    have : cut g = g := List.take_of_length_le (by have := h.1.2; omega)
    rw [this]; exact h
theorem co_eqB {g : List Int} {k : Int} (h : rdE g k = 0) : coV g k = frV (rdW g k) := if_pos h
theorem co_smB {g : List Int} {k : Int} (h : rdE g k = 0) : (coV g k).length ≤ 64 := by
  have hg := rd_gs h
  obtain ⟨h1, h2, _⟩ := frV_ok hg
  rw [co_eqB h, h1]; exact msV_le _ _
end Go.Proofs.Sur

