/- Layer 5: the cycle of five. -/
import Derived.Test.YtlomlnkafakloaaDoorSxI
import Derived.Test.YtlomlnkafakloaaDoorSyC
import Derived.Test.YtlomlnkafakloaaDoorSwB
set_option linter.unusedSimpArgs false
set_option linter.unusedVariables false
set_option linter.unnecessarySimpa false
namespace Go.Proofs.Sur
open Go Go.VM
set_option maxHeartbeats 1000000
set_option maxRecDepth 100000
/-- weights and a cover, told -/
def certB (g : List Int) (z s : Int) (x y : Nat → Int) : Bool :=
  (List.range g.length).all (fun j => decide (0 ≤ x j)) && (List.range (clV g).length).all (fun i => decide (sm g.length (fun j => if bS (clV g) i j = true then x j else 0) ≤ s)) && decide (sm g.length x = z) &&
  (List.range (clV g).length).all (fun i => decide (0 ≤ y i)) && (List.range g.length).all (fun j => decide (s ≤ sm (clV g).length (fun i => if bS (clV g) i j = true then y i else 0))) && decide (sm (clV g).length y = z)
theorem cert_of {g : List Int} {z s : Int} {x y : Nat → Int} (hs : 0 < s) (h : certB g z s x y = true) : Cert g.length (clV g).length (bS (clV g)) z s := by
  simp only [certB, Bool.and_eq_true, List.all_eq_true, List.mem_range, decide_eq_true_eq] at h
  obtain ⟨⟨⟨⟨⟨a, b⟩, c⟩, d⟩, e⟩, f⟩ := h
  exact ⟨hs, ⟨x, a, b, c⟩, ⟨y, d, e, f⟩⟩
/-- what holds of a cycle of five -/
structure Five (g : List Int) : Prop where
  gr : Gr g
  len : g.length = 5
  c1 : (coV g 1).length = 2
  c2 : (coV g 2).length = 5
  wN : wgN g = 5
  wD : wgD g = 2
  cov : cvA g = 3
  fit : ftF g g.length [0] = 3
def al' (g : List Int) : Nat := msV (nrV g) (ful (nrV g).length)
def yy (g : List Int) (i : Nat) : Int := if (at_ (clV g) i) = 1 ∨ (at_ (clV g) i) = 2 ∨ (at_ (clV g) i) = 4 ∨ (at_ (clV g) i) = 8 ∨ (at_ (clV g) i) = 16 then 0 else 1
theorem five_of {g : List Int} (hg : Gr g) (hl : g.length = 5) (h1 : al' g = 2) (hc : certB g 5 2 (fun _ => 1) (yy g) = true) (l : List Int) (h5 : l.length = 5) (hw : icF (prV (nrV g) (nrV g)) 0#64 (-1) l = true) (hcov : cvA g = 3) (hft : ftF g 5 [0] = 3) : Five g := by
  have hC := cert_of (by decide) hc
  have hv : lpV g.length (clV g).length (bS (clV g)) = (5, 2) := by rw [hC.val]; decide +kernel
  have wN : wgN g = 5 := by rw [(wg_ok hg).2.2.1]; show (lpV _ _ _).1 = 5; rw [hv]
  have wD : wgD g = 2 := by rw [(wg_ok hg).2.2.2.1]; show (lpV _ _ _).2 = 2; rw [hv]
  have r1 : rdE g 1 = 0 := (rd_some ⟨grB_t hg, by omega, by omega⟩ rfl).1
  have r2 : rdE g 2 = 0 := (rd_some (w := prV (nrV g) (nrV g)) ⟨grB_t hg, by omega, by omega⟩ (by
    show rdF g (2 - 1 : Int).toNat (nrV g) = _
    show (if 64 < (nrV g).length * g.length then none else rdF g 0 (prV (nrV g) (nrV g))) = _
    rw [nrV_len, hl, if_neg (by decide)]; rfl)).1
  have e2 : rdW g 2 = prV (nrV g) (nrV g) := (rd_some (w := prV (nrV g) (nrV g)) ⟨grB_t hg, by omega, by omega⟩ (by
    show (if 64 < (nrV g).length * g.length then none else rdF g 0 (prV (nrV g) (nrV g))) = _
    rw [nrV_len, hl, if_neg (by decide)]; rfl)).2
  have c1 : (coV g 1).length = 2 := by
    rw [(co_len r1).1]; exact h1
  refine ⟨hg, hl, c1, ?_, wN, wD, hcov, by rw [hl]; exact hft⟩
  have lo : 5 ≤ (coV g 2).length := by
    rw [co_eqB r2, ← h5]
    exact cd_le (rd_gs r2) ((ic_iff (rd_gs r2).1.1.2 l).1 (by rw [e2]; exact hw))
  have up : (coV g 2).length ≤ 5 := by
    obtain ⟨k1, k2⟩ := co_len r2
    have k1 : (coV g 2).length = msV (pwW g 1) (ful (pwW g 1).length) := k1
    have hgs := pwW_gs hg 1 k2
    obtain ⟨S, hS, hsl⟩ := ms_get hgs (ful_sub hgs.1.1.2)
    have e1 : (pwW g 1).length = (nrV g).length * g.length := by rw [pwW_len, nrV_len, hl]
    have hS' : Ind (prV (nrV g) (nrV g)) (ful ((nrV g).length * g.length)) S := by rw [← e1]; exact hS
    have h0 := pwW_gs hg 0 (by rw [hl]; decide)
    have := rosen hg (a := nrV g) h0 (by rw [nrV_len, hl]; decide) hS'
    have ha : msV (nrV g) (ful (nrV g).length) = 2 := h1
    rw [ha, wN, wD] at this
    rw [k1, ← hsl]; omega
  omega
end Go.Proofs.Sur

