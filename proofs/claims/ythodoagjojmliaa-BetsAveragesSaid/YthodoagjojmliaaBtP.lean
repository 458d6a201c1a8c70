/- Layer 9: scores, by the reference; the law. -/
import Derived.Test.YthodoagjojmliaaBtO
import Derived.KernelRfl
set_option linter.unusedSimpArgs false
set_option linter.unusedVariables false
set_option linter.unnecessarySimpa false
set_option maxHeartbeats 4000000
set_option maxRecDepth 100000
namespace Go.Proofs.Bts
open Go Go.VM

def zs (n j : Nat) : List Pr := (List.range n).map fun i => if i < j then (0, 1) else pair0
theorem zs_len (n j : Nat) : (zs n j).length = n := by simp [zs]
theorem zs_0 (n : Nat) : List.replicate n pair0 = zs n 0 := by simp [zs, List.map_const']
theorem zs_set {n j : Nat} : (zs n j).set j (0, 1) = zs n (j + 1) := by
  apply List.ext_getElem
  · simp [zs]
  · intro i h1 h2
    simp only [zs, List.getElem_set, List.getElem_map, List.getElem_range]
    by_cases e : j = i
    · subst e; simp
    · rw [if_neg e]
      by_cases h : i < j
      · rw [if_pos h, if_pos (by omega)]
      · rw [if_neg h, if_neg (by omega)]
/-- the chances of one who is sure of a world -/
def sureP (n k : Nat) : List Pr := (zs n n).set k (1, 1)
theorem sureP_len (n k : Nat) : (sureP n k).length = n := by simp [sureP, zs_len]
theorem sureP_get {n k i : Nat} (h : i < n) : (sureP n k).getD i pair0 = if k = i then (1, 1) else (0, 1) := by
  simp only [sureP, List.getD_eq_getElem?_getD, List.getElem?_set, zs_len]
  by_cases e : k = i
  · subst e; simp [h]
  · simp [e, zs, h]
theorem sureP_ok {n k i : Nat} (h : i < n) : okP ((sureP n k).getD i pair0) := by
  rw [sureP_get h]
  by_cases e : k = i
  · rw [if_pos e]; exact ⟨by decide, ⟨by decide, by decide⟩, by decide⟩
  · rw [if_neg e]; exact ⟨by decide, ⟨by decide, by decide⟩, by decide⟩
theorem sureP_den {n k i : Nat} (h : i < n) : ((sureP n k).getD i pair0).2 = 1 := by
  rw [sureP_get h]; split <;> rfl
theorem sureP_dn (n k : Nat) : ∀ {j : Nat}, j ≤ n → dn (sureP n k) j = 1
  | 0, _ => rfl
  | j + 1, h => by rw [dn_succ, sureP_dn n k (by omega), sureP_den (by omega)]; decide
theorem sureP_nums (n k : Nat) : nums (sureP n k) = uv n k := by
  apply List.ext_getElem
  · rw [nmL_len, sureP_len, uv_len]
  · intro i h1 h2
    rw [uv_len] at h2
    have e1 := nmL_get (sureP n k) (i := i) (j := (sureP n k).length) (by rw [sureP_len]; exact h2)
    have e2 := uv_get (k := k) h2
    have q1 : (nums (sureP n k))[i] = (nums (sureP n k)).getD i i0 := by simp [List.getD_eq_getElem?_getD, h1]
    have q2 : (uv n k)[i]'(by rw [uv_len]; exact h2) = (uv n k).getD i i0 := by simp [List.getD_eq_getElem?_getD, uv_len, h2]
    rw [q1, q2]
    refine e1.trans (Eq.trans ?_ e2.symm)
    rw [nm, sureP_len, sureP_dn n k (Nat.le_refl n), sureP_get h2]
    by_cases e : k = i
    · rw [if_pos e, if_pos e]; rfl
    · rw [if_neg e, if_neg e]; rfl
theorem sureP_j (n k : Nat) : jOK (sureP n k) := ⟨fun i hi => sureP_ok (by rw [sureP_len] at hi; exact hi), by rw [sureP_len, sureP_dn n k (Nat.le_refl n)]; decide⟩
theorem sureP_M {n k : Nat} (h : n ≤ 1000) : pM (sureP n k) .no := ⟨by rw [sureP_len]; exact h, fun _ => no_ne, fun i hi => by
  rw [sureP_len] at hi
  rw [sureP_get hi]
  split <;> exact ⟨⟨by decide, by decide⟩, by decide, by decide⟩⟩
theorem ixz2 {P : Program} {t : TypeId} (hu : (elemT P t).bind (sizeT P) = some 2) {b n c z : Nat} {k : IntKind} {i : Nat} (h : i < n) : aIndexAddr P t (.msl b 0 n c z) (.int k i) = some (.ptr b (0 + i * 2)) := by
  rw [Nat.zero_add]; exact ixm_pairs hu h
abbrev hS (l : List Pr) : H := ⟨[[I 0, I 0], pairsA l], [], []⟩
end Go.Proofs.Bts

