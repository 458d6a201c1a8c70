/- Layer 4: the tree that is written is one. -/
import Derived.Test.YtdnidpojcocklaaDoorLnBi
import Derived.Test.YtdnidpojcocklaaDoorLnBe
set_option linter.unusedSimpArgs false
set_option linter.unusedVariables false
set_option linter.unnecessarySimpa false
set_option maxHeartbeats 4000000
set_option maxRecDepth 100000
namespace Go.Proofs.Lrn
open Go Go.VM
theorem nd_app1 {A B : List Tri} {i : Nat} (h : i < A.length) : nd (A ++ B) i = nd A i := by
  simp only [nd, List.getD_eq_getElem?_getD, List.getElem?_append_left h]
theorem nd_app2 {A B : List Tri} {i : Nat} (h : A.length ≤ i) : nd (A ++ B) i = nd B (i - A.length) := by
  simp only [nd, List.getD_eq_getElem?_getD, List.getElem?_append_right h]
theorem nx_app1 {A B : List Tri} {i : Nat} (h : i < 2 * A.length) : nx (A ++ B) i = nx A i := by
  simp only [nx, nd_app1 (B := B) (show i / 2 < A.length by omega)]
theorem nx_app2 {A B : List Tri} {i : Nat} (h : 2 * A.length ≤ i) : nx (A ++ B) i = nx B (i - 2 * A.length) := by
  simp only [nx, nd_app2 (B := B) (show A.length ≤ i / 2 by omega), show (i - 2 * A.length) % 2 = i % 2 by omega, show (i - 2 * A.length) / 2 = i / 2 - A.length by omega]
/-- links of the nodes from the n-th on -/
structure Lks (L : List Tri) (n : Nat) : Prop where
  r : ∀ i, i < 2 * L.length → nx L i = -1 ∨ (((n + i / 2 : Nat) : Int) < nx L i ∧ nx L i < ((n + L.length : Nat) : Int))
  d : ∀ i k, i < k → k < 2 * L.length → nx L k ≠ -1 → nx L i ≠ nx L k
theorem Lks.join {A B : List Tri} {n : Nat} {x : Int} (hA : Lks A (n + 1)) (hB : Lks B (n + 1 + A.length)) (a0 : 0 < A.length) (b0 : 0 < B.length) :
    Lks ((x, ((n + 1 : Nat) : Int), ((n + 1 + A.length : Nat) : Int)) :: (A ++ B)) n := by
  obtain ⟨R, hR⟩ : ∃ R : List Tri, R = [(x, ((n + 1 : Nat) : Int), ((n + 1 + A.length : Nat) : Int))] := ⟨_, rfl⟩
  have e : (x, ((n + 1 : Nat) : Int), ((n + 1 + A.length : Nat) : Int)) :: (A ++ B) = R ++ (A ++ B) := by rw [hR]; rfl
  have hRl : R.length = 1 := by rw [hR]; rfl
  rw [e]
  have g0 : nx (R ++ (A ++ B)) 0 = ((n + 1 : Nat) : Int) := by rw [nx_app1 (by omega), hR]; rfl
  have g1 : nx (R ++ (A ++ B)) 1 = ((n + 1 + A.length : Nat) : Int) := by rw [nx_app1 (by omega), hR]; rfl
  have gA : ∀ i, 2 ≤ i → i < 2 + 2 * A.length → nx (R ++ (A ++ B)) i = nx A (i - 2) := fun i h1 h2 => by
    rw [nx_app2 (by omega), hRl, nx_app1 (by omega)]
  have gB : ∀ i, 2 + 2 * A.length ≤ i → nx (R ++ (A ++ B)) i = nx B (i - 2 - 2 * A.length) := fun i h1 => by
    rw [nx_app2 (by omega), hRl, nx_app2 (by omega)]
  have hl : (R ++ (A ++ B)).length = 1 + A.length + B.length := by simp [hRl]; omega
  have rA : ∀ i, 2 ≤ i → i < 2 + 2 * A.length → nx (R ++ (A ++ B)) i = -1 ∨ (((n + i / 2 : Nat) : Int) < nx (R ++ (A ++ B)) i ∧ nx (R ++ (A ++ B)) i < ((n + 1 + A.length : Nat) : Int)) := fun i h1 h2 => by
    rw [gA i h1 h2]
    rcases hA.r (i - 2) (by omega) with q | ⟨q1, q2⟩
    · exact .inl q
    · rw [show n + 1 + (i - 2) / 2 = n + i / 2 by omega] at q1
      exact .inr ⟨q1, q2⟩
  have rB : ∀ i, 2 + 2 * A.length ≤ i → i < 2 * (1 + A.length + B.length) → nx (R ++ (A ++ B)) i = -1 ∨ (((n + i / 2 : Nat) : Int) < nx (R ++ (A ++ B)) i ∧ nx (R ++ (A ++ B)) i < ((n + (1 + A.length + B.length) : Nat) : Int)) := fun i h1 h2 => by
    rw [gB i h1]
    rcases hB.r (i - 2 - 2 * A.length) (by omega) with q | ⟨q1, q2⟩
    · exact .inl q
    · rw [show n + 1 + A.length + (i - 2 - 2 * A.length) / 2 = n + i / 2 by omega] at q1
      exact .inr ⟨q1, by omega⟩
  refine ⟨fun i hi => ?_, fun i k hik hk hne => ?_⟩
  · rw [hl] at hi ⊢
    by_cases c0 : i = 0
    · subst c0; rw [g0]; right; omega
    · by_cases c1 : i = 1
      · subst c1; rw [g1]; right; omega
      · by_cases c2 : i < 2 + 2 * A.length
        · rcases rA i (by omega) c2 with q | ⟨q1, q2⟩
          · exact .inl q
          · exact .inr ⟨q1, by omega⟩
        · exact rB i (by omega) hi
  · rw [hl] at hk
    by_cases k1 : k = 1
    · subst k1
      have : i = 0 := by omega
      subst this
      rw [g0, g1]; omega
    · by_cases kA : k < 2 + 2 * A.length
      · rcases rA k (by omega) kA with q | ⟨q1, q2⟩
        · exact absurd q hne
        · by_cases c0 : i = 0
          · subst c0; rw [g0]; omega
          · by_cases c1 : i = 1
            · subst c1; rw [g1]; omega
            · rw [gA i (by omega) (by omega), gA k (by omega) kA]
              rw [gA k (by omega) kA] at hne
              exact hA.d (i - 2) (k - 2) (by omega) (by omega) hne
      · rcases rB k (by omega) hk with q | ⟨q1, q2⟩
        · exact absurd q hne
        · by_cases c0 : i = 0
          · subst c0; rw [g0]; omega
          · by_cases c1 : i = 1
            · subst c1; rw [g1]; omega
            · by_cases iA : i < 2 + 2 * A.length
              · rcases rA i (by omega) iA with w | ⟨w1, w2⟩
                · rw [w]; omega
                · omega
              · rw [gB i (by omega), gB k (by omega)]
                rw [gB k (by omega)] at hne
                exact hB.d (i - 2 - 2 * A.length) (k - 2 - 2 * A.length) (by omega) (by omega) hne
theorem tre_lks (p : Int) : ∀ (d : Nat) (b : BitVec 32) (n : Nat), Lks (tre p d b n) n
  | 0, b, n => ⟨fun i hi => by simp [tre] at hi, fun i k _ hk => by simp [tre] at hk⟩
  | 1, b, n => by
    have e : tre p 1 b n = [((fx p b 1 : Int), -1, -1)] := by simp [tre]
    rw [e]
    have g : ∀ i, i < 2 → nx [((fx p b 1 : Int), -1, -1)] i = -1 := fun i hi => by
      have : i = 0 ∨ i = 1 := by omega
      rcases this with rfl | rfl <;> rfl
    exact ⟨fun i hi => .inl (g i (by simpa using hi)), fun i k _ hk hne => absurd (g k (by simpa using hk)) hne⟩
  | d + 2, b, n => by
    have hA := tre_lks p (d + 1) (pt b (fx p b (d + 2)) 0) (n + 1)
    have hB := tre_lks p (d + 1) (pt b (fx p b (d + 2)) 1) (n + 1 + tn (d + 1))
    have h1 := tre_len p (d + 1) (pt b (fx p b (d + 2)) 0) (n + 1)
    have h2 := tre_len p (d + 1) (pt b (fx p b (d + 2)) 1) (n + 1 + tn (d + 1))
    have ht := tn_succ d
    rw [tre_two]
    rw [← h1] at hB
    have := hA.join (x := (fx p b (d + 2) : Int)) hB (by omega) (by rw [h1]; omega)
    rw [h1] at this
    exact this
theorem lks_td {L : List Tri} (h : Lks L 0) : tdA L := fun i hi => by
  rcases h.r i hi with q | ⟨q1, q2⟩
  · exact .inl q
  · refine .inr ⟨by omega, by omega, fun k hk e => ?_⟩
    exact h.d k i hk hi (by omega) e
theorem trL_td (p : Int) (b : BitVec 32) : tdA (trL p b) := lks_td (tre_lks p _ b 0)
theorem tre_fo {p : Int} : ∀ (d : Nat) (b : BitVec 32) (n : Nat) (A B : List Tri), A.length = n → (d : Int) ≤ dimV p b → 1 ≤ d → foL p (A ++ (tre p d b n ++ B)) d b (n : Int) = true
  | 0, _, _, _, _, _, _, h => absurd h (by omega)
  | 1, b, n, A, B, hA, hd, h1 => by
    obtain ⟨f1, f2, f3⟩ := fx_spec h1 hd
    have e : tre p 1 b n = [((fx p b 1 : Int), -1, -1)] := by simp [tre]
    have hn : nd (A ++ (tre p 1 b n ++ B)) n = ((fx p b 1 : Int), -1, -1) := by
      rw [nd_app2 (by omega), hA, Nat.sub_self, e]; rfl
    have hl1 := les_l p b (fx p b 1 : Nat)
    have hl2 := les_r p b (fx p b 1 : Nat)
    have n0 : pt b (fx p b 1 : Nat) 0 ≠ 0#32 := fun q => by rw [q, dimV_0] at hl1; omega
    have n1 : pt b (fx p b 1 : Nat) 1 ≠ 0#32 := fun q => by rw [q, dimV_0] at hl2; omega
    have hne : ¬ ((n : Int) = -1) := by omega
    simp only [foL, Int.toNat_natCast, hn]
    simp [hne, n0, n1, f1]
  | d + 2, b, n, A, B, hA, hd, h1 => by
    obtain ⟨f1, f2, f3⟩ := fx_spec h1 hd
    have hl1 := les_l p b (fx p b (d + 2) : Nat)
    have hl2 := les_r p b (fx p b (d + 2) : Nat)
    obtain ⟨x, hx⟩ : ∃ x, x = fx p b (d + 2) := ⟨_, rfl⟩
    rw [← hx] at f1 f2 hl1 hl2
    have e : tre p (d + 2) b n = ((x : Int), ((n + 1 : Nat) : Int), ((n + 1 + tn (d + 1) : Nat) : Int)) :: (tre p (d + 1) (pt b x 0) (n + 1) ++ tre p (d + 1) (pt b x 1) (n + 1 + tn (d + 1))) := by rw [tre_two, ← hx]
    obtain ⟨y, hy⟩ : ∃ y : Tri, y = ((x : Int), ((n + 1 : Nat) : Int), ((n + 1 + tn (d + 1) : Nat) : Int)) := ⟨_, rfl⟩
    rw [← hy] at e
    have hn : nd (A ++ (tre p (d + 2) b n ++ B)) n = y := by
      rw [nd_app2 (by omega), hA, Nat.sub_self, e]; rfl
    have g0 := tre_fo (p := p) (d + 1) (pt b x 0) (n + 1) (A ++ [y]) (tre p (d + 1) (pt b x 1) (n + 1 + tn (d + 1)) ++ B) (by simp [hA]) (by omega) (by omega)
    have g1 := tre_fo (p := p) (d + 1) (pt b x 1) (n + 1 + tn (d + 1)) (A ++ y :: tre p (d + 1) (pt b x 0) (n + 1)) B (by simp [hA, tre_len]; omega) (by omega) (by omega)
    have e0 : A ++ [y] ++ (tre p (d + 1) (pt b x 0) (n + 1) ++ (tre p (d + 1) (pt b x 1) (n + 1 + tn (d + 1)) ++ B)) = A ++ (tre p (d + 2) b n ++ B) := by rw [e]; simp
    have e1 : A ++ y :: tre p (d + 1) (pt b x 0) (n + 1) ++ (tre p (d + 1) (pt b x 1) (n + 1 + tn (d + 1)) ++ B) = A ++ (tre p (d + 2) b n ++ B) := by rw [e]; simp
    rw [e0] at g0
    rw [e1] at g1
    have hne : ¬ ((n : Int) = -1) := by omega
    rw [foL]
    simp only [Int.toNat_natCast, hn, hy]
    simp [hne, f1]
    exact ⟨by simpa using g0, by simpa using g1⟩
theorem bl_tn : (List.range 6).all (fun d => decide (bl (tn d) = d)) = true := by decide +kernel
theorem ck_own {p : Int} {b : BitVec 32} (hp : p5 p) (hb : b ≠ 0#32) : ckB p b (trL p b) = true ∧ ((bl (trL p b).length : Nat) : Int) = dimV p b := by
  have h32 := tn_32 hp hb
  have hpos := dimV_pos (p := p) hb
  obtain ⟨d, hd⟩ : ∃ d : Nat, dimV p b = (d : Int) := ⟨(dimV p b).toNat, by omega⟩
  have e : (dimV p b).toNat = d := by omega
  have hlen := trL_len p b
  rw [e] at hlen h32
  have h6 : d < 6 := by
    apply Classical.byContradiction; intro q
    have : 2 ^ 6 ≤ 2 ^ d := Nat.pow_le_pow_right (by decide) (by omega)
    omega
  have hbl : bl (tn d) = d := of_decide_eq_true (List.all_eq_true.1 bl_tn d (List.mem_range.2 h6))
  refine ⟨?_, by rw [hlen, hbl, hd]⟩
  rw [ckB, hlen, hbl, tdQ_t (trL_td p b), decide_eq_true rfl]
  by_cases h0 : d = 0
  · simp [h0]
  · have := tre_fo (p := p) d b 0 [] [] rfl (by omega) (by omega)
    rw [List.append_nil, List.nil_append] at this
    have ht : trL p b = tre p d b 0 := by rw [trL, e]
    rw [ht]
    have this : foL p (tre p d b 0) d b 0 = true := this
    rw [this]; simp
end Go.Proofs.Lrn

