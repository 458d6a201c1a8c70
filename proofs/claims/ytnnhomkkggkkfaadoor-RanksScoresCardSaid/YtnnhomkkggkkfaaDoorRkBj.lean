/- Layer 2: scores that can be, are made. -/
import Derived.Test.YtnnhomkkggkkfaaDoorRkBi
import Derived.Test.YtnnhomkkggkkfaaDoorRkBh
set_option linter.unusedSimpArgs false
set_option linter.unusedVariables false
set_option linter.unnecessarySimpa false
set_option maxRecDepth 100000
namespace Go.Proofs.Rnk
open Go Go.VM

def srtL : Nat → List Int → Prop
  | _, [] => True
  | lo, x :: s => (lo : Int) ≤ x ∧ x < 8 ∧ srtL x.toNat s
def suL : List Int → Int
  | [] => 0
  | x :: s => x + suL s
theorem getD_cons {x : Int} {s : List Int} {k : Nat} : (x :: s).getD (k + 1) i0 = s.getD k i0 := by simp [List.getD_eq_getElem?_getD]
theorem srtL_of : ∀ (s : List Int) (lo : Nat), Sc8 s → Srt s 0 → (∀ x, s.head? = some x → (lo : Int) ≤ x) → srtL lo s
  | [], _, _, _, _ => trivial
  | x :: s, lo, h1, h2, h3 => by
    have hx : (lo : Int) ≤ x := h3 x rfl
    have h0 : 0 ≤ x ∧ x < 8 := h1.h 0 (by simp)
    refine ⟨hx, h0.2, srtL_of s _ ⟨fun k hk => ?_⟩ ⟨fun k hk hk2 => ?_⟩ (fun y hy => ?_)⟩
    · have := h1.h (k + 1) (by simp; omega); rw [getD_cons] at this; exact this
    · have := h2.h (k + 1) (by omega) (by simp; omega); rw [getD_cons, getD_cons] at this; exact this
    · cases s with
      | nil => cases hy
      | cons z s =>
        simp only [List.head?_cons, Option.some.injEq] at hy
        subst hy
        have := h2.h 0 (by omega) (by simp)
        rw [getD_cons] at this
        have e1 : (x :: z :: s).getD 0 i0 = x := rfl
        have e2 : (z :: s).getD 0 i0 = z := rfl
        rw [e1, e2] at this
        omega
theorem ws_cons (x : Int) (s : List Int) : ∀ k, ws (x :: s) (k + 1) = x + ws s k
  | 0 => by simp [ws]
  | k + 1 => by
    rw [ws, ws_cons x s k, getD_cons, ws]; omega
theorem ws_su : ∀ s : List Int, ws s s.length = suL s
  | [] => rfl
  | x :: s => by rw [List.length_cons, ws_cons, ws_su s, suL]
theorem su_ge : ∀ (s : List Int) (lo : Nat), srtL lo s → ((lo * s.length : Nat) : Int) ≤ suL s
  | [], _, _ => by simp [suL]
  | x :: s, lo, h => by
    obtain ⟨h1, h2, h3⟩ := h
    have ih := su_ge s _ h3
    have h4 : lo * s.length ≤ x.toNat * s.length := Nat.mul_le_mul_right _ (by omega)
    simp only [suL, List.length_cons, Nat.mul_add, Nat.mul_one]
    have : ((lo * s.length : Nat) : Int) ≤ ((x.toNat * s.length : Nat) : Int) := Int.ofNat_le.2 h4
    omega
theorem mem_en : ∀ (s : List Int) (lo r : Nat), srtL lo s → suL s = (r : Int) → s ∈ en s.length lo r
  | [], _, r, _, h => by
    simp only [suL] at h
    have : r = 0 := by omega
    subst this; simp [en]
  | x :: s, lo, r, hs, h => by
    obtain ⟨h1, h2, h3⟩ := hs
    have hge := su_ge (x :: s) x.toNat ⟨by omega, h2, h3⟩
    simp only [suL] at h hge
    simp only [List.length_cons, en, List.mem_flatMap, List.mem_range]
    refine ⟨x.toNat - lo, by omega, ?_⟩
    have e : lo + (x.toNat - lo) = x.toNat := by omega
    rw [e, if_pos (by simp only [List.length_cons] at hge; omega)]
    have hsu := su_ge s _ h3
    have h0 : 0 ≤ suL s := by omega
    exact List.mem_map.2 ⟨s, mem_en s _ _ h3 (by omega), by rw [Int.toNat_of_nonneg (by omega)]⟩
theorem chk_ok : chkAll = true := by decide +kernel
theorem gm_r : ∀ n, n < 8 → ((((n + 1) * n / 2 : Nat)) : Int) = gm (n + 1) := by decide
theorem good_of {s : List Int} (h : SB s) (hl : lanB s = true) : goodB s = true := by
  obtain ⟨n, hn⟩ : ∃ n, s.length = n + 1 := ⟨s.length - 1, by have := h.l1; omega⟩
  have h8 := h.l8
  have hm := mem_en s 0 ((n + 1) * n / 2) (srtL_of s 0 h.c h.o fun x hx => by
    cases s with
    | nil => cases hx
    | cons y s => simp only [List.head?_cons, Option.some.injEq] at hx; subst hx; have := h.c.h 0 (by simp); exact this.1) (by
    rw [gm_r n (by omega), ← ws_su, (lanB_iff.1 hl).2, hn])
  have h1 := List.all_eq_true.1 chk_ok n (List.mem_range.2 (by omega))
  rw [hn] at hm
  have h2 := List.all_eq_true.1 h1 s hm
  rw [hl] at h2
  simpa using h2
structure Good (s : List Int) : Prop where
  len : (mkT s).length = s.length
  tn : Tn (mkT s)
  sz : ∀ i, i < s.length → ((pc (sn (mkT s) i) : Nat) : Int) = s.getD i i0
  so : srt (mkT s) = s
theorem good_ok {s : List Int} (h : SB s) (hl : lanB s = true) : Good s := by
  have hg := good_of h hl
  simp only [goodB, Bool.and_eq_true, beq_iff_eq, List.all_eq_true, List.mem_range, decide_eq_true_eq, Bool.not_eq_true'] at hg
  obtain ⟨⟨h1, h2⟩, h3⟩ := hg
  refine ⟨h1, ⟨⟨by rw [h1]; exact h.l1, by rw [h1]; exact h.l8⟩, fun i hi => ?_⟩, fun i hi => (h2 i hi).2, h3⟩
  obtain ⟨⟨⟨⟨g1, g2⟩, g3⟩, g4⟩, _⟩ := h2 i (by rw [← h1]; exact hi)
  refine ⟨⟨⟨g1, by rw [h1]; exact g2⟩, g3⟩, fun j hj => ?_⟩
  have := g4 j hj
  simpa [q3, bi, ia] using this
end Go.Proofs.Rnk

