/- Layer 2: the reference's test of scores is Landau's, where the sum is right by a finite check. -/
import Derived.Test.YtnnhomkkggkkfaaDoorRkBn
set_option linter.unusedSimpArgs false
set_option linter.unusedVariables false
set_option linter.unnecessarySimpa false
set_option maxRecDepth 100000
namespace Go.Proofs.Rnk
open Go Go.VM

def chkPos : Bool := (List.range 8).all fun n => (en (n + 1) 0 ((n + 1) * n / 2)).all fun s => lanB s == posV s.length s
theorem chkPos_ok : chkPos = true := by decide +kernel
theorem su_ins (x : Int) : ∀ l : List Int, suL (insI x l) = x + suL l
  | [] => by simp [insI, suL]
  | y :: l => by
    simp only [insI]; split
    · simp only [suL, su_ins x l]; omega
    · simp only [suL]
theorem su_ris (l : List Int) : ∀ k, suL (ris l k) = ws l k
  | 0 => rfl
  | k + 1 => by rw [ris, su_ins, su_ris l k, ws]; omega
theorem dec_get {s : List Int} {n k i : Nat} (h : i < k) : (dec s n k).getD i i0 = dv s n i := by
  simp [dec, List.getD_eq_getElem?_getD, h]
theorem ws_dec {s : List Int} {n : Nat} (h0 : 0 ≤ s.getD n i0) : ∀ k, k ≤ n → ws (dec s n n) k = ws s k - (if s.getD n i0 ≤ (k : Int) then (k : Int) - s.getD n i0 else 0)
  | 0, _ => by
    simp only [ws]
    split <;> omega
  | k + 1, hk => by
    rw [ws, ws, ws_dec h0 k (by omega), dec_get (by omega)]
    simp only [dv]
    split <;> split <;> omega
theorem ws_len {l : List Int} : ws l l.length = suL l := ws_su l
theorem pos_su : ∀ (n : Nat) (s : List Int), s.length = n → al b8 s → posV n s = true → suL s = gm n
  | 0, _, _, _, h => by simp [posV] at h
  | n + 1, s, hs, ha, h => by
    rw [posV] at h
    split at h
    · rename_i c0
      subst c0
      simp only [decide_eq_true_eq] at h
      rw [← ws_len, hs]
      simp only [ws, gm]
      rw [h]; rfl
    · split at h
      · cases h
      · rename_i c1
        rw [Bool.and_eq_true, posA_iff] at h
        obtain ⟨h1, h2⟩ := h
        have hb := dec_b ha h1
        have ih := pos_su n (rsd (dec s n n)) (by rw [ris_len]; exact dec_len _ _ _) (al_ris (by simp only [b8]; omega) hb _) h2
        rw [su_ris, dec_len] at ih
        have h0 := (ha n).1
        rw [ws_dec h0 n (Nat.le_refl _), if_pos (by omega)] at ih
        rw [← ws_len, hs, ws, gm]
        omega
theorem SB_b8 {s : List Int} (h : SB s) : al b8 s := fun i => by
  rcases Nat.lt_or_ge i s.length with q | q
  · exact h.c.h i q
  · have e : s.getD i i0 = 0 := by simp [List.getD_eq_getElem?_getD, List.getElem?_eq_none q, i0]
    show b8 (s.getD i i0)
    rw [e]; simp only [b8]; omega
theorem pos_lan {s : List Int} (h : SB s) : posV s.length s = lanB s := by
  obtain ⟨n, hn⟩ : ∃ n, s.length = n + 1 := ⟨s.length - 1, by have := h.l1; omega⟩
  have h8 := h.l8
  by_cases hsu : suL s = gm s.length
  · have hm := mem_en s 0 ((n + 1) * n / 2) (srtL_of s 0 h.c h.o fun x hx => by
      cases s with
      | nil => cases hx
      | cons y s => simp only [List.head?_cons, Option.some.injEq] at hx; subst hx; have := h.c.h 0 (by simp); exact this.1) (by
      rw [gm_r n (by omega), hsu, hn])
    have h1 := List.all_eq_true.1 chkPos_ok n (List.mem_range.2 (by omega))
    rw [hn] at hm
    have h2 := List.all_eq_true.1 h1 s hm
    simp only [beq_iff_eq] at h2
    exact h2.symm
  · have e1 : lanB s = false := by
      cases q : lanB s
      · rfl
      · have := (lanB_iff.1 q).2; rw [ws_su] at this; exact absurd this hsu
    have e2 : posV s.length s = false := by
      cases q : posV s.length s
      · rfl
      · exact absurd (pos_su _ s rfl (SB_b8 h) q) hsu
    rw [e1, e2]
end Go.Proofs.Rnk

