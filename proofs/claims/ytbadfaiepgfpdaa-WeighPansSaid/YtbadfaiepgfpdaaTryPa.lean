/- The digits of a number. -/
import Derived.Test.YtbadfaiepgfpdaaTryTy
namespace Go.Proofs.Wei
open Go Go.VM

/-- a digit, as the program finds it -/
def dg (n : Int) : Int := if n.tmod 3 = 2 ∨ n.tmod 3 = -2 then (n.tmod 3).tdiv (-2) else n.tmod 3
def nx (n : Int) : Int := (n - dg n).tdiv 3
def dig : Nat → Int → List Int → List Int
  | 0, _, s => s
  | k + 1, n, s => if n = 0 then s else dig k (nx n) (s ++ [dg n])

theorem tt (x : Int) : 3 * x.tdiv 3 + x.tmod 3 = x ∧ -3 < x.tmod 3 ∧ x.tmod 3 < 3 ∧ (0 ≤ x → 0 ≤ x.tmod 3) ∧ (x ≤ 0 → x.tmod 3 ≤ 0) := by
  refine ⟨Int.mul_tdiv_add_tmod x 3, ?_, Int.tmod_lt_of_pos x (by decide), fun h => Int.tmod_nonneg 3 h, fun h => ?_⟩
  · have := Int.neg_tmod x 3
    have := Int.tmod_lt_of_pos (-x) (show (0 : Int) < 3 by decide)
    omega
  · have := Int.neg_tmod x 3
    have := Int.tmod_nonneg (a := -x) 3 (by omega)
    omega
theorem dg_bnd (n : Int) : -1 ≤ dg n ∧ dg n ≤ 1 := by
  have h1 := tt n
  unfold dg
  split
  · rename_i h
    rcases h with h | h <;> rw [h] <;> decide
  · omega
theorem nx_bnd (n : Int) (h : n ≠ 0) : (nx n).natAbs + 1 ≤ n.natAbs := by
  have := dg_bnd n
  have h1 : n = 1 → dg n = 1 := by rintro rfl; decide
  have h2 : n = -1 → dg n = -1 := by rintro rfl; decide
  have h3 := tt (n - dg n)
  unfold nx
  omega

theorem dig_zero (k : Nat) (s : List Int) : dig k 0 s = s := by cases k <;> simp [dig]

theorem digits_run (p : Pures) (S : Summ) (n : Int) (h1 : -1000 ≤ n) (h2 : n ≤ 1000) :
    ebody Try.prog p S 2000 Try.f74 (Try.f74.body.getD .skip) [I n] .nil = some (lv 0 (dig 1000 n []), ⟨[], lt (dig 1000 n []), []⟩) := by
  simp [Try.f74, ebody, AV.undef, List.replicate, List.getD]
  generalize hq : loopx _ _ _ _ _ _ _ _ = r
  obtain ⟨x, A', h', rfl, hp⟩ := loop_use hq
    (fun j A h => ∃ m s, m.natAbs + j ≤ 1000 ∧ s.length ≤ j ∧ dig (1000 - j) m s = dig 1000 n [] ∧ h = ⟨[], lt s, []⟩ ∧
      ∃ t4 t5 t6 t7 t8 t9 t10 t11 t12 t13 t14 t15 t16 t17 t18 t19 t20 t21 t22 t23 t24, A = [I m, .tup [], .sl [] 0 .nil, lv 0 s, t4, t5, t6, t7, t8, t9, t10, t11, t12, t13, t14, t15, t16, t17, t18, t19, t20, t21, t22, t23, t24, .tup []])
    (fun x A h => x = .exit 0 ∧ ∃ s, s = dig 1000 n [] ∧ h = ⟨[], lt s, []⟩ ∧ 
      ∃ t0 t4 t5 t6 t7 t8 t9 t10 t11 t12 t13 t14 t15 t16 t17 t18 t19 t20 t21 t22 t23 t24, A = [t0, .tup [], .sl [] 0 .nil, lv 0 s, t4, t5, t6, t7, t8, t9, t10, t11, t12, t13, t14, t15, t16, t17, t18, t19, t20, t21, t22, t23, t24, .tup []]) 1000
    ⟨n, [], by omega, by simp, rfl, rfl, .tup [], .tup [], .tup [], .tup [], .tup [], .tup [], .tup [], .tup [], .tup [], .tup [], .tup [], .tup [], .tup [], .tup [], .tup [], .tup [], .tup [], .tup [], .tup [], .tup [], .tup [], by simp [lv]⟩ (by omega) (by
      rintro j A h hj ⟨m, s, hm, hs, hd, rfl, t4, t5, t6, t7, t8, t9, t10, t11, t12, t13, t14, t15, t16, t17, t18, t19, t20, t21, t22, t23, t24, rfl⟩
      by_cases hz : m = 0
      · subst hz
        simp [List.getD]
        rw [dig_zero] at hd
        rw [hd]; exact ⟨rfl, rfl⟩
      · have hd' : dig (1000 - (j + 1)) (nx m) (s ++ [dg m]) = dig 1000 n [] := by
          rw [← hd, show 1000 - j = (1000 - (j + 1)) + 1 by omega]; simp [dig, hz]
        have hb := nx_bnd m hz
        have hg := dg_bnd m
        have ha := app56 s (dg m) [] [] [] (by omega)
        have hq := tt (m - dg m)
        have key : dg m = (if m.tmod 3 = 2 then -1 else if m.tmod 3 = -2 then 1 else m.tmod 3) := by
          unfold dg; split
          · rename_i h; rcases h with h | h <;> simp [h]
          · rename_i h; rw [if_neg (fun c => h (Or.inl c)), if_neg (fun c => h (Or.inr c))]
        have hs' : (s ++ [dg m]).length ≤ j + 1 := by simp; exact hs
        have hl := w64 (m - dg m) (by omega) (by omega)
        have hl2 := w64 ((m - dg m).tdiv 3) (by omega) (by omega)
        rw [show 1000 - (j + 1) = 999 - j by omega] at hd'
        have hn : nx m = (m - dg m).tdiv 3 := rfl
        by_cases c2 : m.tmod 3 = 2
        · rw [if_pos c2] at key
          have e1 : m - -1 = m + 1 := by omega
          rw [key] at ha hd' hl hl2 hs' hn
          rw [e1] at hl hl2 hn
          simp only [List.length_nil, List.nil_append] at ha
          simp [List.getD, hz, c2, ha]
          exact ⟨by omega, _, by omega, _, hs', hd', rfl, by rw [hl, hl2, hn], rfl⟩
        · rw [if_neg c2] at key
          by_cases c3 : m.tmod 3 = -2
          · rw [if_pos c3] at key
            rw [key] at ha hd' hl hl2 hs' hn
            simp only [List.length_nil, List.nil_append] at ha
            simp [List.getD, hz, c3, ha]
            exact ⟨by omega, _, by omega, _, hs', hd', rfl, by rw [hl, hl2, hn], rfl⟩
          · rw [if_neg c3] at key
            rw [key] at ha hd' hl hl2 hs' hn
            simp only [List.length_nil, List.nil_append] at ha
            simp [List.getD, hz, c2, c3, ha]
            exact ⟨by omega, _, by omega, _, hs', hd', rfl, by rw [hl, hl2, hn], rfl⟩)
  obtain ⟨rfl, s, rfl, rfl, t0, t4, t5, t6, t7, t8, t9, t10, t11, t12, t13, t14, t15, t16, t17, t18, t19, t20, t21, t22, t23, t24, rfl⟩ := hp
  generalize dig 1000 n [] = s
  simp [List.getD]
end Go.Proofs.Wei
