/- The reference's digits. -/
import Derived.Test.YtbadfaiepgfpdaaTryPa
namespace Go.Proofs.Wei
open Go Go.VM

theorem dg_eq (m : Int) : dg m = (if m.tmod 3 = 2 then -1 else if m.tmod 3 = -2 then 1 else m.tmod 3) := by
  unfold dg; split
  · rename_i h; rcases h with h | h <;> simp [h]
  · rename_i h; rw [if_neg (fun c => h (Or.inl c)), if_neg (fun c => h (Or.inr c))]
theorem dg_ref (m : Int) : (m.tmod 3 + 4).tmod 3 = dg m + 1 := by
  have h := tt m
  rw [dg_eq]
  generalize m.tmod 3 = r at *
  have hr : r = -2 ∨ r = -1 ∨ r = 0 ∨ r = 1 ∨ r = 2 := by omega
  rcases hr with rfl | rfl | rfl | rfl | rfl <;> decide

set_option maxHeartbeats 1000000 in
theorem ref_run (p : Pures) (S : Summ) (n : Int) (h1 : -1000 ≤ n) (h2 : n ≤ 1000) :
    ebody Try.prog p S 2000 Try.f45 (Try.f45.body.getD .skip) [I n] .nil = some (lv 0 (dig 1000 n []), ⟨[], lt (dig 1000 n []), []⟩) := by
  simp [Try.f45, ebody, AV.undef, List.replicate, List.getD]
  generalize hq : loopx _ _ _ _ _ _ _ _ = r
  obtain ⟨x, A', h', rfl, hp⟩ := loop_use hq
    (fun j A h => ∃ m s, m.natAbs + j ≤ 1000 ∧ s.length ≤ j ∧ dig (1000 - j) m s = dig 1000 n [] ∧ h = ⟨[], lt s, []⟩ ∧
      ∃ t4 t5 t6 t7 t8 t9 t10 t11 t12 t13 t14 t15 t16 t17 t18 t19 t20, A = [I m, .tup [], .sl [] 0 .nil, lv 0 s, t4, t5, t6, t7, t8, t9, t10, t11, t12, t13, t14, t15, t16, t17, t18, t19, t20, .tup []])
    (fun x A h => x = .exit 0 ∧ ∃ s, s = dig 1000 n [] ∧ h = ⟨[], lt s, []⟩ ∧
      ∃ t0 t4 t5 t6 t7 t8 t9 t10 t11 t12 t13 t14 t15 t16 t17 t18 t19 t20, A = [t0, .tup [], .sl [] 0 .nil, lv 0 s, t4, t5, t6, t7, t8, t9, t10, t11, t12, t13, t14, t15, t16, t17, t18, t19, t20, .tup []]) 1000
    ⟨n, [], by omega, by simp, rfl, rfl, .tup [], .tup [], .tup [], .tup [], .tup [], .tup [], .tup [], .tup [], .tup [], .tup [], .tup [], .tup [], .tup [], .tup [], .tup [], .tup [], .tup [], by simp [lv]⟩ (by omega) (by
      rintro j A h hj ⟨m, s, hm, hs, hd, rfl, t4, t5, t6, t7, t8, t9, t10, t11, t12, t13, t14, t15, t16, t17, t18, t19, t20, rfl⟩
      by_cases hz : m = 0
      · subst hz
        simp [List.getD]
        rw [dig_zero] at hd
        rw [hd]; exact ⟨rfl, rfl⟩
      · have hd' : dig (999 - j) (nx m) (s ++ [dg m]) = dig 1000 n [] := by
          rw [← hd, show 1000 - j = (999 - j) + 1 by omega]; simp [dig, hz]
        have hb := nx_bnd m hz
        have hg := dg_bnd m
        have ha := app56 s (dg m) [] [] [] (by omega)
        simp only [List.length_nil, List.nil_append] at ha
        have ht := tt m
        have hq := tt (m - dg m)
        have hs' : (s ++ [dg m]).length ≤ j + 1 := by simp; exact hs
        have w1 := w64 (m.tmod 3 + 4) (by omega) (by omega)
        have w2 := w64 (dg m) (by omega) (by omega)
        have w3 := w64 (m - (dg m + 1)) (by omega) (by omega)
        have w4 := w64 (m - (dg m + 1) + 1) (by omega) (by omega)
        have e : m - (dg m + 1) + 1 = m - dg m := by omega
        have w5 := w64 ((m - dg m).tdiv 3) (by omega) (by omega)
        simp [List.getD, hz, ha, w1, w2, w3, w4, dg_ref, e, w5]
        have hn : (m - dg m).tdiv 3 = nx m := rfl
        refine ⟨by omega, nx m, by omega, _, hs', hd', rfl, by rw [← e, w4, e, w5, hn], rfl⟩)
  obtain ⟨rfl, s, rfl, rfl, t0, t4, t5, t6, t7, t8, t9, t10, t11, t12, t13, t14, t15, t16, t17, t18, t19, t20, rfl⟩ := hp
  generalize dig 1000 n [] = s
  simp [List.getD]
end Go.Proofs.Wei
