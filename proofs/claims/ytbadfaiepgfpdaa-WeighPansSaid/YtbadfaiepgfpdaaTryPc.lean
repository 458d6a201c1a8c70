/- Two slices of integers, compared. -/
import Derived.Test.YtbadfaiepgfpdaaTryTy
namespace Go.Proofs.Wei
open Go Go.VM

theorem len_wrap (n : Nat) (h : n ≤ 1000000) : IntKind.i64.wrap (n : Int) = n := w64 _ (by omega) (by omega)

theorem eq_run (p : Pures) (S : Summ) (xs ys : List Int) (rx ry : Room) (h : H) (hl : xs.length ≤ 1900) (hx : xs ≠ [] → rx ≠ .nil) (hy : ys ≠ [] → ry ≠ .nil) :
    ebody Try.prog p S 2000 Try.f40 (Try.f40.body.getD .skip) [.sl (ints xs) xs.length rx, .sl (ints ys) ys.length ry] h = some (.bool (decide (xs = ys)), h) := by
  obtain ⟨bs, ts, ms⟩ := h
  by_cases hn : xs.length = ys.length
  · simp [Try.f40, ebody, AV.undef, List.replicate, List.getD, hn]
    generalize hq : loopx _ _ _ _ _ _ _ _ = r
    obtain ⟨x, A', h', rfl, hp⟩ := loop_use hq
      (fun j A h => h = ⟨bs, ts, ms⟩ ∧ j ≤ ys.length ∧ xs.take j = ys.take j ∧ ∃ t5 t6 t7 t8 t9 t10 t11 t14 t15 t16 t17 t18 t19 t20 t21 t22 t23 t24 t25, A = [.sl (ints xs) ys.length rx, .sl (ints ys) ys.length ry, .tup [], .tup [], .bool false, t5, t6, t7, t8, t9, t10, t11, .int .i64 ys.length, .int .i64 j, t14, t15, t16, t17, t18, t19, t20, t21, t22, t23, t24, t25])
      (fun x A h => h = ⟨bs, ts, ms⟩ ∧ ((x = .exit 0 ∧ xs = ys) ∨ (x = .ret ∧ xs ≠ ys)) ∧ A.length = 26 ∧ A[4]? = some (.bool false))
      ys.length ⟨rfl, by omega, rfl, _, _, _, _, _, _, _, _, _, _, _, _, _, _, _, _, _, _, _, rfl⟩ (by omega) (by
        rintro j A h hj ⟨rfl, hj', he, t5, t6, t7, t8, t9, t10, t11, t14, t15, t16, t17, t18, t19, t20, t21, t22, t23, t24, t25, rfl⟩
        by_cases hz : j = ys.length
        · subst hz
          simp [List.getD]
          have := he
          simp [← hn] at this
          rw [hn] at this
          simpa using this
        · have hlt : j < ys.length := by omega
          have hlt' : j < xs.length := by omega
          have ix := ix56 xs ys.length rx .i64 j hlt (hx (by rintro rfl; simp at hlt'))
          have iy := ix56 ys ys.length ry .i64 j hlt (hy (by rintro rfl; simp at hlt))
          have hw := len_wrap (j + 1) (by omega)
          have ht : xs.take (j + 1) = ys.take (j + 1) ↔ xs[j] = ys[j] := by
            rw [List.take_add_one, List.take_add_one, he, List.getElem?_eq_getElem hlt', List.getElem?_eq_getElem hlt]
            simp only [Option.toList_some, List.append_cancel_left_eq, List.cons.injEq, and_true]
          by_cases hab : xs[j] = ys[j]
          · simp [List.getD, hz, hlt, hlt', ix, iy, hab]
            exact ⟨by omega, ht.2 hab, hw⟩
          · simp [List.getD, hz, hlt, hlt', ix, iy, hab]
            rintro rfl; exact hab rfl)
    rcases hp with ⟨rfl, (⟨rfl, he⟩ | ⟨rfl, he⟩), hlen, h4⟩
    · simp [he, List.getElem?_set, hlen]
      simp [leave, AV.bnd]
    · simp [he, h4]
      simp [leave, AV.bnd]
  · have hne : xs ≠ ys := by rintro rfl; exact hn rfl
    simp [Try.f40, ebody, AV.undef, List.replicate, List.getD, hn, hne, leave, AV.bnd]
end Go.Proofs.Wei
