/- Layer 1: results show each false coin: for all plans. -/
import Derived.Test.YtbadfaiepgfpdaaWgFi
import Derived.KernelRfl
set_option linter.unusedSimpArgs false
set_option linter.unusedVariables false
set_option linter.unnecessarySimpa false
set_option maxHeartbeats 4000000
set_option maxRecDepth 100000
namespace Go.Proofs.Weg
open Go Go.VM

theorem prep {t : List Row} {r : Room} (ht : tb t) (hv : lv t) (ha : ap t) (g1 : lim t.length) (g2 : rok t r) (g3 : gr t) {c : Nat} (hc : c < t.length) {s : Int} (hs : s = 1 ∨ s = -1) {a : List Int} (hl : a.length = (List.getD t 0 row0).1.length) (he : ∀ i, i < a.length → a.getD i i0 = s * (List.getD t c row0).1.getD i i0) : pre35 t r a ∧ fm a t 0 = ((c : Int), s, 0) := by
  have h5 := ht.2.2.2.2 c hc
  have h4 := ht.2.2.2.1
  have hsg : sg a := by
    intro x hx
    obtain ⟨i, hi, rfl⟩ := List.mem_iff_getElem.1 hx
    have e := he i hi
    rw [show a.getD i i0 = a[i] by simp [List.getD_eq_getElem?_getD, List.getElem?_eq_getElem hi]] at e
    have b := sg_at h5.2 (show i < (List.getD t c row0).1.length by omega)
    rcases hs with rfl | rfl <;> omega
  refine ⟨⟨⟨g1, g2, g3, by simp only [lim]; omega, by simp [rok]⟩, ⟨ht, hl, hsg⟩, hv, ha, fun hz => ?_⟩, fm_found ht ha hc hs hl he⟩
  apply (ha c hc).1
  intro i hi
  have e := he i (by omega)
  have z := hz i (by omega)
  rcases hs with rfl | rfl <;> omega
theorem u64_nonneg (x : Int) : 0 ≤ IntKind.u64.wrap x := by
  simp only [IntKind.wrap, IntKind.bits, IntKind.signed]
  simp
  omega
theorem ok14 : Fok Try.prog 14 Try.f14 := ⟨mixed, by kernel_rfl, by kernel_rfl, by kernel_rfl, by kernel_rfl⟩
theorem finds_ok (t : List Row) (r : Room) (coin sg : Int) (q1 : lim t.length) (q2 : rok t r) (q3 : gr t) : CallOk Try.prog 14 [rs t r, I coin, I sg] .nil (.bool true) .nil := by
  have g1 : lim (tab t).length := by have := tab_len t; simp only [lim]; omega
  have g3 := gr_tab q3
  by_cases h : tb (tab t)
  · have ht := tb_tab h
    have e := tabs_eq q3 ht
    by_cases hv : lv (tab t) ∧ ap (tab t)
    · have few := right_few h hv.1 hv.2
      rw [e] at few
      have hv0 : lv t ∧ ap t := by rw [← e]; exact hv
      have hn := ht.1
      have hN := ht.2.1
      have hr := rn_bnd (tab t)
      let c : Nat := (IntKind.u64.wrap coin).toNat % t.length
      have hc : c < t.length := Nat.mod_lt _ (by omega)
      have ev1 : Int.tmod (IntKind.u64.wrap coin) (t.length : Int) = (c : Int) := by
        have h0 := u64_nonneg coin
        rw [Int.tmod_eq_emod_of_nonneg h0]
        show _ = (((IntKind.u64.wrap coin).toNat % t.length : Nat) : Int)
        rw [Int.natCast_emod, Int.toNat_of_nonneg h0]
      have ev2 : IntKind.u64.wrap (t.length : Int) = (t.length : Int) := by
        simp only [IntKind.wrap, IntKind.bits, IntKind.signed]
        simp
        omega
      have ev3 : IntKind.i64.wrap (c : Int) = (c : Int) := wr _ (by omega) (by omega)
      have hV : Int.tmod (IntKind.u64.wrap sg) 2 = 0 ∨ Int.tmod (IntKind.u64.wrap sg) 2 = 1 := by
        rw [Int.tmod_eq_emod_of_nonneg (u64_nonneg sg)]; omega
      have hlc := (ht.2.2.2.2 c hc).1
      have hsc := (ht.2.2.2.2 c hc).2
      have k1 := ht.2.2.1
      have k4 := ht.2.2.2.1
      have hrow : ∀ j, j < t.length → rr (List.getD t j row0).2 ≠ .nil := fun j hj he => by
        have h5 := (ht.2.2.2.2 j hj).1
        have := (q3 j hj).2 (by cases hq : (List.getD t j row0).2 <;> rw [hq] at he <;> first | rfl | cases he)
        have h6 : (List.getD t j row0).1.length = 0 := by rw [this]; rfl
        omega
      have hrr := hrow c hc
      have hr0 := hrow 0 (by omega)
      have hcs : (List.getD t 0 row0).1.length = 1 ∨ (List.getD t 0 row0).1.length = 2 ∨ (List.getD t 0 row0).1.length = 3 ∨ (List.getD t 0 row0).1.length = 4 := by omega
      rcases hcs with hk | hk | hk | hk
      · rw [hk] at few; omega
      · have ev6 : ((List.getD t 0 row0).1.length : Int) = 2 := by omega
        have ev7 : ((List.getD t c row0).1.length : Int) = 2 := by omega
        have hx : ∀ i, i < 2 → -1 ≤ (List.getD t c row0).1.getD i i0 ∧ (List.getD t c row0).1.getD i i0 ≤ 1 := fun i hi => sg_at hsc (by omega)
        rw [hk] at few
        rcases hV with ev5 | ev5
        · have pq := prep (r := rn (tab t)) (a := [(List.getD t c row0).1.getD 0 i0 * 1, (List.getD t c row0).1.getD 1 i0 * 1]) ht hv0.1 hv0.2 q1 (by rw [e]; exact rn_rok t) q3 hc (s := 1) (.inl rfl) (by rw [hk]; rfl) (by
            intro i hi
            have : i = 0 ∨ i = 1 := by simp at hi; omega
            rcases this with rfl | rfl <;> simp <;> omega)
          exact ok14.run (pof_ok _) (sof_ok _) (r14_2_0 t r coin sg _ _ c q1 q2 q3 g1 g3 h ht hv.1 hv.2 (by omega) (by rw [e]; exact ⟨ht, by rw [hk]; rfl, by decide⟩) (by decide) hc hx hr (by have h1 := pq.1; rw [← e] at h1; simpa only [e] using pq.1) (by rw [e]; exact pq.2) rfl ev1 ev2 ev3 rfl ev5 ev6 ev7 rfl rfl (by decide) (by decide) hrr hr0)
        · have pq := prep (r := rn (tab t)) (a := [(List.getD t c row0).1.getD 0 i0 * (-1), (List.getD t c row0).1.getD 1 i0 * (-1)]) ht hv0.1 hv0.2 q1 (by rw [e]; exact rn_rok t) q3 hc (s := (-1)) (.inr rfl) (by rw [hk]; rfl) (by
            intro i hi
            have : i = 0 ∨ i = 1 := by simp at hi; omega
            rcases this with rfl | rfl <;> simp <;> omega)
          exact ok14.run (pof_ok _) (sof_ok _) (r14_2_1 t r coin sg _ _ c q1 q2 q3 g1 g3 h ht hv.1 hv.2 (by omega) (by rw [e]; exact ⟨ht, by rw [hk]; rfl, by decide⟩) (by decide) hc hx hr (by have h1 := pq.1; rw [← e] at h1; simpa only [e] using pq.1) (by rw [e]; exact pq.2) rfl ev1 ev2 ev3 rfl ev5 ev6 ev7 rfl rfl (by decide) (by decide) hrr hr0)
      · have ev6 : ((List.getD t 0 row0).1.length : Int) = 3 := by omega
        have ev7 : ((List.getD t c row0).1.length : Int) = 3 := by omega
        have hx : ∀ i, i < 3 → -1 ≤ (List.getD t c row0).1.getD i i0 ∧ (List.getD t c row0).1.getD i i0 ≤ 1 := fun i hi => sg_at hsc (by omega)
        rw [hk] at few
        rcases hV with ev5 | ev5
        · have pq := prep (r := rn (tab t)) (a := [(List.getD t c row0).1.getD 0 i0 * 1, (List.getD t c row0).1.getD 1 i0 * 1, (List.getD t c row0).1.getD 2 i0 * 1]) ht hv0.1 hv0.2 q1 (by rw [e]; exact rn_rok t) q3 hc (s := 1) (.inl rfl) (by rw [hk]; rfl) (by
            intro i hi
            have : i = 0 ∨ i = 1 ∨ i = 2 := by simp at hi; omega
            rcases this with rfl | rfl | rfl <;> simp <;> omega)
          exact ok14.run (pof_ok _) (sof_ok _) (r14_3_0 t r coin sg _ _ c q1 q2 q3 g1 g3 h ht hv.1 hv.2 (by omega) (by rw [e]; exact ⟨ht, by rw [hk]; rfl, by decide⟩) (by decide) hc hx hr (by have h1 := pq.1; rw [← e] at h1; simpa only [e] using pq.1) (by rw [e]; exact pq.2) rfl ev1 ev2 ev3 rfl ev5 ev6 ev7 rfl rfl (by decide) (by decide) hrr hr0)
        · have pq := prep (r := rn (tab t)) (a := [(List.getD t c row0).1.getD 0 i0 * (-1), (List.getD t c row0).1.getD 1 i0 * (-1), (List.getD t c row0).1.getD 2 i0 * (-1)]) ht hv0.1 hv0.2 q1 (by rw [e]; exact rn_rok t) q3 hc (s := (-1)) (.inr rfl) (by rw [hk]; rfl) (by
            intro i hi
            have : i = 0 ∨ i = 1 ∨ i = 2 := by simp at hi; omega
            rcases this with rfl | rfl | rfl <;> simp <;> omega)
          exact ok14.run (pof_ok _) (sof_ok _) (r14_3_1 t r coin sg _ _ c q1 q2 q3 g1 g3 h ht hv.1 hv.2 (by omega) (by rw [e]; exact ⟨ht, by rw [hk]; rfl, by decide⟩) (by decide) hc hx hr (by have h1 := pq.1; rw [← e] at h1; simpa only [e] using pq.1) (by rw [e]; exact pq.2) rfl ev1 ev2 ev3 rfl ev5 ev6 ev7 rfl rfl (by decide) (by decide) hrr hr0)
      · have ev6 : ((List.getD t 0 row0).1.length : Int) = 4 := by omega
        have ev7 : ((List.getD t c row0).1.length : Int) = 4 := by omega
        have hx : ∀ i, i < 4 → -1 ≤ (List.getD t c row0).1.getD i i0 ∧ (List.getD t c row0).1.getD i i0 ≤ 1 := fun i hi => sg_at hsc (by omega)
        rw [hk] at few
        rcases hV with ev5 | ev5
        · have pq := prep (r := rn (tab t)) (a := [(List.getD t c row0).1.getD 0 i0 * 1, (List.getD t c row0).1.getD 1 i0 * 1, (List.getD t c row0).1.getD 2 i0 * 1, (List.getD t c row0).1.getD 3 i0 * 1]) ht hv0.1 hv0.2 q1 (by rw [e]; exact rn_rok t) q3 hc (s := 1) (.inl rfl) (by rw [hk]; rfl) (by
            intro i hi
            have : i = 0 ∨ i = 1 ∨ i = 2 ∨ i = 3 := by simp at hi; omega
            rcases this with rfl | rfl | rfl | rfl <;> simp <;> omega)
          exact ok14.run (pof_ok _) (sof_ok _) (r14_4_0 t r coin sg _ _ c q1 q2 q3 g1 g3 h ht hv.1 hv.2 (by omega) (by rw [e]; exact ⟨ht, by rw [hk]; rfl, by decide⟩) (by decide) hc hx hr (by have h1 := pq.1; rw [← e] at h1; simpa only [e] using pq.1) (by rw [e]; exact pq.2) rfl ev1 ev2 ev3 rfl ev5 ev6 ev7 rfl rfl (by decide) (by decide) hrr hr0)
        · have pq := prep (r := rn (tab t)) (a := [(List.getD t c row0).1.getD 0 i0 * (-1), (List.getD t c row0).1.getD 1 i0 * (-1), (List.getD t c row0).1.getD 2 i0 * (-1), (List.getD t c row0).1.getD 3 i0 * (-1)]) ht hv0.1 hv0.2 q1 (by rw [e]; exact rn_rok t) q3 hc (s := (-1)) (.inr rfl) (by rw [hk]; rfl) (by
            intro i hi
            have : i = 0 ∨ i = 1 ∨ i = 2 ∨ i = 3 := by simp at hi; omega
            rcases this with rfl | rfl | rfl | rfl <;> simp <;> omega)
          exact ok14.run (pof_ok _) (sof_ok _) (r14_4_1 t r coin sg _ _ c q1 q2 q3 g1 g3 h ht hv.1 hv.2 (by omega) (by rw [e]; exact ⟨ht, by rw [hk]; rfl, by decide⟩) (by decide) hc hx hr (by have h1 := pq.1; rw [← e] at h1; simpa only [e] using pq.1) (by rw [e]; exact pq.2) rfl ev1 ev2 ev3 rfl ev5 ev6 ev7 rfl rfl (by decide) (by decide) hrr hr0)
    · exact ok14.run (pof_ok _) (sof_ok _) (r14n t r coin sg q1 q2 q3 g1 g3 h ht hv)
  · exact ok14.run (pof_ok _) (sof_ok _) (r14b t r coin sg q1 q2 q3 g1 g3 h)
end Go.Proofs.Weg
