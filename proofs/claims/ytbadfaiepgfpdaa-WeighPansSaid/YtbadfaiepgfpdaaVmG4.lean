/- The slice expression. -/
import Derived.Test.YtbadfaiepgfpdaaVmG3
namespace Go.VM
section
variable {P : Program} {G : Ghost} {h : H} {w : World}

theorem sub_rel {cs : List AV} {vs : List Value} {c o : Nat} (hr : VRels G cs vs) (hf : ∀ (i : Nat) (u : Value), vs[i]? = some u → G.fr c (o + i) = some u) (a n : Nat) :
    VRels G ((cs.drop a).take n) ((vs.drop a).take n) ∧ ∀ (i : Nat) (u : Value), ((vs.drop a).take n)[i]? = some u → G.fr c (o + a + i) = some u := by
  refine ⟨(hr.drop a).take n, fun i u hu => ?_⟩
  rw [List.getElem?_take] at hu
  split at hu
  · rw [List.getElem?_drop] at hu
    have := hf _ u hu
    rwa [show o + a + i = o + (a + i) from by omega]
  · cases hu

/-- cells of a slice expression over known cells -/
theorem slice_cells {cs : List AV} {vs : List Value} {c o z l k m : Nat} (hr : VRels G cs vs) (hf : ∀ (i : Nat) (u : Value), vs[i]? = some u → G.fr c (o + i) = some u) (hlk : l ≤ k) (hkm : k ≤ m) :
    ∃ o' vs', (if m = l then (⟨c, o, none⟩ : Addr) else (⟨c, o, none⟩ : Addr).add (l * z)) = ⟨c, o', none⟩ ∧ (l = 0 → o' = o) ∧ VRels G ((cs.drop (l * z)).take ((k - l) * z)) vs' ∧ ∀ (i : Nat) (u : Value), vs'[i]? = some u → G.fr c (o' + i) = some u := by
  by_cases hm : m = l
  · have hk : k - l = 0 := by omega
    refine ⟨o, [], by simp [hm], fun _ => rfl, ?_, by simp⟩
    simp [hk, VRels]
  · obtain ⟨h1, h2⟩ := sub_rel (c := c) (o := o) hr hf (l * z) ((k - l) * z)
    exact ⟨o + l * z, _, by rw [if_neg hm, addr_add], fun h => by simp [h], h1, h2⟩

theorem slice_ok {t : TypeId} {x y : AV} {lo hi mx : Option AV} (hs : aSlice P t x lo hi mx h = some y) {v : Value} (hx : VRel G x v) {vl vh vm : Option Value}
    (hl : (lo = none ∧ vl = none) ∨ ∃ a u, lo = some a ∧ vl = some u ∧ VRel G a u) (hh : (hi = none ∧ vh = none) ∨ ∃ a u, hi = some a ∧ vh = some u ∧ VRel G a u) (hmx : (mx = none ∧ vm = none) ∨ ∃ a u, mx = some a ∧ vm = some u ∧ VRel G a u) :
    ∃ u, (Instr.sliceAt t v vl vh vm).run P w = .ok u w ∧ VRel G y u := by
  unfold aSlice at hs
  split at hs
  · rename_i il ih im h1 h2 h3
    have il' := intOf_rel h1 hl
    have ih' := intOf_rel h2 hh
    have im' := intOf_rel h3 hmx
    split at hs
    · rename_i cs n r
      split at hs
      · rename_i e he
        have hu := elemT_eq he
        split at hs
        · rename_i z l k hz hb
          split at hs
          · -- no max
            have hvm : vm = none := by
              rcases im' with ⟨_, h⟩ | ⟨_, _, hc, _⟩
              · exact h
              · cases hc
            subst hvm
            simp only [VRel] at hx
            rcases hx with ⟨rfl, rfl, rfl, rfl⟩ | ⟨c, o, cap, vs, rfl, c1, c2, c3, c4, c5⟩
            · simp only [if_true] at hs
              split at hs
              · rename_i h0
                obtain ⟨rfl, rfl⟩ := h0
                simp only [Option.some.injEq] at hs; subst hs
                obtain ⟨hrun, _, _⟩ := bounds_run (P := P) (w := w) (len := 0) (cap := 0) (isSlice := true) hb (Nat.le_refl _) (fun _ => rfl) il' ih'
                exact ⟨.slice none 0 0, by simp [Instr.sliceAt, Instr.slice, run_underlying hu, hrun, run_sizeT hz], by simp [VRel]⟩
              · cases hs
            · have hrn : r ≠ .nil := by intro e; subst e; exact c3
              rw [if_neg hrn] at hs
              simp only [Option.some.injEq] at hs; subst hs
              obtain ⟨hrun, hlk, hkn⟩ := bounds_run (P := P) (w := w) (len := n) (cap := cap) (isSlice := true) hb c1 (fun _ => rfl) il' ih'
              obtain ⟨o', vs', e1, e0, e2, e3⟩ := slice_cells (z := z) (m := cap) c4 c5 hlk (Nat.le_trans hkn c1)
              refine ⟨.slice (some ⟨c, o', none⟩) (k - l) (cap - l), ?_, ?_⟩
              · simp only [Instr.sliceAt, Instr.slice, Sem.run_bind, run_underlying hu, Result.andThen_ok, hrun, run_sizeT hz, Sem.run_pure]
                rw [← e1]
                split <;> simp
              · simp only [VRel]
                refine .inr ⟨c, o', cap - l, vs', rfl, by omega, by omega, ?_, e2, e3⟩
                split
                · rename_i h0
                  obtain ⟨rfl, rfl⟩ := h0
                  rw [e0 rfl]; simpa using c3
                · split
                  · rename_i h0
                    obtain ⟨rfl, rfl⟩ := h0
                    simp only [RoomOk] at c3 ⊢; omega
                  · trivial
          · -- a max
            rename_i m
            rcases im' with ⟨hc, _⟩ | ⟨km, m', hm', rfl⟩
            · cases hc
            cases hm'
            split at hs
            · rename_i hc
              obtain ⟨hrn, hhi, hkm, hmn⟩ := hc
              simp only [Option.some.injEq] at hs; subst hs
              simp only [VRel] at hx
              rcases hx with ⟨rfl, _⟩ | ⟨c, o, cap, vs, rfl, c1, c2, c3, c4, c5⟩
              · exact absurd rfl hrn
              rcases ih' with ⟨rfl, _⟩ | ⟨kh, nh, rfl, rfl⟩
              · cases hhi
              obtain ⟨hrun, hlk, hkn⟩ := bounds3_run (P := P) (w := w) (len := n) (cap := cap) (isSlice := true) hb hkm (by omega) il' kh km
              obtain ⟨o', vs', e1, e0, e2, e3⟩ := slice_cells (z := z) (m := m.toNat) c4 c5 hlk (by omega)
              refine ⟨.slice (some ⟨c, o', none⟩) (k - l) (m.toNat - l), ?_, ?_⟩
              · simp only [Instr.sliceAt, Instr.slice, Sem.run_bind, run_underlying hu, Result.andThen_ok, hrun, run_sizeT hz, Sem.run_pure]
                rw [← e1]
                split <;> simp
              · simp only [VRel]
                refine .inr ⟨c, o', m.toNat - l, vs', rfl, by omega, by omega, ?_, e2, e3⟩
                split
                · rename_i h0
                  simp only [RoomOk]; omega
                · trivial
            · cases hs
        · cases hs
      · cases hs
    · rename_i b o n cap z0
      split at hs
      · rename_i e he
        have hu := elemT_eq he
        have hvm : vm = none := by
          rcases im' with ⟨_, h⟩ | ⟨_, _, hc, _⟩
          · exact h
          · cases hc
        subst hvm
        split at hs
        · rename_i z l k hz hb
          simp only [Option.some.injEq] at hs; subst hs
          simp only [VRel] at hx
          obtain ⟨c, c1, rfl, c2, c3⟩ := hx
          have key : (Instr.sliceBounds true n cap vl vh none).run P w = .ok (l, k, cap) w ∧ l ≤ k ∧ k ≤ cap := by
            rcases ih' with ⟨rfl, rfl⟩ | ⟨kh, nh, rfl, rfl⟩
            · simp only [Option.isSome_none, Bool.false_eq_true, if_false, Option.getD_none] at hb
              have hb' : aBounds n il none = some (l, k) := by simpa [aBounds] using hb
              obtain ⟨q1, q2, q3⟩ := bounds_run (P := P) (w := w) (len := n) (cap := cap) (isSlice := true) hb' c2 (fun _ => rfl) il' (.inl ⟨rfl, rfl⟩)
              exact ⟨q1, q2, by omega⟩
            · simp only [Option.isSome_some, if_true, Option.getD_some] at hb
              obtain ⟨q1, q2, q3⟩ := bounds_run (P := P) (w := w) (len := n) (cap := cap) (isSlice := true) hb (Nat.le_refl _) (fun h => by cases h) il' (.inr ⟨kh, nh, rfl, rfl⟩)
              exact ⟨q1, q2, q3⟩
          obtain ⟨hrun, hlk, hkc⟩ := key
          refine ⟨.slice (some ⟨c, if cap = l then o else o + l * z, none⟩) (k - l) (cap - l), ?_, ?_⟩
          · simp only [Instr.sliceAt, Instr.slice, Sem.run_bind, run_underlying hu, Result.andThen_ok, hrun, run_sizeT hz, Sem.run_pure]
            split <;> simp [addr_add]
          · simp only [VRel]
            exact ⟨c, c1, rfl, by omega, by omega⟩
        · cases hs
      · cases hs
    · rename_i b o
      split at hs
      · rename_i n e hu
        have hvm : vm = none := by
          rcases im' with ⟨_, h⟩ | ⟨_, _, hc, _⟩
          · exact h
          · cases hc
        subst hvm
        split at hs
        · rename_i z l k hz hb
          split at hs
          · rename_i hmax
            simp only [Option.some.injEq] at hs; subst hs
            simp only [VRel] at hx
            obtain ⟨c, c1, rfl⟩ := hx
            obtain ⟨hrun, hlk, hkc⟩ := bounds_run (P := P) (w := w) (len := n) (cap := n) (isSlice := false) hb (Nat.le_refl _) (fun _ => rfl) il' ih'
            refine ⟨.slice (some ⟨c, if n = l then o else o + l * z, none⟩) (k - l) (n - l), ?_, ?_⟩
            · simp only [Instr.sliceAt, Instr.sureAddr, Sem.run_bind, run_underlying hu, Result.andThen_ok, hrun, run_sizeT hz, Sem.run_pure]
              split <;> simp [addr_add]
            · simp only [VRel]
              exact ⟨c, c1, rfl, by omega, by omega⟩
          · cases hs
        · cases hs
      · cases hs
    · rename_i s0
      split at hs
      · rename_i l k hu hb
        have hvm : vm = none := by
          rcases im' with ⟨_, h⟩ | ⟨_, _, hc, _⟩
          · exact h
          · cases hc
        subst hvm
        simp only [Option.some.injEq] at hs; subst hs
        simp only [VRel] at hx; subst hx
        obtain ⟨hrun, hlk, hkn⟩ := bounds_run (P := P) (w := w) (len := s0.size) (cap := s0.size) (isSlice := false) hb (Nat.le_refl _) (fun _ => rfl) il' ih'
        refine ⟨.string (s0.extract l k), ?_, by simp [VRel]⟩
        simp [Instr.sliceAt, Instr.slice, run_underlying hu, hrun]
      · cases hs
    · cases hs
  · cases hs
end
end Go.VM
