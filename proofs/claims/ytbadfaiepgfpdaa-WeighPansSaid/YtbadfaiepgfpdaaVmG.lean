/- Making, slicing, addressing. -/
import Derived.Test.YtbadfaiepgfpdaaVmF3
namespace Go.VM
section
variable {P : Program} {G : Ghost} {h : H} {w : World}

/-! ### parts put into place -/
theorem zip_put (vs : List Value) : ∀ (off : Nat) (arr : Array Value) (k : Nat), off + k + vs.length ≤ arr.size →
    ((vs.zipIdx k).foldl (fun cs (p : Value × Nat) => cs.setIfInBounds (off + p.2) p.1) arr).toList = arr.toList.take (off + k) ++ vs ++ arr.toList.drop (off + k + vs.length) := by
  induction vs with
  | nil => intro off arr k _; simp
  | cons v vs ih =>
    intro off arr k hl
    simp only [List.length_cons] at hl
    simp only [List.zipIdx_cons, List.foldl_cons]
    rw [ih off _ (k + 1) (by simp; omega)]
    simp only [Array.toList_setIfInBounds]
    have hlt : off + k < arr.toList.length := by simp; omega
    rw [show off + (k + 1) = (off + k) + 1 from by omega]
    rw [List.take_set, List.take_succ_eq_append_getElem hlt, List.drop_set_of_lt (by omega)]
    have h2 : min (off + k) arr.size = off + k := by simp at hlt; omega
    have e : (List.take (off + k) arr.toList ++ [arr.toList[off + k]]).set (off + k) v = List.take (off + k) arr.toList ++ [v] := by
      rw [List.set_append_right _ _ (by simp [h2])]
      simp [h2]
    rw [e]
    rw [show off + k + 1 + vs.length = off + k + (vs.length + 1) from by omega]
    simp only [List.length_cons, List.append_assoc, List.singleton_append, List.cons_append, List.nil_append]

/-- 'fill' over the model's values goes as 'afill' -/
theorem fill_rel (place place' : Nat → Option (Nat × Nat)) (hp : ∀ i x, place' i = some x → place i = some x) : ∀ (ps : List (Nat × AV)) (vs : List (Nat × Value)) (cs : List AV) (arr : Array Value) (r : List AV),
    ps.length = vs.length → (∀ (i : Nat) (p : Nat × AV) (q : Nat × Value), ps[i]? = some p → vs[i]? = some q → p.1 = q.1 ∧ VRel G p.2 q.2) → VRels G cs arr.toList → afill place' cs ps = some r →
    ∃ arr', Instr.fill place arr vs = some arr' ∧ VRels G r arr'.toList
  | [], [], cs, arr, r, _, _, hr, hf => by
    simp only [afill, Option.some.injEq] at hf; subst hf
    exact ⟨arr, rfl, hr⟩
  | (i, a) :: ps, (j, v) :: vs, cs, arr, r, hl, hrel, hr, hf => by
    obtain ⟨e1, e2⟩ := hrel 0 (i, a) (j, v) rfl rfl
    simp only at e1 e2; subst e1
    simp only [afill] at hf
    split at hf
    · rename_i off size vc hpl hc
      split at hf
      · cases hf
      · rename_i hcond
        have hvc := cells_rel e2 hc
        have hl1 := hvc.length
        have hl2 := hr.length
        simp only [not_or, ne_eq, Decidable.not_not] at hcond
        simp only [Array.length_toList] at hl1 hl2
        have hput : ((v.cells.zipIdx.foldl (fun cs (c, j) => cs.setIfInBounds (off + j) c) arr)).toList = arr.toList.take off ++ v.cells.toList ++ arr.toList.drop (off + v.cells.toList.length) := by
          have := zip_put v.cells.toList off arr 0 (by simp; omega)
          rw [← Array.foldl_toList, Array.toList_zipIdx]
          simpa using this
        obtain ⟨arr', h1, h2⟩ := fill_rel place place' hp ps vs (putAt cs off vc) (v.cells.zipIdx.foldl (fun cs (c, j) => cs.setIfInBounds (off + j) c) arr) r (by simpa using hl)
          (fun i p q hp hq => hrel (i + 1) p q (by simpa using hp) (by simpa using hq)) (by rw [hput]; exact putAt_rel hr hvc off) hf
        refine ⟨arr', ?_, h2⟩
        simp only [Instr.fill, hp _ _ hpl]
        have : ¬ (v.cells.size ≠ size || decide (off + v.cells.size > arr.size)) = true := by
          simp only [Bool.or_eq_true, decide_eq_true_eq, not_or, ne_eq, Decidable.not_not]
          omega
        rw [if_neg (by simpa using this)]
        exact h1
    · cases hf
  | [], _ :: _, _, _, _, hl, _, _, _ => by simp at hl
  | _ :: _, [], _, _, _, hl, _, _, _ => by simp at hl

theorem parts_rel {A : List AV} {a : Act} (r : ARel G A a) (parts : Array (Nat × Operand)) :
    ∀ (i : Nat) (p : Nat × AV) (q : Nat × Value), (parts.toList.map fun (i, x) => (i, aev A x))[i]? = some p → ((parts.map fun (i, x) => (i, a.eval x)).toList)[i]? = some q → p.1 = q.1 ∧ VRel G p.2 q.2 := by
  intro i p q hp hq
  simp only [Array.toList_map, List.getElem?_map, Option.map_eq_some_iff] at hp hq
  obtain ⟨x, hx, rfl⟩ := hp
  obtain ⟨y, hy, rfl⟩ := hq
  rw [hx] at hy; cases hy
  exact ⟨rfl, aev_rel r x.2⟩

theorem mapM_places (fs : List Field) (hall : ∀ f ∈ fs, (P.info? f.type).isSome) :
    (fs.mapM fun f => (do pure (f.offset, ← sizeOf f.type) : Sem (Nat × Nat))).run P w = .ok (fs.map fun f => (f.offset, (sizeT P f.type).getD 0)) w := by
  induction fs with
  | nil => rfl
  | cons f fs ih =>
    obtain ⟨i, hi⟩ := Option.isSome_iff_exists.1 (hall f (by simp))
    rw [List.mapM_cons]
    simp only [Sem.run_bind, run_sizeOf hi, Result.andThen_ok, Sem.run_pure, ih (fun f hf => hall f (by simp [hf])), List.map_cons, sizeT, hi, Option.map_some, Option.getD_some]

theorem build_ok {A : List AV} {a : Act} (r : ARel G A a) {t : TypeId} {parts : Array (Nat × Operand)} {x : AV} (hb : aBuild P t (parts.toList.map fun (i, x) => (i, aev A x)) = some x) :
    ∃ u, (Instr.build t (parts.map fun (i, x) => (i, a.eval x))).run P w = .ok u w ∧ VRel G x u := by
  unfold aBuild at hb
  split at hb
  · rename_i z fs hz hu
    obtain ⟨i, v, hi, hv, hrun, hrel⟩ := run_zero (w := w) hz
    split at hb
    · rename_i hall
      rw [Option.map_eq_some_iff] at hb
      obtain ⟨cs, hf, rfl⟩ := hb
      have hplaces := mapM_places (w := w) fs.toList (fun f hf => by
        have := List.all_eq_true.1 hall f hf
        exact this)
      obtain ⟨arr', h1, h2⟩ := fill_rel (fun i => (fs.toList.map fun f => (f.offset, (sizeT P f.type).getD 0)).toArray[i]?) (fun i => (fs.toList[i]?).map fun f => (f.offset, (sizeT P f.type).getD 0)) (fun i x hx => by simpa using hx)
        _ _ z v.cells cs (by simp) (parts_rel r parts) (hrel G) hf
      refine ⟨.agg arr', ?_, by simp only [VRel]; exact ⟨_, rfl, h2⟩⟩
      simp only [Instr.build, Sem.run_bind, hrun, Result.andThen_ok, run_underlying hu]
      rw [Array.mapM_eq_mapM_toList]
      simp only [Sem.run_map, hplaces, Result.andThen_ok, h1, Sem.run_pure]
    · cases hb
  · rename_i z n e hz hu
    obtain ⟨i, v, hi, hv, hrun, hrel⟩ := run_zero (w := w) hz
    split at hb
    · rename_i sz hsz
      rw [Option.map_eq_some_iff] at hb
      obtain ⟨cs, hf, rfl⟩ := hb
      obtain ⟨arr', h1, h2⟩ := fill_rel (fun i => some (i * sz, sz)) (fun i => some (i * sz, sz)) (fun i x hx => hx)
        _ _ z v.cells cs (by simp) (parts_rel r parts) (hrel G) hf
      refine ⟨.agg arr', ?_, by simp only [VRel]; exact ⟨_, rfl, h2⟩⟩
      simp only [Instr.build, Sem.run_bind, hrun, Result.andThen_ok, run_underlying hu, run_sizeT hsz, h1, Sem.run_pure]
    · cases hb
  · cases hb

/-! ### rows of zeros -/
theorem flat_rep_get {α : Type} (z : List α) : ∀ (n i : Nat), i < n * z.length → (List.replicate n z).flatten[i]? = z[i % z.length]?
  | 0, i, h => by simp at h
  | n + 1, i, h => by
    rw [replicate_drop_flatten]
    by_cases hi : i < z.length
    · rw [List.getElem?_append_left hi, Nat.mod_eq_of_lt hi]
    · rw [List.getElem?_append_right (by omega), flat_rep_get z n (i - z.length) (by rw [Nat.add_mul] at h; omega)]
      rw [← Nat.mod_eq_sub_mod (by omega)]

theorem rows_eq (z : Array Value) (n : Nat) : ((Array.range (n * z.size)).map fun i => z[i % z.size]!).toList = (List.replicate n z.toList).flatten := by
  apply List.ext_getElem?
  intro i
  by_cases hi : i < n * z.size
  · have hz : 0 < z.size := by
      rcases Nat.eq_zero_or_pos z.size with h | h
      · rw [h] at hi; simp at hi
      · exact h
    have hm := Nat.mod_lt i hz
    rw [flat_rep_get z.toList n i (by simpa using hi)]
    simp [hi, hm]
  · have h1 : ((Array.range (n * z.size)).map fun i => z[i % z.size]!).toList.length ≤ i := by simp; omega
    have h2 : (List.replicate n z.toList).flatten.length ≤ i := by simp; omega
    rw [List.getElem?_eq_none h1, List.getElem?_eq_none h2]

theorem rels_flat {z : List AV} {vz : List Value} (hz : VRels G z vz) : ∀ n, VRels G (List.replicate n z).flatten (List.replicate n vz).flatten
  | 0 => by simp [VRels]
  | n + 1 => by simp only [List.replicate_succ, List.flatten_cons]; exact hz.append (rels_flat hz n)

theorem elemT_eq {t e : TypeId} (h : elemT P t = some e) : P.underlying t = some (.slice e) := by
  unfold elemT at h; split at h
  · cases h; assumption
  · cases h

theorem buildSlice_ok (s : SRel G h w) {A : List AV} {a : Act} (r : ARel G A a) {t : TypeId} {len : Nat} {parts : Array (Nat × Operand)} {x : AV} (hb : aBuildSlice P t len (parts.toList.map fun (i, x) => (i, aev A x)) = some x) :
    RunOk P G h w (Instr.buildSlice t len (parts.map fun (i, x) => (i, a.eval x))) x h := by
  unfold aBuildSlice at hb
  split at hb
  · rename_i e he
    split at hb
    · rename_i n z hn hz
      obtain ⟨i, v, hi, hv, hrun, hrel⟩ := run_zero (w := w) hz
      split at hb
      · rename_i hc
        obtain ⟨hc1, hc2, hc3⟩ := hc
        rw [Option.map_eq_some_iff] at hb
        obtain ⟨cs, hf, rfl⟩ := hb
        have hvz := (hrel G)
        have hl := hvz.length
        simp only [Array.length_toList] at hl
        have hzs : v.cells.size = n := by omega
        have hinit : VRels G (List.replicate len z).flatten ((Array.range (len * n)).map fun i => v.cells[i % v.cells.size]!).toList := by
          rw [← hzs, rows_eq]; exact rels_flat hvz len
        obtain ⟨arr', h1, h2⟩ := fill_rel (fun i => some (i * n, n)) (fun i => some (i * n, n)) (fun i x hx => hx)
          _ _ _ _ cs (by simp) (parts_rel r parts) hinit hf
        obtain ⟨G', _, s', st, hfr, _⟩ := s.freezeNew arr' e
        generalize (parts.map fun (i, x) => (i, a.eval x)) = vp at h1 ⊢
        refine ⟨.slice (some ⟨w.heap.size, 0, none⟩) len len, w.alloc (.cells arr' e), G', ?_, st, s', ?_⟩
        · have hnot : ¬ 16777216 < len * n := by omega
          by_cases h0 : len * n = 0
          · have hlen : len = 0 := by
              rcases Nat.mul_eq_zero.1 h0 with h | h
              · exact h
              · omega
            subst hlen
            have hr0 : Array.range 0 = #[] := rfl
            have h1' : Instr.fill (fun i => some (i * n, n)) #[] vp.toList = some arr' := by simpa [hr0] using h1
            simp [hr0, Instr.buildSlice, run_underlying (elemT_eq he), run_sizeT hn, newRow, h1']
          · simp [Instr.buildSlice, run_underlying (elemT_eq he), run_sizeT hn, hnot, h0, hrun, h1, newRow]
        · simp only [VRel]
          refine .inr ⟨w.heap.size, 0, len, arr'.toList, rfl, Nat.le_refl _, ?_, rfl, VRels.mono st.le _ _ h2, fun i u hu => ?_⟩
          · have : len ≤ len * n := Nat.le_mul_of_pos_right _ hc2
            unfold maxLen; omega
          · simpa using hfr i u (by simpa using hu)
      · cases hb
    · cases hb
  · cases hb
end
end Go.VM
