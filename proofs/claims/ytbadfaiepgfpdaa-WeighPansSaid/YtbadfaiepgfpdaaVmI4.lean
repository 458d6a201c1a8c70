/- Maps: storing. -/
import Derived.Test.YtbadfaiepgfpdaaVmI3
namespace Go.VM
section
variable {P : Program} {G : Ghost} {h : H} {w : World}

theorem erel_get : ∀ {M : List (AV × AV)} {es : List MapEntry}, ERel G M es → ∀ (i : Nat) (kv : AV × AV) (e : MapEntry), M[i]? = some kv → es[i]? = some e → VRel G kv.1 e.key ∧ VRel G kv.2 e.val
  | [], es, he, i, kv, e, h1, _ => by simp at h1
  | kv0 :: M, es, he, i, kv, e, h1, h2 => by
    simp only [ERel] at he
    obtain ⟨e0, es', rfl, r1, r2, r3⟩ := he
    cases i with
    | zero => simp at h1 h2; subst h1 h2; exact ⟨r1, r2⟩
    | succ i => exact erel_get r3 i kv e (by simpa using h1) (by simpa using h2)
theorem erel_len : ∀ {M : List (AV × AV)} {es : List MapEntry}, ERel G M es → M.length = es.length
  | [], es, he => by simp only [ERel] at he; simp [he]
  | kv0 :: M, es, he => by
    simp only [ERel] at he
    obtain ⟨e0, es', rfl, _, _, r3⟩ := he
    simp [erel_len r3]

theorem map_modify_unique {kt : TypeId} {k v : AV} {M : List (AV × AV)} {j : Nat} {kv : AV × AV} (hj : M[j]? = some kv) (hk : keyIs P kt k kv = true) (hu : ∀ (i : Nat) (x : AV × AV), M[i]? = some x → keyIs P kt k x = true → i = j) :
    (M.map fun x => if keyIs P kt k x then (k, v) else x) = M.set j (k, v) := by
  apply List.ext_getElem?
  intro i
  simp only [List.getElem?_map, List.getElem?_set]
  by_cases hij : j = i
  · subst hij
    have hlt := (List.getElem?_eq_some_iff.1 hj).1
    have hjg : M[j] = kv := (List.getElem?_eq_some_iff.1 hj).2
    simp [hlt, hjg, hk]
  · rw [if_neg hij]
    cases hx : M[i]? with
    | none => rfl
    | some x =>
      have : ¬ keyIs P kt k x = true := fun h => hij (hu i x hx h).symm
      simp [this]

theorem mapUpdate_ok (s : SRel G h w) {t : TypeId} {m k v : AV} {h' : H} (hu : aMapUpdate P t m k v h = some h') {vm vk vv : Value} (hm : VRel G m vm) (hk : VRel G k vk) (hv : VRel G v vv) :
    ∃ w', (Instr.mapUpdate t vm vk vv).run P w = .ok () w' ∧ Step G h w G h' w' ∧ SRel G h' w' := by
  unfold aMapUpdate at hu
  split at hu
  · rename_i kt et i hmt
    split at hu
    · rename_i M hM
      split at hu
      · rename_i hc
        simp only [Bool.and_eq_true] at hc
        simp only [Option.some.injEq] at hu; subst hu
        obtain ⟨hko, hvb⟩ := hc
        obtain ⟨k1, k2, k3⟩ := keyOk_spec hko
        simp only [VRel] at hm
        obtain ⟨c, hcc, rfl⟩ := hm
        obtain ⟨M2, es, clock, h1, h2, hMok, M', hp, hlen, hrel, hborn, hnd⟩ := s.map i c hcc
        rw [hM] at h1; cases h1
        have he : ERel G M' es.toList := erel_of (by simpa using hlen) (by simpa using hrel)
        have hd : ∀ kv ∈ M', aEq P kt k kv.1 = some (keyIs P kt k kv) := fun kv hkv => (k3 kv (hp.mem_iff.1 hkv)).1
        obtain ⟨fr, hfr, hcase⟩ := findKey_run (w := w) hk k1 he hd
        have hut := mapT_eq hmt
        have hck := checkKey_ok (w := w) k1 hk false
        have hn' : (M'.map (·.1)).Nodup := (hp.map _).nodup_iff.2 hMok.1
        rcases hcase with ⟨c1, rfl⟩ | ⟨j, a, u, c1, rfl, c3⟩
        · -- a new entry
          have hnone := idx_none c1
          have hany : M.any (keyIs P kt k) = false := by
            rw [Bool.eq_false_iff]; intro hq
            obtain ⟨kv, q1, q2⟩ := List.any_eq_true.1 hq
            rw [hnone kv (hp.mem_iff.2 q1)] at q2; cases q2
          have hput : mput P kt k v M = M ++ [(k, v)] := by simp [mput, hany]
          have hM' : MRel G (M ++ [(k, v)]) (es.push { key := vk, val := vv, born := clock }) (clock + 1) := by
            refine ⟨⟨?_, ?_⟩, M' ++ [(k, v)], hp.append_right _, by simp [hlen], ?_, ?_, ?_⟩
            · simp only [List.map_append, List.map_cons, List.map_nil]
              rw [List.nodup_append]
              refine ⟨hMok.1, by simp, fun x hx y hy e => ?_⟩
              simp at hy; subst hy
              obtain ⟨kv, q1, rfl⟩ := List.mem_map.1 hx
              have := (k3 kv q1).2.2 e
              rw [hnone kv (hp.mem_iff.2 q1)] at this; cases this
            · intro kv hkv
              rcases List.mem_append.1 hkv with q | q
              · exact hMok.2 kv q
              · simp at q; subst q; exact ⟨k2, hvb⟩
            · intro i kv e q1 q2
              by_cases hi : i < M'.length
              · rw [List.getElem?_append_left hi] at q1
                have : i < es.size := by omega
                rw [Array.getElem?_push_lt this] at q2
                exact hrel i kv e q1 (by simpa [this] using q2)
              · rw [List.getElem?_append_right (by omega)] at q1
                have hi' : i = es.size := by
                  have := (List.getElem?_eq_some_iff.1 q1).1
                  simp at this; omega
                subst hi'
                simp [hlen] at q1 q2
                subst q1 q2; exact ⟨hk, hv⟩
            · intro e he'
              simp at he'
              rcases he' with q | rfl
              · have := hborn e (by simpa using q); omega
              · simp
            · simp only [Array.toList_push, List.map_append, List.map_cons, List.map_nil]
              rw [List.nodup_append]
              refine ⟨hnd, by simp, fun x hx y hy e => ?_⟩
              simp at hy; subst hy
              obtain ⟨e', q1, rfl⟩ := List.mem_map.1 hx
              have := hborn e' q1; omega
          obtain ⟨sA, stA⟩ := s.mapWrite hcc h2 hM'
          rw [hput]
          refine ⟨_, ?_, stA, sA⟩
          simp only [Instr.mapUpdate, Sem.run_bind, run_underlying hut, Result.andThen_ok, getObj, setObj, Sem.run, h2, hck, hfr]
        · obtain ⟨kv, _, q2, q3, rfl⟩ := idx_some c1
          simp only [Nat.sub_zero] at q2
          have hkk : kv.1 = k := (k3 kv (hp.mem_iff.1 (List.mem_of_getElem? q2))).2.1 q3
          have hjlt : j < es.size := by have := (List.getElem?_eq_some_iff.1 q2).1; omega
          have hje : es[j]? = some es[j] := by simp [hjlt]
          obtain ⟨r1, r2⟩ := hrel j kv es[j] q2 hje
          rw [hkk] at r1
          have hkeyeq : es[j].key = vk := (key_rel k2 hk).1 G _ r1
          have hany : M.any (keyIs P kt k) = true := List.any_eq_true.2 ⟨kv, hp.mem_iff.1 (List.mem_of_getElem? q2), q3⟩
          have hput : mput P kt k v M = M.map fun x => if keyIs P kt k x then (k, v) else x := by simp [mput, hany]
          have huniq : ∀ (i : Nat) (x : AV × AV), M'[i]? = some x → keyIs P kt k x = true → i = j := fun i x hx hkx => by
            have hxe : x = kv := nodup_keys hn' (List.mem_of_getElem? hx) (List.mem_of_getElem? q2) (((k3 x (hp.mem_iff.1 (List.mem_of_getElem? hx))).2.1 hkx).trans hkk.symm)
            subst hxe
            obtain ⟨hi, hi'⟩ := List.getElem?_eq_some_iff.1 hx
            obtain ⟨hj, hj'⟩ := List.getElem?_eq_some_iff.1 q2
            rw [List.Nodup, List.pairwise_iff_getElem] at hn'
            rcases Nat.lt_trichotomy i j with q | q | q
            · exact absurd (by rw [List.getElem_map, List.getElem_map, hi', hj']) (hn' i j (by simpa using hi) (by simpa using hj) q)
            · exact q
            · exact absurd (by rw [List.getElem_map, List.getElem_map, hi', hj']) (hn' j i (by simpa using hj) (by simpa using hi) q)
          have hmod := map_modify_unique (v := v) q2 q3 huniq
          have hM' : MRel G (M.map fun x => if keyIs P kt k x then (k, v) else x) (es.modify j fun e => { e with key := vk, val := vv }) clock := by
            refine ⟨⟨?_, ?_⟩, M'.map fun x => if keyIs P kt k x then (k, v) else x, hp.map _, by simp [hlen], ?_, ?_, ?_⟩
            · have : (M.map fun x => if keyIs P kt k x then (k, v) else x).map (·.1) = M.map (·.1) := by
                rw [List.map_map]
                apply List.map_congr_left
                intro x hx
                simp only [Function.comp]
                split
                · rename_i hq; exact ((k3 x hx).2.1 hq).symm
                · rfl
              rw [this]; exact hMok.1
            · intro x hx
              obtain ⟨y, hy, rfl⟩ := List.mem_map.1 hx
              split
              · exact ⟨k2, hvb⟩
              · exact hMok.2 y hy
            · intro i x e g1 g2
              rw [hmod] at g1
              simp only [Array.getElem?_modify] at g2
              rw [List.getElem?_set] at g1
              by_cases hij : j = i
              · subst hij
                rw [if_pos rfl] at g1 g2
                rw [hje] at g2
                split at g1
                · simp at g1 g2; subst g1 g2; exact ⟨hk, hv⟩
                · cases g1
              · rw [if_neg hij] at g1 g2
                exact hrel i x e g1 g2
            · intro e he'
              obtain ⟨i, hi⟩ := List.getElem?_of_mem he'
              simp only [Array.getElem?_toList, Array.getElem?_modify] at hi
              split at hi
              · rename_i hij; subst hij
                rw [hje] at hi; simp at hi; subst hi
                exact hborn es[j] (by simp)
              · exact hborn e (List.mem_of_getElem? (by simpa using hi))
            · have : (es.modify j fun e => { e with key := vk, val := vv }).toList.map (·.born) = es.toList.map (·.born) := by
                apply List.ext_getElem?
                intro i
                simp only [List.getElem?_map, Array.getElem?_toList, Array.getElem?_modify]
                split
                · cases es[i]? <;> rfl
                · rfl
              rw [this]; exact hnd
          obtain ⟨sA, stA⟩ := s.mapWrite hcc h2 hM'
          rw [hput]
          refine ⟨_, ?_, stA, sA⟩
          have hst : (Instr.keyThatStays vk vk).run P w = .ok vk w := by
            have := (key_rel k2 hk).2 9999
            simp only [Instr.keyThatStays, this, if_true, Sem.run_pure]
          simp only [Instr.mapUpdate, Sem.run_bind, run_underlying hut, Result.andThen_ok, getObj, setObj, Sem.run, h2, hck, hfr, hje, Option.map_some, Option.getD_some, hkeyeq, hst]
      · cases hu
    · cases hu
  · cases hu

theorem makeMap_ok (s : SRel G h w) {t : TypeId} {A : List AV} {a : Act} (r : ARel G A a) {x : Option Operand} (hm : (mapT P t).isSome) {i : Option Int} (hi : intOf? (x.map (aev A)) = some i) :
    RunOk P G h w (Instr.makeMap t (x.map a.eval)) (.map h.maps.length) { h with maps := h.maps ++ [[]] } := by
  obtain ⟨⟨kt, et⟩, hmt⟩ := Option.isSome_iff_exists.1 hm
  obtain ⟨G', s', st, hmp⟩ := s.newMap
  refine ⟨.map (some w.heap.size), _, G', ?_, st, s', by simp only [VRel]; exact ⟨_, hmp, rfl⟩⟩
  rcases intOf_rel hi (opt_rel r x) with ⟨_, e⟩ | ⟨k, n, _, e⟩
  · rw [e]; simp [Instr.makeMap]
  · rw [e]; simp [Instr.makeMap, run_underlying (mapT_eq hmt), asInt, asIntOf]
end
end Go.VM
