/- Maps: the operations. -/
import Derived.Test.YtbadfaiepgfpdaaVmI2
namespace Go.VM
section
variable {P : Program} {G : Ghost} {h : H} {w : World}

theorem erel_of : ∀ {M : List (AV × AV)} {es : List MapEntry}, M.length = es.length → (∀ (i : Nat) (kv : AV × AV) (e : MapEntry), M[i]? = some kv → es[i]? = some e → VRel G kv.1 e.key ∧ VRel G kv.2 e.val) → ERel G M es
  | [], [], _, _ => rfl
  | kv :: M, e :: es, hl, hh => by
    simp only [ERel]
    obtain ⟨h1, h2⟩ := hh 0 kv e rfl rfl
    exact ⟨e, es, rfl, h1, h2, erel_of (by simpa using hl) (fun i kv e a b => hh (i + 1) kv e (by simpa using a) (by simpa using b))⟩
  | [], _ :: _, hl, _ => by simp at hl
  | _ :: _, [], hl, _ => by simp at hl

theorem idx_none {kt : TypeId} {k : AV} : ∀ {M : List (AV × AV)} {i : Nat}, idxOfKey P kt k M i = none → ∀ kv ∈ M, keyIs P kt k kv = false
  | [], _, _, kv, hkv => by cases hkv
  | kv0 :: M, i, h, kv, hkv => by
    simp only [idxOfKey] at h
    split at h
    · cases h
    · rename_i hk
      rcases List.mem_cons.1 hkv with rfl | hkv
      · simpa using hk
      · exact idx_none h kv hkv
theorem idx_some {kt : TypeId} {k : AV} : ∀ {M : List (AV × AV)} {i j : Nat} {a : AV}, idxOfKey P kt k M i = some (j, a) → ∃ kv, i ≤ j ∧ M[j - i]? = some kv ∧ keyIs P kt k kv = true ∧ kv.2 = a
  | [], _, _, _, h => by simp [idxOfKey] at h
  | kv0 :: M, i, j, a, h => by
    simp only [idxOfKey] at h
    split at h
    · rename_i hk
      simp only [Option.some.injEq, Prod.mk.injEq] at h
      obtain ⟨rfl, rfl⟩ := h
      exact ⟨kv0, Nat.le_refl _, by simp, hk, rfl⟩
    · obtain ⟨kv, h1, h2, h3, h4⟩ := idx_some h
      refine ⟨kv, by omega, ?_, h3, h4⟩
      rw [show j - i = (j - (i + 1)) + 1 from by omega]
      simpa using h2

theorem nodup_keys {M : List (AV × AV)} (hn : (M.map (·.1)).Nodup) {a b : AV × AV} (ha : a ∈ M) (hb : b ∈ M) (he : a.1 = b.1) : a = b := by
  obtain ⟨i, hi, rfl⟩ := List.getElem_of_mem ha
  obtain ⟨j, hj, rfl⟩ := List.getElem_of_mem hb
  have : i = j := by
    rw [List.Nodup, List.pairwise_iff_getElem] at hn
    rcases Nat.lt_trichotomy i j with h | h | h
    · exact absurd (by rw [List.getElem_map, List.getElem_map]; exact he) (hn i j (by simpa using hi) (by simpa using hj) h)
    · exact h
    · exact absurd (by rw [List.getElem_map, List.getElem_map]; exact he.symm) (hn j i (by simpa using hj) (by simpa using hi) h)
  subst this; rfl

theorem mfind_of {kt : TypeId} {k : AV} {M M' : List (AV × AV)} (hp : M'.Perm M) (hn : (M.map (·.1)).Nodup) (hspec : ∀ kv ∈ M, keyIs P kt k kv = true ↔ kv.1 = k) :
    (idxOfKey P kt k M' 0 = none → mfind P kt k M = none) ∧ ∀ j a, idxOfKey P kt k M' 0 = some (j, a) → mfind P kt k M = some a := by
  refine ⟨fun h => ?_, fun j a h => ?_⟩
  · have := idx_none h
    simp only [mfind, Option.map_eq_none_iff, List.find?_eq_none]
    intro kv hkv; simp [this kv (hp.mem_iff.2 hkv)]
  · obtain ⟨kv, _, h2, h3, rfl⟩ := idx_some h
    have hm : kv ∈ M := hp.mem_iff.1 (List.mem_of_getElem? h2)
    cases hf : M.find? (keyIs P kt k) with
    | none => exact absurd h3 (by simpa using List.find?_eq_none.1 hf kv hm)
    | some kv' =>
      have hm' := List.mem_of_find?_eq_some hf
      have hk' := List.find?_some hf
      have : kv' = kv := nodup_keys hn hm' hm (((hspec kv' hm').1 hk').trans ((hspec kv hm).1 h3).symm)
      simp [mfind, hf, this]

theorem mapT_eq {t kt et : TypeId} (h : mapT P t = some (kt, et)) : P.underlying t = some (.map kt et) := by
  unfold mapT at h; split at h
  · cases h; assumption
  · cases h

/-- the entries of an abstract map's block -/
theorem theMap_rel (s : SRel G h w) {m : AV} {M : List (AV × AV)} (hm : h.theMap m = some M) {v : Value} (hv : VRel G m v) :
    MOk M ∧ ∃ es : Array MapEntry, (∃ M', M'.Perm M ∧ ERel G M' es.toList) ∧
      (v = .map none ∧ es = #[] ∨ ∃ c clock, v = .map (some c) ∧ w.heap[c]? = some (.map es clock)) := by
  unfold H.theMap at hm
  split at hm
  · simp only [Option.some.injEq] at hm; subst hm
    simp only [VRel] at hv; subst hv
    exact ⟨⟨by simp, by simp⟩, #[], ⟨[], .refl _, rfl⟩, .inl ⟨rfl, rfl⟩⟩
  · rename_i i
    simp only [VRel] at hv
    obtain ⟨c, hc, rfl⟩ := hv
    obtain ⟨M2, es, clock, h1, h2, h3, M', h4, h5, h6, _⟩ := s.map i c hc
    rw [hm] at h1; cases h1
    exact ⟨h3, es, ⟨M', h4, erel_of (by simpa using h5) (by simpa using h6)⟩, .inr ⟨c, clock, rfl, h2⟩⟩
  · cases hm

theorem lookup_ok (s : SRel G h w) {t : TypeId} {m k r : AV} {ok : Bool} (hl : aLookup P t m k ok h = some r) {vm vk : Value} (hm : VRel G m vm) (hk : VRel G k vk) :
    ∃ u, (Instr.lookup t vm vk ok).run P w = .ok u w ∧ VRel G r u := by
  unfold aLookup at hl
  split at hl
  · rename_i kt et M hmt hM
    split at hl
    · rename_i z hz
      obtain ⟨zv, hzr, hzrel⟩ : ∃ zv, (zeroValue et).run P w = .ok zv w ∧ VRel G z zv := by
        unfold zeroA at hz
        split at hz
        · rename_i i hi
          split at hz
          · rename_i zv hzv
            simp only [Option.some.injEq] at hz; subst hz
            exact ⟨zv, by simp [zeroValue, typeInfo, hi, hzv], ofConst_rel G zv⟩
          · cases hz
        · cases hz
      split at hl
      · rename_i hko
        obtain ⟨k1, k2, k3⟩ := keyOk_spec hko
        obtain ⟨hMok, es, ⟨M', hp, he⟩, hv⟩ := theMap_rel s hM hm
        have hd : ∀ kv ∈ M', aEq P kt k kv.1 = some (keyIs P kt k kv) := fun kv hkv => (k3 kv (hp.mem_iff.1 hkv)).1
        obtain ⟨fr, hfr, hcase⟩ := findKey_run (w := w) hk k1 he hd
        obtain ⟨f1, f2⟩ := mfind_of hp hMok.1 (fun kv hkv => (k3 kv hkv).2)
        have hu := mapT_eq hmt
        have hck := checkKey_ok (w := w) k1 hk es.isEmpty
        have hrun : (Instr.lookup t vm vk ok).run P w = .ok (match fr with | some (_, v) => (if ok then .tuple #[v, .bool true] else v) | none => (if ok then .tuple #[zv, .bool false] else zv)) w := by
          rcases hv with ⟨rfl, rfl⟩ | ⟨c, clock, rfl, hc⟩
          · cases fr <;> simp only [Instr.lookup, Sem.run_bind, run_underlying hu, Result.andThen_ok, Sem.run_pure, hck, hfr, hzr]
          · cases fr <;> simp only [Instr.lookup, Sem.run_bind, run_underlying hu, Result.andThen_ok, Sem.run_pure, getObj, Sem.run, hc, hck, hfr, hzr]
        rcases hcase with ⟨c1, rfl⟩ | ⟨j, a, u, c1, rfl, c3⟩
        · rw [f1 c1] at hl
          simp only [Option.some.injEq] at hl; subst hl
          refine ⟨_, hrun, ?_⟩
          cases ok
          · simpa using hzrel
          · simp [VRel, VRels, hzrel]
        · rw [f2 j a c1] at hl
          simp only [Option.some.injEq] at hl; subst hl
          refine ⟨_, hrun, ?_⟩
          cases ok
          · simpa using c3
          · simp [VRel, VRels, c3]
      · cases hl
    · cases hl
  · cases hl

/-- a map's block is written -/
theorem SRel.mapWrite (s : SRel G h w) {m c : Nat} (hc : G.mp m = some c) {es0 : Array MapEntry} {ck0 : Nat} (hh : w.heap[c]? = some (.map es0 ck0)) {M : List (AV × AV)} {es : Array MapEntry} {ck : Nat} (hr : MRel G M es ck) :
    SRel G { h with maps := h.maps.set m M } { w with heap := w.heap.setIfInBounds c (.map es ck) } ∧ Step G h w G { h with maps := h.maps.set m M } { w with heap := w.heap.setIfInBounds c (.map es ck) } := by
  have hlt := lt_of_get hh
  have hoth : ∀ k, k ≠ c → (w.heap.setIfInBounds c (.map es ck))[k]? = w.heap[k]? := fun k hk => by simp [Array.getElem?_setIfInBounds, Ne.symm hk]
  have hsame : (w.heap.setIfInBounds c (.map es ck))[c]? = some (.map es ck) := by simp [Array.getElem?_setIfInBounds, hlt]
  have hnc : ∀ {k : Nat} {arr : Array Value} {e : TypeId} {f : Nat × Nat}, w.heap[k]? = some (.cells arr e f) → k ≠ c := fun hk e => by subst e; rw [hh] at hk; cases hk
  refine ⟨⟨⟨s.dom.φ, s.dom.tk, fun m' c' h' => by simpa using s.dom.mp m' c' h'⟩, ?_, ?_, ?_, ?_, s.injφ, s.φfr, s.φtk, s.tkle, s.injtk, s.injmp, ?_⟩, ?_⟩
  · intro b c' hb
    obtain ⟨cs, arr, e, h1, h2, h3⟩ := s.blk b c' hb
    exact ⟨cs, arr, e, h1, (hoth c' (hnc h2)).trans h2, h3⟩
  · intro t n ht
    obtain ⟨c', cap, size, cur, e, h1, h2, h3⟩ := s.tok t n ht
    exact ⟨c', cap, size, cur, e, h1, (hoth c' (hnc h2)).trans h2, h3⟩
  · intro m' c' hm'
    by_cases e1 : m' = m
    · subst e1
      rw [hc] at hm'; cases hm'
      exact ⟨M, es, ck, by simp [List.getElem?_set, s.dom.mp _ _ hc], hsame, hr⟩
    · obtain ⟨M2, es2, ck2, h1, h2, h3⟩ := s.map m' c' hm'
      exact ⟨M2, es2, ck2, by rw [List.getElem?_set_ne (Ne.symm e1)]; exact h1, (hoth c' (fun e2 => e1 (s.injmp m' m c (e2 ▸ hm') hc))).trans h2, h3⟩
  · intro c' i v hf
    have hcell := s.fr c' i v hf
    have hne : c' ≠ c := fun e => by subst e; simp [World.cell?, hh] at hcell
    rw [World.cell?_of_block (w := w) (a := ⟨c', i, none⟩) (hoth c' hne)]; exact hcell
  · intro β hβ
    obtain ⟨h1, h2, h3, h4⟩ := s.bases β hβ
    exact ⟨h1, h2, by simpa using h3, h4⟩
  · exact ⟨.refl G, rfl, rfl, rfl, by simp, fun k _ hno => hoth k (fun e3 => hno (.inr (.inr ⟨m, e3 ▸ hc⟩))), fun k ho => .inl ho, rfl, ⟨fun _ _ h _ => h, Nat.le_refl _⟩, fun _ _ _ h => .inl h⟩

/-- a new map -/
theorem SRel.newMap (s : SRel G h w) : ∃ G', SRel G' { h with maps := h.maps ++ [[]] } (w.alloc (.map #[] 0)) ∧ Step G h w G' { h with maps := h.maps ++ [[]] } (w.alloc (.map #[] 0)) ∧ G'.mp h.maps.length = some w.heap.size := by
  let G' : Ghost := { G with mp := fun b => if b = h.maps.length then some w.heap.size else G.mp b }
  have hle : G.Le G' := ⟨fun _ _ h => h, fun _ _ _ h => h, fun _ _ _ h => h, fun b c hb => by
    have := s.dom.mp b c hb
    show (if b = h.maps.length then _ else _) = _
    rw [if_neg (by omega)]; exact hb⟩
  have hold : ∀ b c, G'.mp b = some c → (b = h.maps.length ∧ c = w.heap.size) ∨ G.mp b = some c := fun b c hb => by
    by_cases e : b = h.maps.length
    · left; refine ⟨e, ?_⟩; simp [G', e] at hb; exact hb.symm
    · right; simpa [G', e] using hb
  have s1 := s.garbage (.map #[] 0)
  refine ⟨G', ⟨⟨s1.dom.φ, s1.dom.tk, fun b c hb => ?_⟩, ?_, s1.tok, ?_, s1.fr, s1.injφ, s1.φfr, s1.φtk, s1.tkle, s1.injtk, ?_, ?_⟩, ?_, by simp [G']⟩
  · rcases hold b c hb with ⟨rfl, _⟩ | hb
    · simp
    · have := s.dom.mp b c hb; simp; omega
  · intro b c hb
    obtain ⟨cs, arr, e, h1, h2, h3⟩ := s1.blk b c hb
    exact ⟨cs, arr, e, h1, h2, VRels.mono hle _ _ h3⟩
  · intro m c hm
    rcases hold m c hm with ⟨rfl, rfl⟩ | hm
    · refine ⟨[], #[], 0, by simp, heap_alloc_new w _, ⟨⟨by simp, by simp⟩, [], .refl _, rfl, by simp, by simp, by simp⟩⟩
    · obtain ⟨M, es, ck, h1, h2, h3⟩ := s1.map m c hm
      exact ⟨M, es, ck, by rw [List.getElem?_append_left (s.dom.mp m c hm)]; exact h1, h2, h3.mono hle⟩
  · intro m m' c hm hm'
    rcases hold m c hm with ⟨rfl, hc⟩ | h1
    · rcases hold m' c hm' with ⟨rfl, _⟩ | h2
      · rfl
      · exact absurd hc (Nat.ne_of_lt (s.own_lt (.inr (.inr ⟨_, h2⟩))))
    · rcases hold m' c hm' with ⟨_, hc⟩ | h2
      · exact absurd hc (Nat.ne_of_lt (s.own_lt (.inr (.inr ⟨_, h1⟩))))
      · exact s.injmp m m' c h1 h2
  · intro β hβ
    obtain ⟨h1, h2, h3, h4⟩ := s.bases β hβ
    exact ⟨h1, h2, by simp; omega, h4⟩
  · refine ⟨hle, rfl, rfl, rfl, by simp, fun c hc _ => heap_alloc_old w _ c hc, fun c ho => ?_, rfl, ⟨fun _ _ h _ => h, Nat.le_refl _⟩, fun _ _ _ h => .inl h⟩
    rcases ho with ho | ho | ⟨m, hm⟩
    · exact .inl (.inl ho)
    · exact .inl (.inr (.inl ho))
    · rcases hold m c hm with ⟨_, rfl⟩ | hm
      · exact .inr (Nat.le_refl _)
      · exact .inl (.inr (.inr ⟨m, hm⟩))
end
end Go.VM
