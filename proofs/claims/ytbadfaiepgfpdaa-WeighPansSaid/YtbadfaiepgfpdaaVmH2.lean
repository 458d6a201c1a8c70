/- append, whole. -/
import Derived.Test.YtbadfaiepgfpdaaVmH
namespace Go.VM
section
variable {P : Program} {G : Ghost} {h : H} {w : World}

theorem run_append_in {t ty e : TypeId} {i : TypeInfo} (ht : P.underlying t = some (.slice e)) (hi : P.info? e = some i) {g sLen sCap : Nat} {cur : Array Value} {e' : TypeId} (hg : w.heap[g]? = some (.cells cur e' (0, 0)))
    {a : Addr} {m c : Nat} {news : List Value} (hl : news.length = m * i.size) (hnews : ∀ j u, news[j]? = some u → w.cell? (a.add j) = some u) (h1 : ∀ u ∈ news, u.oneCell' = true)
    (hroom : sLen + m ≤ sCap) (hfit : sLen * i.size + news.length ≤ cur.size) :
    (Builtin.append_ #[t, t] ty #[.slice (some ⟨g, 0, none⟩) sLen sCap, .slice (some a) m c]).run P w =
      .ok (.slice (some ⟨g, 0, none⟩) (sLen + m) sCap) (w.setRow g (cur.toList.take (sLen * i.size) ++ news ++ cur.toList.drop (sLen * i.size + news.length)).toArray) := by
  have hf := run_firstCells_some (P := P) w i.size m a m c news hl hnews
  have hst := run_storeCells_at P g (sLen * i.size) e' news 0 cur w hg (by simpa using hfit) h1
  simp only [Nat.add_zero] at hst
  simp [Builtin.append_, run_underlying ht, sizeOf, typeInfo, hi, Builtin.lenOf, hroom, hf, Addr.add_lit, hst]

theorem run_append_none {t ty e : TypeId} {i : TypeInfo} (ht : P.underlying t = some (.slice e)) (hi : P.info? e = some i) {b : Option Addr} {sLen sCap : Nat} (hle : sLen ≤ sCap) {y : Value} (hy : y = .slice none 0 0 ∨ ∃ a c, y = .slice (some a) 0 c) :
    (Builtin.append_ #[t, t] ty #[.slice b sLen sCap, y]).run P w = .ok (.slice b sLen sCap) w := by
  rcases hy with rfl | ⟨a, c, rfl⟩
  · cases b <;> simp [Builtin.append_, run_underlying ht, sizeOf, typeInfo, hi, Builtin.lenOf, hle, Builtin.firstCells, storeCells]
  · have hf := run_firstCells_some (P := P) w i.size 0 a 0 c [] (by simp) (by simp)
    cases b <;> simp [Builtin.append_, run_underlying ht, sizeOf, typeInfo, hi, Builtin.lenOf, hle, hf, storeCells]

/-- a new row whose first cells stay, under a token -/
theorem SRel.newRow (s : SRel G h w) {k n : Nat} (hk : k ≤ h.toks.length) (hnew : ∀ m, h.toks[k]? = some m → m < n) {cs : List AV} {vs : List Value} {cap z : Nat} (e : TypeId) (rest : Array Value) (hv : VRels G cs vs) (hl : vs.length = n * z)
    (hs : (vs.toArray ++ rest).size = cap * z) (hn : n ≤ cap) (hc : cap ≤ maxLen) :
    ∃ G', SRel G' { h with toks := setTok h.toks k n } (w.alloc (.cells (vs.toArray ++ rest) e)) ∧ Step G h w G' { h with toks := setTok h.toks k n } (w.alloc (.cells (vs.toArray ++ rest) e)) ∧
      VRel G' (.sl cs n (.tok k z)) (.slice (some ⟨w.heap.size, 0, none⟩) n cap) := by
  have s1 := s.garbage (.cells (vs.toArray ++ rest) e)
  have hnofr : ∀ o v, G.fr w.heap.size o ≠ some v := fun o v hq => absurd (s.fr_lt hq) (Nat.lt_irrefl _)
  have hle1 : G.Le (G.freeze w.heap.size (fun i => vs[i]?)) := Ghost.freeze_le (fun o v u _ h2 => absurd h2 (hnofr o u))
  have s2 := s1.freezeAt w.heap.size (fun i => vs[i]?) (fun o v hv => by
      rw [World.cell?_alloc_new]
      have hlt : o < vs.length := (List.getElem?_eq_some_iff.1 hv).1
      rw [Array.getElem?_append_left (by simpa using hlt)]
      simpa using hv)
    (fun b hb => absurd (s.own_lt (.inl ⟨b, hb⟩)) (Nat.lt_irrefl _))
    (fun t n cap sz ht hk => absurd (s.own_lt (.inr (.inl ⟨t, n, cap, sz, ht, hk⟩))) (Nat.lt_irrefl _))
  obtain ⟨G', hle, hfr, hφe, htk, s3, hbs, hown⟩ := s2.tokAt (c := w.heap.size) (cap := cap) (z := z) hk (heap_alloc_new w _) hs hn hc
    (fun o v hq => by
      simp only [Ghost.freeze, if_true] at hq
      split at hq
      · rename_i u hu
        have := (List.getElem?_eq_some_iff.1 hu).1
        omega
      · exact absurd hq (hnofr o v))
    (fun b hb => absurd (s.own_lt (.inl ⟨b, hb⟩)) (Nat.lt_irrefl _))
    (fun t m cap' z' _ ht hq => absurd (s.own_lt (.inr (.inl ⟨t, m, cap', z', ht, hq⟩))) (Nat.lt_irrefl _))
    hnew (fun _ _ => .inr trivial)
  refine ⟨G', s3, ?_, ?_⟩
  · refine ⟨hle1.trans hle, rfl, rfl, rfl, by simp, fun c hc _ => heap_alloc_old w _ c hc, fun c ho => ?_, hbs, ⟨fun b c hb _ => by rw [hφe] at hb; exact hb, Nat.le_refl _⟩, fun c o v hv => by
      rw [hfr] at hv
      simp only [Ghost.freeze] at hv
      split at hv
      · rename_i e; exact .inr (.inl (by omega))
      · exact .inl hv⟩
    rcases hown c ho with h1 | rfl
    · exact .inl h1
    · exact .inr (Nat.le_refl _)
  · simp only [VRel]
    refine .inr ⟨w.heap.size, 0, cap, vs, rfl, hn, hc, ⟨rfl, htk⟩, VRels.mono (hle1.trans hle) _ _ hv, fun i u hu => ?_⟩
    rw [hfr]
    simp [Ghost.freeze, hu]

/-- the spare cells of a token's row are written -/
theorem SRel.spare (s : SRel G h w) {k n : Nat} (hk : h.toks[k]? = some n) {c cap z : Nat} (htk : G.tk k n = some (c, cap, z)) {cur : Array Value} {e : TypeId} (hh : w.heap[c]? = some (.cells cur e (0, 0))) {arr' : Array Value}
    (hsz : arr'.size = cur.size) (hold : ∀ o, o < n * z → arr'[o]? = cur[o]?) : SRel G h (w.setRow c arr') ∧ Step G h w G h (w.setRow c arr') := by
  have hoth : ∀ k', k' ≠ c → (w.setRow c arr').heap[k']? = w.heap[k']? := fun k' hk' => setRow_other w c k' _ hk'
  obtain ⟨c0, cap0, size0, cur0, e0, q1, q2, q3, q4, q5, q6⟩ := s.tok k n hk
  rw [htk] at q1; cases q1
  rw [hh] at q2; cases q2
  refine ⟨⟨s.dom, ?_, ?_, ?_, ?_, s.injφ, s.φfr, s.φtk, s.tkle, s.injtk, s.injmp, s.bases⟩, ?_⟩
  · intro b c' hb
    obtain ⟨cs, arr, e', h1, h2, h3⟩ := s.blk b c' hb
    exact ⟨cs, arr, e', h1, by rw [hoth c' (fun e3 => by subst e3; exact s.φtk b c' k n cap z hb hk htk)]; exact h2, h3⟩
  · intro t m ht
    obtain ⟨c', cap', size, cur', e', h1, h2, h3, h4⟩ := s.tok t m ht
    by_cases e1 : c' = c
    · subst e1
      have := s.injtk t k m n c' cap' size cap z ht hk h1 htk
      subst this
      rw [hk] at ht; cases ht
      rw [htk] at h1; cases h1
      exact ⟨c', cap, z, arr', e, htk, setRow_heap w c' cur arr' e _ hh, by omega, h4⟩
    · exact ⟨c', cap', size, cur', e', h1, by rw [hoth c' e1]; exact h2, h3, h4⟩
  · intro m c' hm
    obtain ⟨M, es, clock, h1, h2, h3⟩ := s.map m c' hm
    exact ⟨M, es, clock, h1, by rw [hoth c' (fun e3 => by subst e3; rw [hh] at h2; cases h2)]; exact h2, h3⟩
  · intro c' i v hf
    by_cases e1 : c' = c
    · subst e1
      have hlt := q6 i v hf
      have := s.fr c' i v hf
      rw [cell_of_row w c' i cur e (0, 0) hh] at this
      rw [cell_of_row _ c' i arr' e (0, 0) (setRow_heap w c' cur arr' e _ hh), hold i hlt]; exact this
    · rw [World.cell?_of_block (w := w) (a := ⟨c', i, none⟩) (hoth c' e1)]; exact s.fr c' i v hf
  · exact ⟨.refl G, rfl, rfl, rfl, by simp, fun k' hk' hno => hoth k' (fun e3 => hno (.inr (.inl ⟨k, n, cap, z, hk, e3 ▸ htk⟩))), fun k' ho => .inl ho, rfl, ⟨fun _ _ h _ => h, Nat.le_refl _⟩, fun _ _ _ h => .inl h⟩

theorem setTok_new (toks : List Nat) (n : Nat) : setTok toks toks.length n = toks ++ [n] := by simp [setTok]
theorem setTok_old {toks : List Nat} {k n m : Nat} (hk : toks[k]? = some m) : setTok toks k n = toks.set k n := by
  have := (List.getElem?_eq_some_iff.1 hk).1
  unfold setTok; rw [if_neg (by omega)]

theorem take_app {α : Type} (a b c : List α) (n : Nat) (hn : n = a.length) : (a ++ b ++ c)[n]? = (b ++ c)[0]? := by
  subst hn; rw [List.append_assoc, List.getElem?_append_right (Nat.le_refl _)]; simp

theorem append_ok (s : SRel G h w) {t t' ty : TypeId} {x y r : AV} {h' : H} (ha : aAppend P t t' x y h = some (r, h')) {vx vy : Value} (hx : VRel G x vx) (hy : VRel G y vy) :
    RunOk P G h w (Builtin.append_ #[t, t'] ty #[vx, vy]) r h' := by
  unfold aAppend at ha
  split at ha
  · cases ha
  rename_i htt
  have htt : t = t' := by simpa using htt
  subst htt
  split at ha
  · rename_i e he
    have hu := elemT_eq he
    split at ha
    · rename_i i z hi hz
      obtain ⟨i', zv, hi', hzv, hrun, hrel⟩ := run_zero (w := w) hz
      rw [hi] at hi'; cases hi'
      split at ha
      · rename_i ys m xs n rm hsrc
        split at ha
        · rename_i hc
          obtain ⟨c1, c2, c3, c4, c5, c6, c7⟩ := hc
          have hsy := src_rel s hsrc c3 hy
          split at ha
          · rename_i hm; subst hm
            simp only [Option.some.injEq, Prod.mk.injEq] at ha
            obtain ⟨rfl, rfl⟩ := ha
            have hy0 : vy = .slice none 0 0 ∨ ∃ a c, vy = .slice (some a) 0 c := by
              rcases hsy with ⟨rfl, _⟩ | ⟨c, o, cap, vs, rfl, _⟩
              · exact .inl rfl
              · exact .inr ⟨_, _, rfl⟩
            have hx' := hx
            simp only [VRel] at hx'
            rcases hx' with ⟨_, _, rfl, rfl⟩ | ⟨c, o, cap, vs, rfl, h1, _⟩
            · exact RunOk.quiet s (run_append_none hu hi (Nat.le_refl _) hy0) hx
            · exact RunOk.quiet s (run_append_none hu hi h1 hy0) hx
          · rename_i hm
            rcases hsy with ⟨_, hm0, _⟩ | ⟨c2, o2, cap2, vs, rfl, hvs, hcell⟩
            · exact absurd hm0 hm
            have hvl := hvs.length
            have hnews : ∀ (j : Nat) (u : Value), vs[j]? = some u → w.cell? ((⟨c2, o2, none⟩ : Addr).add j) = some u := fun j u hu => by rw [addr_add]; exact hcell j u hu
            have hvlen : vs.length = m * i.size := by omega
            have hzs : zv.cells.size = i.size := by have := (hrel G).length; simp at this; omega
            have hmax : n + m ≤ 9223372036854775807 := by simp only [maxLen] at c7; omega
            have hb47 : (n + m) * i.bytes ≤ 140737488355328 := c6
            -- the ways in which a new row is made
            have grown : ∀ (k : Nat), k ≤ h.toks.length → (∀ q, h.toks[k]? = some q → q < n + m) → ∀ (old : Nat) (xv : List Value), VRels G xs xv → 
                RunOk P G h w (Sem.pure (.slice none 0 0)) (.sl [] 0 .nil) h → 
                ∃ G', SRel G' { h with toks := setTok h.toks k (n + m) } (w.drew.alloc (.cells (xv.toArray ++ vs.toArray ++ Builtin.zeroCells zv.cells (grownCap w (n + m) old e - (n + m))) e)) ∧
                  Step G h w G' { h with toks := setTok h.toks k (n + m) } (w.drew.alloc (.cells (xv.toArray ++ vs.toArray ++ Builtin.zeroCells zv.cells (grownCap w (n + m) old e - (n + m))) e)) ∧
                  VRel G' (.sl (xs ++ ys) (n + m) (.tok k i.size)) (.slice (some ⟨w.heap.size, 0, none⟩) (n + m) (grownCap w (n + m) old e)) := by
              intro k hk hq old xv hxv _
              have hge := grownCap_ge w (n + m) old e
              have hcm : grownCap w (n + m) old e ≤ maxLen := grownCap_le_maxLen w (n + m) old e c7
              have hxl := hxv.length
              obtain ⟨G', q1, q2, q3⟩ := s.drew.newRow (n := n + m) hk hq (cs := xs ++ ys) (vs := xv ++ vs) (cap := grownCap w (n + m) old e) (z := i.size) e (Builtin.zeroCells zv.cells (grownCap w (n + m) old e - (n + m))) (hxv.append hvs)
                (by simp [Nat.add_mul]; omega) (by
                  simp only [Array.size_append, List.size_toArray, List.length_append, size_zeroCells, hzs]
                  have : xv.length + vs.length = (n + m) * i.size := by rw [Nat.add_mul]; omega
                  rw [this, ← Nat.add_mul]; congr 1; omega) hge hcm
              have e1 : (xv ++ vs).toArray = xv.toArray ++ vs.toArray := by simp
              rw [e1] at q1 q2
              exact ⟨G', q1, (Step.drawn G h w _).trans q2, q3⟩
            have triv : RunOk P G h w (Sem.pure (.slice none 0 0)) (.sl [] 0 .nil) h := RunOk.quiet s rfl (by simp [VRel])
            simp only [VRel] at hx
            split at ha
            · -- nil
              simp only [Option.some.injEq, Prod.mk.injEq] at ha
              obtain ⟨rfl, rfl⟩ := ha
              rcases hx with ⟨_, rfl, rfl, rfl⟩ | ⟨c, o, cap, xv, rfl, h1, h2, h3, h4, h5⟩
              · obtain ⟨G', q1, q2, q3⟩ := grown h.toks.length (Nat.le_refl _) (fun q hq => by simp at hq) 0 [] (by simp [VRels]) triv
                rw [setTok_new] at q1 q2
                refine ⟨_, _, G', ?_, q2, q1, q3⟩
                have := run_append_nil (P := P) w t ty e i zv hu hi hzv ⟨c2, o2, none⟩ m cap2 vs hvlen hnews (by omega) (by omega) (by simp at hb47; omega)
                simpa using this
              · exact absurd h3 (by simp [RoomOk])
            · -- full
              simp only [Option.some.injEq, Prod.mk.injEq] at ha
              obtain ⟨rfl, rfl⟩ := ha
              rcases hx with ⟨hq, _⟩ | ⟨c, o, cap, xv, rfl, h1, h2, h3, h4, h5⟩
              · cases hq
              · simp only [RoomOk] at h3; subst h3
                obtain ⟨G', q1, q2, q3⟩ := grown h.toks.length (Nat.le_refl _) (fun q hq => by simp at hq) cap xv h4 triv
                rw [setTok_new] at q1 q2
                refine ⟨_, _, G', ?_, q2, q1, q3⟩
                have hxl := h4.length
                exact run_append_grow (P := P) w t ty e i zv hu hi hzv ⟨c, o, none⟩ cap cap xv (by omega) (fun j u hu => by rw [addr_add]; exact s.fr _ _ _ (h5 j u hu)) ⟨c2, o2, none⟩ m cap2 vs hvlen hnews (by omega) (by omega)
                  (growslice_fits (by omega) hb47)
            · -- a token
              rename_i k z'
              split at ha
              · rename_i hcond
                obtain ⟨hk, rfl⟩ := hcond
                simp only [Option.some.injEq, Prod.mk.injEq] at ha
                obtain ⟨rfl, rfl⟩ := ha
                have hklt : k < h.toks.length := (List.getElem?_eq_some_iff.1 hk).1
                rcases hx with ⟨hq, _⟩ | ⟨c, o, cap, xv, rfl, h1, h2, h3, h4, h5⟩
                · cases hq
                · obtain ⟨rfl, htk⟩ := h3
                  obtain ⟨c', cap', size', cur, e', k1, k2, k3, k4, k5, k6⟩ := s.tok k n hk
                  rw [htk] at k1; cases k1
                  have hxl := h4.length
                  by_cases hroom : n + m ≤ cap
                  · -- in place
                    have hmul : (n + m) * i.size ≤ cap * i.size := Nat.mul_le_mul_right _ hroom
                    rw [Nat.add_mul] at hmul
                    have hfit : n * i.size + vs.length ≤ cur.size := by omega
                    have hrun1 := run_append_in (P := P) (ty := ty) hu hi k2 (a := ⟨c2, o2, none⟩) (c := cap2) hvlen hnews (rels_one hvs c5) hroom hfit
                    have hcl : cur.toList.length = cur.size := by simp
                    have hsz : (cur.toList.take (n * i.size) ++ vs ++ cur.toList.drop (n * i.size + vs.length)).toArray.size = cur.size := by
                      simp only [List.size_toArray, List.length_append, List.length_take, List.length_drop]; omega
                    obtain ⟨s1, st1⟩ := s.spare hk htk k2 (arr' := (cur.toList.take (n * i.size) ++ vs ++ cur.toList.drop (n * i.size + vs.length)).toArray) hsz (fun o ho => by
                      simp only [List.getElem?_toArray]
                      rw [List.append_assoc, List.getElem?_append_left (by simp; omega), List.getElem?_take, if_pos ho]
                      simp)
                    have hrow := setRow_heap w c cur (cur.toList.take (n * i.size) ++ vs ++ cur.toList.drop (n * i.size + vs.length)).toArray e' (0, 0) k2
                    obtain ⟨G', hle, hfr, hφe, htk', s2, hbs, hown⟩ := s1.tokAt (k := k) (n := n + m) (c := c) (cap := cap) (z := i.size) (by omega) hrow (by omega) hroom h2
                      (fun o v hq => by have := k6 o v hq; rw [Nat.add_mul]; omega) (fun b hb => s.φtk b c k n cap i.size hb hk htk)
                      (fun t q cap' z' hne ht hq => hne (s.injtk t k q n c cap' z' cap i.size ht hk hq htk))
                      (fun q hq => by rw [hk] at hq; cases hq; omega) (fun _ _ => .inr trivial)
                    rw [setTok_old hk] at s2 hown
                    have hnofr : ∀ o v, n * i.size ≤ o → G'.fr c o ≠ some v := fun o v hno hq => by rw [hfr] at hq; have := k6 o v hq; omega
                    have hle2 : G'.Le (G'.freeze c (fun o => if n * i.size ≤ o then vs[o - n * i.size]? else none)) := Ghost.freeze_le (fun o v u q1 q2 => by
                      split at q1
                      · rename_i hno; exact absurd q2 (hnofr o u hno)
                      · cases q1)
                    have s3 := s2.freezeAt c (fun o => if n * i.size ≤ o then vs[o - n * i.size]? else none) (fun o v q1 => by
                        split at q1
                        · rename_i hno
                          have hlt := (List.getElem?_eq_some_iff.1 q1).1
                          rw [cell_of_row _ c o _ e' (0, 0) hrow]
                          simp only [List.getElem?_toArray]
                          rw [List.append_assoc, List.getElem?_append_right (by simp; omega)]
                          have e1 : (cur.toList.take (n * i.size)).length = n * i.size := by simp; omega
                          rw [e1, List.getElem?_append_left hlt]; exact q1
                        · cases q1)
                      (fun b hb => absurd hb (fun hb => by
                        obtain ⟨_, arrb, eb, _, g2, _⟩ := s2.blk b c hb
                        exact (s2.φtk b c k (n + m) cap i.size hb (by simp [List.getElem?_set, hklt])) htk'))
                      (fun t q cap1 z1 ht hq o v q1 => by
                        have := s2.injtk t k q (n + m) c cap1 z1 cap i.size ht (by simp [List.getElem?_set, hklt]) hq htk'
                        subst this
                        simp [List.getElem?_set, hklt] at ht
                        subst ht
                        rw [htk'] at hq; cases hq
                        split at q1
                        · have hlt := (List.getElem?_eq_some_iff.1 q1).1
                          rw [Nat.add_mul]; omega
                        · cases q1)
                    refine ⟨_, _, _, hrun1, ?_, s3, ?_⟩
                    · refine st1.trans ⟨hle.trans hle2, rfl, rfl, rfl, Nat.le_refl _, fun _ _ _ => rfl, fun c' ho => ?_, hbs, ⟨fun b c hb _ => by rw [← hφe]; exact hb, Nat.le_refl _⟩, fun c' o v hv => by
                        simp only [Ghost.freeze] at hv
                        split at hv
                        · rename_i ec; subst ec; exact .inr (.inr (.inr (.inl ⟨k, n, cap, i.size, hk, htk⟩)))
                        · rw [hfr] at hv; exact .inl hv⟩
                      rcases hown c' ho with q | rfl
                      · exact .inl q
                      · exact .inl (.inr (.inl ⟨k, n, cap, i.size, hk, htk⟩))
                    · simp only [VRel]
                      refine .inr ⟨c, 0, cap, xv ++ vs, rfl, hroom, h2, ⟨rfl, hle2.tk _ _ _ htk'⟩, VRels.mono (hle.trans hle2) _ _ (h4.append hvs), fun j u hu => ?_⟩
                      have hxn : xv.length = n * i.size := by omega
                      by_cases hj : j < xv.length
                      · rw [List.getElem?_append_left hj] at hu
                        exact (hle.trans hle2).fr _ _ _ (h5 j u hu)
                      · rw [List.getElem?_append_right (by omega)] at hu
                        simp only [Ghost.freeze, if_true, Nat.zero_add]
                        rw [if_pos (by omega), ← hxn, hu]
                  · obtain ⟨G', q1, q2, q3⟩ := grown k (by omega) (fun q hq => by rw [hk] at hq; cases hq; omega) cap xv h4 triv
                    rw [setTok_old hk] at q1 q2
                    refine ⟨_, _, G', ?_, q2, q1, q3⟩
                    exact run_append_grow (P := P) w t ty e i zv hu hi hzv ⟨c, 0, none⟩ n cap xv (by omega) (fun j u hu => by rw [addr_add]; exact s.fr _ _ _ (h5 j u hu)) ⟨c2, o2, none⟩ m cap2 vs hvlen hnews (by omega) (by omega)
                      (growslice_fits (by omega) hb47)
              · cases ha
            · cases ha
        · cases ha
      · cases ha
    · cases ha
  · cases ha
end
end Go.VM
