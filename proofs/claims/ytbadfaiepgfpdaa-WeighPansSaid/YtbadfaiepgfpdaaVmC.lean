/- How the relation of heaps goes on when the model's world gains a block, or one is written. -/
import Derived.Test.YtbadfaiepgfpdaaVmB
namespace Go.VM

variable {G : Ghost} {h : H} {w : World}

theorem SRel.drew (s : SRel G h w) : SRel G h w.drew := ⟨s.dom, s.blk, s.tok, s.map, s.fr, s.injφ, s.φfr, s.φtk, s.tkle, s.injtk, s.injmp, s.bases⟩
theorem SRel.drawn (s : SRel G h w) (n : Nat) : SRel G h { w with drawn := n } := ⟨s.dom, s.blk, s.tok, s.map, s.fr, s.injφ, s.φfr, s.φtk, s.tkle, s.injtk, s.injmp, s.bases⟩
theorem Step.drawn (G : Ghost) (h : H) (w : World) (n : Nat) : Step G h w G h { w with drawn := n } :=
  ⟨.refl G, rfl, rfl, rfl, Nat.le_refl _, fun _ _ _ => rfl, fun _ h => .inl h, rfl, ⟨fun _ _ h _ => h, Nat.le_refl _⟩, fun _ _ _ h => .inl h⟩

theorem lt_of_get {w : World} {c : Nat} {o : Obj} (h : w.heap[c]? = some o) : c < w.heap.size := (Array.getElem?_eq_some_iff.1 h).1

theorem SRel.own_lt (s : SRel G h w) {c : Nat} (ho : Own G h c) : c < w.heap.size := by
  rcases ho with ⟨b, hb⟩ | ⟨t, n, cap, sz, ht, hk⟩ | ⟨m, hm⟩
  · obtain ⟨_, _, _, _, hh, _⟩ := s.blk b c hb; exact lt_of_get hh
  · obtain ⟨c', _, _, _, _, h1, hh, _⟩ := s.tok t n ht
    rw [hk] at h1; cases h1; exact lt_of_get hh
  · obtain ⟨_, _, _, _, hh, _⟩ := s.map m c hm; exact lt_of_get hh

theorem SRel.fr_lt (s : SRel G h w) {c o : Nat} {v : Value} (hf : G.fr c o = some v) : c < w.heap.size :=
  World.block_lt_of_cell? w _ (s.fr c o v hf)

theorem cell_alloc_lt {w : World} {o : Obj} {c i : Nat} (hc : c < w.heap.size) : (w.alloc o).cell? ⟨c, i, none⟩ = w.cell? ⟨c, i, none⟩ :=
  World.cell?_of_block (heap_alloc_old w o c hc)

/-- a new block of the model's that nothing abstract speaks of -/
theorem SRel.garbage (s : SRel G h w) (o : Obj) : SRel G h (w.alloc o) where
  dom := s.dom
  blk b c hb := by
    obtain ⟨cs, arr, e, h1, h2, h3⟩ := s.blk b c hb
    exact ⟨cs, arr, e, h1, by rw [heap_alloc_old w o c (lt_of_get h2)]; exact h2, h3⟩
  tok t n ht := by
    obtain ⟨c, cap, size, cur, e, h1, h2, h3⟩ := s.tok t n ht
    exact ⟨c, cap, size, cur, e, h1, by rw [heap_alloc_old w o c (lt_of_get h2)]; exact h2, h3⟩
  map m c hm := by
    obtain ⟨M, es, clock, h1, h2, h3⟩ := s.map m c hm
    exact ⟨M, es, clock, h1, by rw [heap_alloc_old w o c (lt_of_get h2)]; exact h2, h3⟩
  fr c i v hf := by rw [cell_alloc_lt (s.fr_lt hf)]; exact s.fr c i v hf
  injφ := s.injφ
  φfr := s.φfr
  φtk := s.φtk
  tkle := s.tkle
  injtk := s.injtk
  injmp := s.injmp
  bases := s.bases

theorem Step.garbage (G : Ghost) (h : H) (w : World) (o : Obj) : Step G h w G h (w.alloc o) :=
  ⟨.refl G, rfl, rfl, rfl, by simp, fun c hc _ => heap_alloc_old w o c hc, fun _ h => .inl h, rfl, ⟨fun _ _ h _ => h, Nat.le_refl _⟩, fun _ _ _ h => .inl h⟩

/-- cells of one block are taken as known for ever -/
def Ghost.freeze (G : Ghost) (c : Nat) (f : Nat → Option Value) : Ghost :=
  { G with fr := fun c' o => if c' = c then (match f o with | some v => some v | none => G.fr c' o) else G.fr c' o }

theorem Ghost.freeze_le {G : Ghost} {c : Nat} {f : Nat → Option Value} (hf : ∀ o v u, f o = some v → G.fr c o = some u → v = u) : G.Le (G.freeze c f) := by
  refine ⟨fun _ _ h => h, fun c' o v h => ?_, fun _ _ _ h => h, fun _ _ h => h⟩
  simp only [Ghost.freeze]
  split
  · rename_i e; subst e
    cases hfo : f o with
    | none => simpa using h
    | some u => simp [hf o u v hfo h]
  · exact h

theorem SRel.freezeAt (s : SRel G h w) (c : Nat) (f : Nat → Option Value) (hc : ∀ o v, f o = some v → w.cell? ⟨c, o, none⟩ = some v)
    (hφ : ∀ b, G.φ b = some c → ∀ o, f o = none) (htk : ∀ t n cap sz, h.toks[t]? = some n → G.tk t n = some (c, cap, sz) → ∀ o v, f o = some v → o < n * sz) :
    SRel (G.freeze c f) h w := by
  have hle : G.Le (G.freeze c f) := Ghost.freeze_le (fun o v u h1 h2 => by
    have a := hc o v h1; have b := s.fr c o u h2; rw [a] at b; exact (Option.some.inj b))
  refine ⟨⟨s.dom.φ, s.dom.tk, s.dom.mp⟩, ?_, ?_, ?_, ?_, s.injφ, ?_, s.φtk, s.tkle, s.injtk, s.injmp, s.bases⟩
  · intro b c' hb
    obtain ⟨cs, arr, e, h1, h2, h3⟩ := s.blk b c' hb
    exact ⟨cs, arr, e, h1, h2, VRels.mono hle _ _ h3⟩
  · intro t n ht
    obtain ⟨c', cap, size, cur, e, h1, h2, h3, h4, h5, h6⟩ := s.tok t n ht
    refine ⟨c', cap, size, cur, e, h1, h2, h3, h4, h5, fun o v hv => ?_⟩
    simp only [Ghost.freeze] at hv
    split at hv
    · rename_i ec; subst ec
      cases hfo : f o with
      | none => rw [hfo] at hv; exact h6 o v hv
      | some u => exact htk t n cap size ht h1 o u hfo
    · exact h6 o v hv
  · intro m c' hm
    obtain ⟨M, es, clock, h1, h2, h3⟩ := s.map m c' hm
    exact ⟨M, es, clock, h1, h2, h3.mono hle⟩
  · intro c' o v hv
    simp only [Ghost.freeze] at hv
    split at hv
    · rename_i ec; subst ec
      cases hfo : f o with
      | none => rw [hfo] at hv; exact s.fr c' o v hv
      | some u => rw [hfo] at hv; simp at hv; subst hv; exact hc o u hfo
    · exact s.fr c' o v hv
  · intro b c' o hb
    simp only [Ghost.freeze]
    split
    · rename_i ec; subst ec
      rw [hφ b hb o]; exact s.φfr b c' o hb
    · exact s.φfr b c' o hb

theorem Step.freeze {c : Nat} {f : Nat → Option Value} (hle : G.Le (G.freeze c f)) (h : H) (w : World) (hc : ∀ o v, f o = some v → G.fr c o = some v ∨ w.heap.size ≤ c ∨ Own G h c) : Step G h w (G.freeze c f) h w :=
  ⟨hle, rfl, rfl, rfl, Nat.le_refl _, fun _ _ _ => rfl, fun _ ho => .inl ho, rfl, ⟨fun _ _ h _ => h, Nat.le_refl _⟩, fun c' o v hv => by
    simp only [Ghost.freeze] at hv
    split at hv
    · rename_i e; subst e
      cases hfo : f o with
      | none => rw [hfo] at hv; exact .inl hv
      | some u => rw [hfo] at hv; simp at hv; subst hv; exact hc o u hfo
    · exact .inl hv⟩

/-- a new block of the model's whose cells stay as they are -/
theorem SRel.freezeNew (s : SRel G h w) (arr : Array Value) (e : TypeId) :
    ∃ G', G'.Le G' ∧ SRel G' h (w.alloc (.cells arr e)) ∧ Step G h w G' h (w.alloc (.cells arr e)) ∧ (∀ (i : Nat) u, arr[i]? = some u → G'.fr w.heap.size i = some u) ∧ G'.tk = G.tk := by
  have s1 := s.garbage (.cells arr e)
  have hle : G.Le (G.freeze w.heap.size (fun i => arr[i]?)) := Ghost.freeze_le (fun o v u _ h2 => absurd (s.fr_lt h2) (Nat.lt_irrefl _))
  refine ⟨G.freeze w.heap.size (fun i => arr[i]?), .refl _, s1.freezeAt _ _ ?_ ?_ ?_, ?_, ?_, rfl⟩
  · intro o v hv
    rw [World.cell?_alloc_new]; exact hv
  · intro b hb
    exact absurd (s.own_lt (.inl ⟨b, hb⟩)) (Nat.lt_irrefl _)
  · intro t n cap sz ht hk
    exact absurd (s.own_lt (.inr (.inl ⟨t, n, cap, sz, ht, hk⟩))) (Nat.lt_irrefl _)
  · refine ⟨hle, rfl, rfl, rfl, by simp, fun c hc _ => heap_alloc_old w _ c hc, fun _ ho => .inl ho, rfl, ⟨fun _ _ h _ => h, Nat.le_refl _⟩, fun c o v hv => ?_⟩
    simp only [Ghost.freeze] at hv
    split at hv
    · rename_i e; exact .inr (.inl (by omega))
    · exact .inl hv
  · intro i u hu
    simp [Ghost.freeze, hu]

/-- a new abstract block -/
theorem SRel.alloc (s : SRel G h w) {cs : List AV} {arr : Array Value} (e : TypeId) (hv : VRels G cs arr.toList) :
    ∃ G', SRel G' { h with blk := h.blk ++ [cs] } (w.alloc (.cells arr e)) ∧ Step G h w G' { h with blk := h.blk ++ [cs] } (w.alloc (.cells arr e)) ∧ G'.φ h.blk.length = some w.heap.size := by
  let G' : Ghost := { G with φ := fun b => if b = h.blk.length then some w.heap.size else G.φ b }
  have hle : G.Le G' := ⟨fun b c hb => by
    have := s.dom.φ b c hb
    show (if b = h.blk.length then _ else _) = _
    rw [if_neg (by omega)]; exact hb, fun _ _ _ h => h, fun _ _ _ h => h, fun _ _ h => h⟩
  have hold : ∀ b c, G'.φ b = some c → (b = h.blk.length ∧ c = w.heap.size) ∨ G.φ b = some c := fun b c hb => by
    by_cases e : b = h.blk.length
    · left; refine ⟨e, ?_⟩; simp [G', e] at hb; exact hb.symm
    · right; simpa [G', e] using hb
  have hfresh : ∀ c, Own G h c → c ≠ w.heap.size := fun c ho => Nat.ne_of_lt (s.own_lt ho)
  refine ⟨G', ?_, ?_, by simp [G']⟩
  · refine ⟨⟨fun b c hb => ?_, s.dom.tk, s.dom.mp⟩, ?_, ?_, ?_, ?_, ?_, ?_, ?_, s.tkle, s.injtk, s.injmp, ?_⟩
    · rcases hold b c hb with ⟨rfl, _⟩ | hb
      · simp
      · have := s.dom.φ b c hb; simp; omega
    · intro b c hb
      rcases hold b c hb with ⟨rfl, rfl⟩ | hb
      · exact ⟨cs, arr, e, by simp, heap_alloc_new w _, VRels.mono hle _ _ hv⟩
      · obtain ⟨cs', arr', e', h1, h2, h3⟩ := s.blk b c hb
        exact ⟨cs', arr', e', by rw [List.getElem?_append_left (s.dom.φ b c hb)]; exact h1, by rw [heap_alloc_old w _ c (lt_of_get h2)]; exact h2, VRels.mono hle _ _ h3⟩
    · intro t n ht
      obtain ⟨c, cap, size, cur, e', h1, h2, h3⟩ := s.tok t n ht
      exact ⟨c, cap, size, cur, e', h1, by rw [heap_alloc_old w _ c (lt_of_get h2)]; exact h2, h3⟩
    · intro m c hm
      obtain ⟨M, es, clock, h1, h2, h3⟩ := s.map m c hm
      exact ⟨M, es, clock, h1, by rw [heap_alloc_old w _ c (lt_of_get h2)]; exact h2, h3.mono hle⟩
    · intro c i v hf; rw [cell_alloc_lt (s.fr_lt hf)]; exact s.fr c i v hf
    · intro b b' c hb hb'
      rcases hold b c hb with ⟨rfl, hc⟩ | hb1
      · rcases hold b' c hb' with ⟨rfl, _⟩ | hb2
        · rfl
        · exact absurd hc (hfresh c (.inl ⟨_, hb2⟩))
      · rcases hold b' c hb' with ⟨_, hc⟩ | hb2
        · exact absurd hc (hfresh c (.inl ⟨_, hb1⟩))
        · exact s.injφ b b' c hb1 hb2
    · intro b c o hb
      rcases hold b c hb with ⟨rfl, rfl⟩ | hb
      · cases hf : G.fr w.heap.size o with
        | none => rfl
        | some v => exact absurd (s.fr_lt hf) (Nat.lt_irrefl _)
      · exact s.φfr b c o hb
    · intro b c t n cap sz hb ht hk
      rcases hold b c hb with ⟨rfl, rfl⟩ | hb
      · exact absurd (s.own_lt (.inr (.inl ⟨t, n, cap, sz, ht, hk⟩))) (Nat.lt_irrefl _)
      · exact s.φtk b c t n cap sz hb ht hk
    · intro β hβ
      obtain ⟨h1, h2, h3, h4⟩ := s.bases β hβ
      refine ⟨by simp; omega, h2, h3, fun b c cs' hφ hb hcs => ?_⟩
      have : b < h.blk.length := by omega
      rcases hold b c hφ with ⟨e1, _⟩ | hφ
      · omega
      refine h4 b c cs' hφ hb ?_
      simpa [List.getElem?_append_left this] using hcs
  · refine ⟨hle, rfl, rfl, rfl, by simp, fun c hc _ => heap_alloc_old w _ c hc, fun c ho => ?_, rfl, ⟨fun b c hb hl => (hold b c hb).resolve_left (fun e => by omega), by simp⟩, fun _ _ _ h => .inl h⟩
    rcases ho with ⟨b, hb⟩ | ho
    · rcases hold b c hb with ⟨_, rfl⟩ | hb
      · exact .inr (Nat.le_refl _)
      · exact .inl (.inl ⟨b, hb⟩)
    · exact .inl (.inr ho)

/-- an abstract block is written -/
theorem SRel.write (s : SRel G h w) {b c : Nat} (hb : G.φ b = some c) {arr : Array Value} {e : TypeId} (hh : w.heap[c]? = some (.cells arr e (0, 0))) {cs' : List AV} {arr' : Array Value}
    (hv : VRels G cs' arr'.toList) (hbs : ∀ β ∈ G.bases, b < β.1 → AV.bnds β.1 β.2.1 β.2.2 cs' = true) :
    SRel G { h with blk := h.blk.set b cs' } (w.setRow c arr') ∧ Step G h w G { h with blk := h.blk.set b cs' } (w.setRow c arr') := by
  have hoth : ∀ k, k ≠ c → (w.setRow c arr').heap[k]? = w.heap[k]? := fun k hk => setRow_other w c k _ hk
  have hown : ∀ k, k = c → ¬ (∃ t n cap sz, h.toks[t]? = some n ∧ G.tk t n = some (k, cap, sz)) := fun k hk ⟨t, n, cap, sz, ht, h2⟩ => by
    subst hk; exact s.φtk b k t n cap sz hb ht h2
  refine ⟨⟨⟨fun b' c' h' => by simpa using s.dom.φ b' c' h', s.dom.tk, s.dom.mp⟩, ?_, ?_, ?_, ?_, s.injφ, s.φfr, s.φtk, s.tkle, s.injtk, s.injmp, ?_⟩, ?_⟩
  · intro b' c' hb'
    by_cases e1 : b' = b
    · subst e1
      rw [hb] at hb'; cases hb'
      exact ⟨cs', arr', e, by simp [List.getElem?_set, s.dom.φ _ _ hb], setRow_heap w c arr _ e _ hh, hv⟩
    · obtain ⟨cs, arr1, e2, h1, h2, h3⟩ := s.blk b' c' hb'
      refine ⟨cs, arr1, e2, by rw [List.getElem?_set_ne (Ne.symm e1)]; exact h1, ?_, h3⟩
      rw [hoth c' (fun e3 => e1 (s.injφ b' b c (e3 ▸ hb') hb))]; exact h2
  · intro t n ht
    obtain ⟨c', cap, size, cur, e', h1, h2, h3⟩ := s.tok t n ht
    refine ⟨c', cap, size, cur, e', h1, ?_, h3⟩
    rw [hoth c' (fun e3 => hown c' e3 ⟨t, n, cap, size, ht, h1⟩)]; exact h2
  · intro m c' hm
    obtain ⟨M, es, clock, h1, h2, h3⟩ := s.map m c' hm
    refine ⟨M, es, clock, h1, ?_, h3⟩
    rw [hoth c' (fun e3 => by subst e3; rw [hh] at h2; cases h2)]; exact h2
  · intro c' i v hf
    have hne : c' ≠ c := fun e3 => by subst e3; rw [s.φfr b c' i hb] at hf; cases hf
    rw [World.cell?_of_block (w := w) (a := ⟨c', i, none⟩) (hoth c' hne)]; exact s.fr c' i v hf
  · intro β hβ
    obtain ⟨h1, h2, h3, h4⟩ := s.bases β hβ
    refine ⟨by simpa using h1, h2, h3, fun b' c' cs hφ' hb' hcs => ?_⟩
    by_cases e1 : b' = b
    · subst e1
      simp [List.getElem?_set, s.dom.φ _ _ hb] at hcs
      subst hcs; exact hbs β hβ hb'
    · rw [List.getElem?_set_ne (Ne.symm e1)] at hcs; exact h4 b' c' cs hφ' hb' hcs
  · refine ⟨.refl G, rfl, rfl, rfl, by simp, fun k hk hno => hoth k (fun e3 => hno (.inl ⟨b, e3 ▸ hb⟩)), fun k ho => .inl ho, rfl, ⟨fun _ _ h _ => h, by simp⟩, fun _ _ _ h => .inl h⟩
end Go.VM
