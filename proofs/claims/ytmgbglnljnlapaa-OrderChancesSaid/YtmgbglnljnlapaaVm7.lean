/- Own texts on reading the model, joined: VmTh, VmTw, VmFm. -/
import Derived.Test.YtmgbglnljnlapaaVm6
set_option linter.unusedSimpArgs false
set_option linter.unusedVariables false
set_option linter.unnecessarySimpa false
section
/- A slice that was put together by append may be written from a point on at which nothing else looks at it. -/
namespace Go.VM
set_option linter.unusedSectionVars false
variable [Inhabited Globs]

mutual
/-- nothing of it lies in a block that is known for ever, but in slices of these tokens -/
def AV.ind (ts : List Nat) : AV → Bool
  | .agg cs | .tup cs => AV.inds ts cs
  | .cptr _ => false
  | .sl cs n r => AV.inds ts cs && (match r with | .tok t _ => decide (ts[t]? = some n) | .nil | .e => true | _ => cs.isEmpty)
  | .fn _ a b => AV.inds ts a && AV.inds ts b
  | _ => true
def AV.inds (ts : List Nat) : List AV → Bool
  | [] => true
  | a :: as => AV.ind ts a && AV.inds ts as
end
structure Ghost.But (ts : List Nat) (c : Nat) (G G' : Ghost) : Prop where
  φ : ∀ b x, G.φ b = some x → G'.φ b = some x
  fr : ∀ x o v, x ≠ c → G.fr x o = some v → G'.fr x o = some v
  tk : ∀ t n x, ts[t]? = some n → G.tk t n = some x → G'.tk t n = some x ∧ x.1 ≠ c
  mp : ∀ m x, G.mp m = some x → G'.mp m = some x
mutual
theorem VRel.ind {ts : List Nat} {c : Nat} {G G' : Ghost} (h : G.But ts c G') : ∀ (a : AV) (v : Value), a.ind ts = true → VRel G a v → VRel G' a v
  | .bool _, _, _, hv | .int _ _, _, _, hv | .str _, _, _, hv | .nilP, _, _, hv | .nilM, _, _, hv | .nilF, _, _, hv | .nilI, _, _, hv | .top, _, _, hv => by first | (simp only [VRel]; done) | (simp only [VRel] at hv ⊢; exact hv)
  | .agg cs, v, hb, hv => by
    simp only [VRel, AV.ind] at *
    obtain ⟨vs, e, hs⟩ := hv; exact ⟨vs, e, VRels.ind h cs _ hb hs⟩
  | .tup cs, v, hb, hv => by
    simp only [VRel, AV.ind] at *
    obtain ⟨vs, e, hs⟩ := hv; exact ⟨vs, e, VRels.ind h cs _ hb hs⟩
  | .ptr b o, v, hb, hv => by
    simp only [VRel] at *
    obtain ⟨c, e, hs⟩ := hv; exact ⟨c, h.φ _ _ e, hs⟩
  | .cptr cs, v, hb, hv => by simp [AV.ind] at hb
  | .sl cs n r, v, hb, hv => by
    simp only [VRel, AV.ind, Bool.and_eq_true] at *
    rcases hv with hv | ⟨c', o, cap, vs, e, h1, h2, h3, hs, hf⟩
    · exact .inl hv
    · refine .inr ⟨c', o, cap, vs, e, h1, h2, ?_, VRels.ind h cs _ hb.1 hs, ?_⟩
      · cases r with
        | tok t z =>
          have := hb.2
          simp only [decide_eq_true_eq] at this
          exact ⟨h3.1, (h.tk _ _ _ this h3.2).1⟩
        | _ => exact h3
      · intro i u hu
        cases r with
        | tok t z =>
          have := hb.2
          simp only [decide_eq_true_eq] at this
          exact h.fr _ _ _ (h.tk _ _ _ this h3.2).2 (hf i u hu)
        | nil => exact h3.elim
        | e => exact h3.elim
        | full =>
          have hl := hs.length
          have := hb.2
          simp only [List.isEmpty_iff] at this
          subst this
          cases vs with
          | nil => simp at hu
          | cons => simp at hl
        | no =>
          have hl := hs.length
          have := hb.2
          simp only [List.isEmpty_iff] at this
          subst this
          cases vs with
          | nil => simp at hu
          | cons => simp at hl
  | .msl b o n cap z, v, hb, hv => by
    simp only [VRel] at *
    obtain ⟨c, e, hs⟩ := hv; exact ⟨c, h.φ _ _ e, hs⟩
  | .map m, v, hb, hv => by
    simp only [VRel] at *
    obtain ⟨c, e, hs⟩ := hv; exact ⟨c, h.mp _ _ e, hs⟩
  | .fn f a b, v, hb, hv => by
    simp only [VRel, AV.ind, Bool.and_eq_true] at *
    obtain ⟨fs, cs, e, h1, h2⟩ := hv; exact ⟨fs, cs, e, VRels.ind h a _ hb.1 h1, VRels.ind h b _ hb.2 h2⟩
theorem VRels.ind {ts : List Nat} {c : Nat} {G G' : Ghost} (h : G.But ts c G') : ∀ (as : List AV) (vs : List Value), AV.inds ts as = true → VRels G as vs → VRels G' as vs
  | [], _, _, hv => by simpa only [VRels] using hv
  | a :: as, vs, hb, hv => by
    simp only [VRels, AV.inds, Bool.and_eq_true] at *
    obtain ⟨v, vs', e, h1, h2⟩ := hv; exact ⟨v, vs', e, VRel.ind h a v hb.1 h1, VRels.ind h as vs' hb.2 h2⟩
end
/-- slices of token k may be written from now on: they lie in block b -/
def thw (k b : Nat) : AV → AV
  | .sl cs n (.tok t z) => if t = k then .msl b 0 n noCap z else .sl cs n (.tok t z)
  | a => a
def tOk (k n : Nat) (ts : List Nat) : AV → Bool
  | .sl cs n' (.tok t z) => if t = k then decide (n' = n) else AV.ind ts (.sl cs n' (.tok t z))
  | a => a.ind ts
def H.thaw (h : H) (k : Nat) (cs : List AV) : H := ⟨h.blk.map (·.map (thw k h.blk.length)) ++ [cs], h.toks.take k, []⟩
section
variable {Ge G : Ghost} {he h : H} {we w : World}
theorem thaw_ok (sE : SRel Ge he we) (he0 : he = .nil) (st : Step Ge he we G h w) (s : SRel G h w) {k n z : Nat} {cs : List AV} {v0 : Value} (hm : h.maps = []) (hk : h.toks[k]? = some n)
    (hv : VRel G (.sl cs n (.tok k z)) v0) (hcs : AV.inds (h.toks.take k) cs = true) (hblk : ∀ x ∈ h.blk, ∀ a ∈ x, tOk k n (h.toks.take k) a = true) :
    ∃ G2, SRel G2 (h.thaw k cs) w ∧ Step Ge he we G2 (h.thaw k cs) w ∧ (∀ a v, tOk k n (h.toks.take k) a = true → VRel G a v → VRel G2 (thw k h.blk.length a) v) ∧ ∀ x, Own G2 (h.thaw k cs) x → Own G h x := by
  subst he0
  simp only [VRel] at hv
  obtain ⟨c, o, cap, vs, rfl, h1, h2, h3, h4, h5⟩ := hv.resolve_left (by rintro (⟨e, _⟩ | ⟨e, _⟩) <;> cases e)
  obtain ⟨rfl, htk⟩ := h3
  obtain ⟨c1, cap1, size, cur, e, q1, q2, q3, q4, q5, q6⟩ := s.tok k n hk
  rw [htk] at q1; cases q1
  have hklt : k < h.toks.length := (List.getElem?_eq_some_iff.1 hk).1
  -- nothing was there
  have hφ0 : ∀ b x, Ge.φ b ≠ some x := fun b x hb => absurd (sE.dom.φ b x hb) (Nat.not_lt_zero b)
  have hnot : ∀ x, ¬ Own Ge .nil x := fun x ho => by
    rcases ho with ⟨b, hb⟩ | ⟨t, m, cp, sz, ht, _⟩ | ⟨m, hm⟩
    · exact hφ0 b x hb
    · simp [H.nil] at ht
    · exact absurd (sE.dom.mp m x hm) (Nat.not_lt_zero m)
  have hcw : we.heap.size ≤ c := (st.own c (.inr (.inl ⟨k, n, cap, z, hk, htk⟩))).resolve_left (hnot c)
  have hcφ : ∀ b, G.φ b ≠ some c := fun b hb => s.φtk b c k n cap z hb hk htk
  have hmp : ∀ m x, G.mp m ≠ some x := fun m x hx => by have := s.dom.mp m x hx; rw [hm] at this; exact absurd this (Nat.not_lt_zero m)
  have hts : ∀ t m x, (h.toks.take k)[t]? = some m → G.tk t m = some x → x.1 ≠ c := fun t m x ht hx hc => by
    rw [List.getElem?_take] at ht
    split at ht
    · rename_i htk2
      obtain ⟨a, b, d⟩ := x
      simp only at hc
      subst hc
      have := s.injtk t k m n a b d cap z ht hk hx htk
      omega
    · cases ht
  let G2 : Ghost := { G with φ := fun b => if b = h.blk.length then some c else G.φ b, fr := fun x o => if x = c then none else G.fr x o, tk := fun t m => if t < k then G.tk t m else none }
  have hold : ∀ b x, G2.φ b = some x → (b = h.blk.length ∧ x = c) ∨ G.φ b = some x := fun b x hb => by
    by_cases e : b = h.blk.length
    · left; refine ⟨e, ?_⟩; simp [G2, e] at hb; exact hb.symm
    · right; simpa [G2, e] using hb
  have hfr2 : ∀ x o v, G2.fr x o = some v → x ≠ c ∧ G.fr x o = some v := fun x o v hx => by
    simp only [G2] at hx
    split at hx
    · cases hx
    · rename_i e; exact ⟨e, hx⟩
  have htk2 : ∀ t m x, G2.tk t m = some x → t < k ∧ G.tk t m = some x := fun t m x hx => by
    simp only [G2] at hx
    split at hx
    · rename_i e; exact ⟨e, hx⟩
    · cases hx
  have but : G.But (h.toks.take k) c G2 := by
    refine ⟨fun b x hb => ?_, fun x o v hx hf => ?_, fun t m x ht hx => ⟨?_, hts t m x ht hx⟩, fun m x hx => hx⟩
    · have := s.dom.φ b x hb
      show (if b = h.blk.length then _ else _) = _
      rw [if_neg (by omega)]; exact hb
    · show (if x = c then _ else _) = _
      rw [if_neg hx]; exact hf
    · have : t < k := by
        have := (List.getElem?_eq_some_iff.1 ht).1
        rw [List.length_take] at this; omega
      show (if t < k then _ else _) = _
      rw [if_pos this]; exact hx
  have rel : ∀ a v, tOk k n (h.toks.take k) a = true → VRel G a v → VRel G2 (thw k h.blk.length a) v := by
    intro a v ha hr
    unfold tOk at ha
    split at ha
    · rename_i cs' n' t z'
      by_cases ht : t = k
      · subst ht
        rw [if_pos rfl] at ha
        simp only [decide_eq_true_eq] at ha
        subst ha
        simp only [thw, if_true]
        simp only [VRel] at hr ⊢
        obtain ⟨c', o', cap', vs', rfl, g1, g2, ⟨rfl, g3⟩, g4, g5⟩ := hr.resolve_left (by rintro (⟨e, _⟩ | ⟨e, _⟩) <;> cases e)
        rw [htk] at g3; cases g3
        exact ⟨c, by simp [G2], cap, rfl, g1, g2, .inr trivial⟩
      · rw [if_neg ht] at ha
        have : thw k h.blk.length (.sl cs' n' (.tok t z')) = .sl cs' n' (.tok t z') := by simp only [thw, if_neg ht]
        rw [this]; exact VRel.ind but _ _ ha hr
    · rename_i hne
      have : thw k h.blk.length a = a := by
        unfold thw; split
        · rename_i cs' n' t z'; exact absurd rfl (hne cs' n' t z')
        · rfl
      rw [this]; exact VRel.ind but _ _ ha hr
  have rels : ∀ (x : List AV) (us : List Value), (∀ a ∈ x, tOk k n (h.toks.take k) a = true) → VRels G x us → VRels G2 (x.map (thw k h.blk.length)) us := by
    intro x
    induction x with
    | nil => intro us _ hr; simpa only [List.map_nil, VRels] using hr
    | cons a x ih =>
      intro us ha hr
      simp only [VRels, List.map_cons] at hr ⊢
      obtain ⟨v, us', rfl, r1, r2⟩ := hr
      exact ⟨v, us', rfl, rel a v (ha a (by simp)) r1, ih us' (fun b hb => ha b (by simp [hb])) r2⟩
  have hcell : cur.toList.take cs.length = vs := by
    have hl := h4.length
    apply List.ext_getElem?
    intro i
    rw [List.getElem?_take]
    split
    · rename_i hi
      have hi' : i < vs.length := by omega
      have hf := s.fr _ _ _ (h5 i vs[i] (List.getElem?_eq_getElem hi'))
      rw [cell_of_row w c _ cur e (0, 0) q2] at hf
      rw [List.getElem?_eq_getElem hi']
      simpa using hf
    · rw [List.getElem?_eq_none (by omega)]
  have hle : Ge.Le G2 := by
    refine ⟨fun b x hb => absurd hb (hφ0 b x), fun x o v hx => ?_, fun t m x hx => absurd (sE.dom.tk t m x hx) (Nat.not_lt_zero t), fun m x hx => absurd (sE.dom.mp m x hx) (Nat.not_lt_zero m)⟩
    have h6 := sE.fr_lt hx
    show (if x = c then _ else _) = _
    rw [if_neg (by omega)]; exact st.le.fr _ _ _ hx
  have hb0 : ∀ β ∈ G.bases, β.1 = 0 ∧ β.2.1 = 0 ∧ β.2.2 = 0 := fun β hβ => by
    rw [st.bases] at hβ
    obtain ⟨g1, g2, g3, _⟩ := sE.bases β hβ
    simp only [H.nil, List.length_nil] at g1 g2 g3
    omega
  refine ⟨G2, ?_, ?_, rel, ?_⟩
  · refine ⟨⟨fun b x hb => ?_, fun t m x hx => ?_, fun m x hx => absurd hx (hmp m x)⟩, fun b x hb => ?_, fun t m ht => ?_, fun m x hx => absurd hx (hmp m x), fun x o v hx => s.fr _ _ _ (hfr2 x o v hx).2, fun b b' x hb hb' => ?_, fun b x o hb => ?_, fun b x t m cp sz hb ht hx => ?_, fun t m x hx cu ht => ?_, fun t t' m m' x cp sz cp' sz' ht ht' hx hx' => ?_, fun m m' x hx => absurd hx (hmp m x), fun β hβ => ?_⟩
    · simp only [H.thaw, List.length_append, List.length_map, List.length_singleton]
      rcases hold b x hb with ⟨rfl, _⟩ | hb
      · omega
      · have := s.dom.φ b x hb; omega
    · have := (htk2 t m x hx).1
      simp only [H.thaw, List.length_take]; omega
    · rcases hold b x hb with ⟨rfl, rfl⟩ | hb
      · refine ⟨cs, cur, e, by simp [H.thaw], q2, ?_⟩
        rw [hcell]; exact VRels.ind but _ _ hcs h4
      · obtain ⟨cs', arr, e', g1, g2, g3⟩ := s.blk b x hb
        refine ⟨cs'.map (thw k h.blk.length), arr, e', ?_, g2, ?_⟩
        · simp only [H.thaw]
          rw [List.getElem?_append_left (by rw [List.length_map]; exact s.dom.φ b x hb), List.getElem?_map, g1]; rfl
        · rw [List.length_map]; exact rels _ _ (hblk cs' (List.mem_of_getElem? g1)) g3
    · have ht2 := ht
      simp only [H.thaw, List.getElem?_take] at ht
      split at ht
      · rename_i htl
        obtain ⟨x, cp, sz, cu, e', g1, g2, g3, g4, g5, g6⟩ := s.tok t m ht
        refine ⟨x, cp, sz, cu, e', ?_, g2, g3, g4, g5, fun o v hx => g6 o v (hfr2 x o v hx).2⟩
        show (if t < k then _ else _) = _
        rw [if_pos htl]; exact g1
      · cases ht
    · rcases hold b x hb with ⟨e1, e2⟩ | hb1
      · rcases hold b' x hb' with ⟨e3, _⟩ | hb2
        · rw [e1, e3]
        · subst e2; exact absurd hb2 (hcφ b')
      · rcases hold b' x hb' with ⟨_, e2⟩ | hb2
        · subst e2; exact absurd hb1 (hcφ b)
        · exact s.injφ b b' x hb1 hb2
    · show (if x = c then none else _) = none
      rcases hold b x hb with ⟨rfl, rfl⟩ | hb
      · rw [if_pos rfl]
      · split
        · rfl
        · exact s.φfr b x o hb
    · obtain ⟨htl, hx2⟩ := htk2 t m _ hx
      simp only [H.thaw, List.getElem?_take, if_pos htl] at ht
      rcases hold b x hb with ⟨_, e2⟩ | hb2
      · subst e2
        have := s.injtk t k m n _ cp sz cap z ht hk hx2 htk; omega
      · exact s.φtk b x t m cp sz hb2 ht hx2
    · obtain ⟨htl, hx⟩ := htk2 t m _ hx
      simp only [H.thaw, List.getElem?_take, if_pos htl] at ht
      exact s.tkle t m x hx cu ht
    · obtain ⟨htl, hx⟩ := htk2 t m _ hx
      obtain ⟨htl', hx'⟩ := htk2 t' m' _ hx'
      simp only [H.thaw, List.getElem?_take, if_pos htl] at ht
      simp only [H.thaw, List.getElem?_take, if_pos htl'] at ht'
      exact s.injtk t t' m m' x cp sz cp' sz' ht ht' hx hx'
    · obtain ⟨g1, g2, g3⟩ := hb0 β hβ
      rw [g1, g2, g3]
      exact ⟨Nat.zero_le _, Nat.zero_le _, Nat.zero_le _, fun b x cs' _ hb => absurd hb (Nat.not_lt_zero b)⟩
  · refine ⟨hle, st.os, st.tape, st.output, st.size, st.keep, fun x ho => ?_, st.bases, ⟨fun b x hb hl => absurd hl (Nat.not_lt_zero b), Nat.zero_le _⟩, fun x o v hx => st.frnew x o v (hfr2 x o v hx).2⟩
    rcases ho with ⟨b, hb⟩ | ⟨t, m, cp, sz, ht, hx⟩ | ⟨m, hx⟩
    · rcases hold b x hb with ⟨_, rfl⟩ | hb
      · exact .inr hcw
      · exact st.own x (.inl ⟨b, hb⟩)
    · obtain ⟨htl, hx⟩ := htk2 t m _ hx
      simp only [H.thaw, List.getElem?_take, if_pos htl] at ht
      exact st.own x (.inr (.inl ⟨t, m, cp, sz, ht, hx⟩))
    · exact absurd hx (hmp m x)
  · intro x ho
    rcases ho with ⟨b, hb⟩ | ⟨t, m, cp, sz, ht, hx⟩ | ⟨m, hx⟩
    · rcases hold b x hb with ⟨_, rfl⟩ | hb
      · exact .inr (.inl ⟨k, n, cap, z, hk, htk⟩)
      · exact .inl ⟨b, hb⟩
    · obtain ⟨htl, hx⟩ := htk2 t m _ hx
      simp only [H.thaw, List.getElem?_take, if_pos htl] at ht
      exact .inr (.inl ⟨t, m, cp, sz, ht, hx⟩)
    · exact absurd hx (hmp m x)

/-- where the slice stands -/
def TMain (vs : List AV) (h : H) (cs : List AV) (n k z : Nat) : Prop := .sl cs n (.tok k z) ∈ vs ∨ ∃ b o x, .ptr b o ∈ vs ∧ h.blk[b]? = some x ∧ .sl cs n (.tok k z) ∈ x
structure Thaw (vs : List AV) (h : H) (k n z : Nat) (cs : List AV) : Prop where
  main : TMain vs h cs n k z
  maps : h.maps = []
  tok : h.toks[k]? = some n
  cs : AV.inds (h.toks.take k) cs = true
  vs : ∀ a ∈ vs, tOk k n (h.toks.take k) a = true
  blk : ∀ x ∈ h.blk, ∀ a ∈ x, tOk k n (h.toks.take k) a = true
theorem vrel_at {A : List AV} {us : List Value} (r : VRels G A us) {i : Nat} {a : AV} (h : A[i]? = some a) : ∃ u, us[i]? = some u ∧ VRel G a u := r.get i a h
theorem LoopS.thaw {E : Env} {c : Code} {N : Nat} {is : List Nat} {vs : List AV} {h : H} {outs : List Out} {k n z : Nat} {cs : List AV} (hE : E.β = H.nil.base) (hE2 : E.n ≠ 300) (ht : Thaw vs h k n z cs)
    (hl : LoopS E c N is (vs.map (thw k h.blk.length)) (h.thaw k cs) outs) : LoopS E c N is vs h outs := by
  intro A hA hs ro Ge he we en obs G w a t Q hQ
  have st := t.st
  have s := t.s
  have r := t.r
  have hg := en.gl
  have he0 : he = .nil := by
    have hb' := en.base.trans hE
    obtain ⟨x, y, m⟩ := he
    simp only [H.base, H.nil, Base.mk.injEq, List.length_nil, List.length_eq_zero_iff] at hb'
    obtain ⟨rfl, rfl, rfl⟩ := hb'
    rfl
  have hin : ∀ a ∈ vs, a ≠ .undef → ∃ (i : Nat) (u : Value), i ∈ is ∧ A[i]? = some a ∧ VRel G a u := fun a ha hne => by
    rw [← hs] at ha
    obtain ⟨i, hi, e⟩ := List.mem_map.1 ha
    rw [List.getD_eq_getElem?_getD] at e
    cases hq : A[i]? with
    | none => rw [hq] at e; exact absurd e.symm hne
    | some y =>
      rw [hq] at e
      simp only [Option.getD_some] at e
      subst e
      obtain ⟨u, _, hr⟩ := vrel_at r.tmps hq
      exact ⟨i, u, hi, hq, hr⟩
  have hv0 : ∃ v0, VRel G (.sl cs n (.tok k z)) v0 := by
    rcases ht.main with h1 | ⟨b, o, x, h1, h2, h3⟩
    · obtain ⟨_, u, _, _, hr⟩ := hin _ h1 (by simp [AV.undef]); exact ⟨u, hr⟩
    · obtain ⟨_, u, _, _, hr⟩ := hin _ h1 (by simp [AV.undef])
      simp only [VRel] at hr
      obtain ⟨c', hc, _⟩ := hr
      obtain ⟨x', arr, e, g1, g2, g3⟩ := s.blk b c' hc
      rw [h2] at g1; cases g1
      obtain ⟨i, hi, e⟩ := List.mem_iff_getElem.1 h3
      obtain ⟨u, _, hu⟩ := g3.get i _ (by rw [List.getElem?_eq_getElem hi, e])
      exact ⟨u, hu⟩
  obtain ⟨v0, hv0⟩ := hv0
  obtain ⟨G2, s2, st2, rel, own2⟩ := thaw_ok en.srel he0 st s ht.maps ht.tok hv0 ht.cs ht.blk
  have key : ∀ i, i ∈ is → ∀ a u, A[i]? = some a → VRel G a u → VRel G2 (thw k h.blk.length a) u := fun i hi a u hq hr => by
    refine rel a u (ht.vs a ?_) hr
    rw [← hs]
    exact List.mem_map.2 ⟨i, hi, by rw [List.getD_eq_getElem?_getD, hq]; rfl⟩
  let A2 : List AV := (List.range A.length).map fun i => if i ∈ is then thw k h.blk.length (A.getD i .undef) else .top
  have hA2 : ∀ i, A2[i]? = (A[i]?).map fun x => if i ∈ is then thw k h.blk.length x else .top := fun i => by
    simp only [A2, List.getElem?_map]
    by_cases hi : i < A.length
    · rw [List.getElem?_range hi, List.getElem?_eq_getElem hi]
      simp only [Option.map_some]
      rw [List.getD_eq_getElem?_getD, List.getElem?_eq_getElem hi]; rfl
    · rw [List.getElem?_eq_none (by simp; omega), List.getElem?_eq_none (by omega)]; rfl
  have r2 : ARel G2 A2 (Act.bare a) := by
    refine ⟨?_, r.defers, hg.mono st2.le⟩
    have hlen := r.tmps.length
    have : ∀ (X : List AV) (us : List Value), X.length = us.length → (∀ (i : Nat) (x : AV) (u : Value), X[i]? = some x → us[i]? = some u → VRel G2 x u) → VRels G2 X us := by
      intro X
      induction X with
      | nil => intro us hl _; cases us with
        | nil => simp [VRels]
        | cons => simp at hl
      | cons x X ih =>
        intro us hl hx
        cases us with
        | nil => simp at hl
        | cons u us =>
          simp only [VRels]
          exact ⟨u, us, rfl, hx 0 x u rfl rfl, ih us (by simpa using hl) (fun i y v h1 h2 => hx (i + 1) y v (by simpa using h1) (by simpa using h2))⟩
    refine this _ _ (by simp [A2, hlen]) (fun i x u hx hu => ?_)
    rw [hA2] at hx
    cases hq : A[i]? with
    | none => rw [hq] at hx; cases hx
    | some y =>
      rw [hq] at hx
      simp only [Option.map_some, Option.some.injEq] at hx
      subst hx
      obtain ⟨u', hu', hr⟩ := vrel_at r.tmps hq
      rw [hu] at hu'; cases hu'
      split
      · rename_i hi; exact key i hi y u hq hr
      · simp [VRel]
  refine hl A2 (by simp [A2, hA]) ?_ ro Ge he we en obs G2 w a ⟨st2, s2, fun p hp => ⟨(t.keep p hp).1, fun ho => (t.keep p hp).2 (own2 _ ho)⟩, (by
    obtain ⟨Ds, e, hn, hB, hk⟩ := t.marks
    exact ⟨Ds, e, hn, hB, fun p hp => ⟨(hk p hp).1, fun ho => (hk p hp).2 (own2 _ ho)⟩⟩), t.ro, r2⟩ Q (fun x A' h' G' a' w' hk t' _ => hQ x A' h' G' a' w' hk t' fun q => absurd q hE2)
  rw [← hs]
  simp only [sel, List.map_map]
  apply List.map_congr_left
  intro i hi
  simp only [Function.comp]
  rw [List.getD_eq_getElem?_getD, hA2, List.getD_eq_getElem?_getD]
  cases A[i]? with
  | none => rfl
  | some y => simp [hi]
end
theorem inds_map {α : Type} {f : α → AV} (hf : ∀ ts x, (f x).ind ts = true) (ts : List Nat) : ∀ l : List α, AV.inds ts (l.map f) = true
  | [] => rfl
  | x :: l => by simp only [List.map_cons, AV.inds, hf ts x, inds_map hf ts l]; rfl
@[simp] theorem inds_ints (ts : List Nat) (l : List Int) : AV.inds ts (ints l) = true := inds_map (fun _ _ => rfl) ts l
end Go.VM
end
section
/- A region that makes one slice, in the empty heap: from then on the slice may be written; what was there before stays known. -/
namespace Go.VM
set_option linter.unusedSectionVars false
variable [Inhabited Globs]
section
variable {P : Program}
/-- which slots operations set -/
def dsts (l : List Oper) : List Nat := l.filterMap (·.dst)
theorem put_other {a : Act} {d : Option Nat} {u : Value} {i : Nat} (h : d ≠ some i) : (a.put d u).tmps[i]? = a.tmps[i]? := by
  cases d with
  | none => rfl
  | some k =>
    have : k ≠ i := fun e => h (by rw [e])
    simp [Act.put, this]
theorem arunF_ok {S : Summ} (hS : SummOk P S) {β : Base} {ops : Array Oper} {Q : Exit → Act → World → Prop} : ∀ (l : List Oper) (k : Nat) (A : List AV) (h : H) (G : Ghost) (w : World) (a : Act) (A' : List AV) (h' : H), (∀ j, l[j]? = ops[k + j]?) →
    SRel G h w → (∀ γ ∈ G.bases, γ.1 ≤ β.nb) → ARel G A a → arun P S β ops l A h = some (A', h') →
    (∀ G' a' w', Step G h w G' h' w' → SRel G' h' w' → ARel G' A' a' → (∀ i, i ∉ dsts l → a'.tmps[i]? = a.tmps[i]?) → Q .normal a' w') → wpOps P ops Q (List.range' k l.length) a w
  | [], k, A, h, G, w, a, A', h', _, s, hβ, r, he, hQ => by
    simp only [arun, Option.some.injEq, Prod.mk.injEq] at he
    obtain ⟨rfl, rfl⟩ := he
    simpa [wpOps] using hQ G a w (.refl _ _ _) s r (fun _ _ => rfl)
  | o :: l, k, A, h, G, w, a, A', h', hl, s, hβ, r, he, hQ => by
    have h0 : ops[k]? = some o := by simpa using (hl 0).symm
    have hl' : ∀ j, l[j]? = ops[k + 1 + j]? := fun j => by have := hl (j + 1); simpa [Nat.add_assoc, Nat.add_comm 1 j] using this
    have hd : ∀ (u : Value) i, i ∉ dsts (o :: l) → i ∉ dsts l ∧ (a.put o.dst u).tmps[i]? = a.tmps[i]? := fun u i hi => by
      simp only [dsts, List.filterMap_cons] at hi
      cases hq : o.dst with
      | none => rw [hq] at hi; exact ⟨hi, rfl⟩
      | some d =>
        rw [hq] at hi
        simp only [List.mem_cons, not_or] at hi
        exact ⟨hi.2, put_other (fun e => hi.1 (by cases e; rfl))⟩
    simp only [List.length_cons, List.range'_succ, wpOps, h0]
    simp only [arun] at he
    split at he
    · rename_i hw
      rw [awant_ok r hw, if_pos rfl]
      split at he
      · rename_i v h1 hop
        left
        refine aop_ok hS s hβ r hop (fun G1 w1 u st1 s1 hv => ?_)
        exact arunF_ok hS l (k + 1) _ h1 G1 w1 _ A' h' hl' s1 (by rw [st1.bases]; exact hβ) (put_rel (r.mono st1.le) hv o.dst) he
          (fun G' a' w' st s' r' hf => hQ G' a' w' (st1.trans st) s' r' (fun i hi => (hf i (hd u i hi).1).trans (hd u i hi).2))
      · cases he
    · rename_i hw
      rw [awant_ok r hw]
      simp only [Bool.false_eq_true, if_false]
      exact arunF_ok hS l (k + 1) _ h G w _ A' h' hl' s hβ (put_rel r (undef_rel G) o.dst) he (fun G' a' w' st s' r' hf => hQ G' a' w' st s' r' (fun i hi => (hf i (hd undef i hi).1).trans (hd undef i hi).2))
    · cases he
/-- a slot behind it -/
def thS (n : Nat) (a : AV) : AV := if tOk 0 n [] a then thw 0 0 a else AV.top
def thA (ds : List Nat) (n : Nat) (A B : List AV) : List AV := (List.range B.length).map fun i => if i ∈ ds then thS n (B.getD i .undef) else A.getD i .undef
theorem vrels_of {G : Ghost} : ∀ (X : List AV) (us : List Value), X.length = us.length → (∀ (i : Nat) (x : AV) (u : Value), X[i]? = some x → us[i]? = some u → VRel G x u) → VRels G X us := by
  intro X
  induction X with
  | nil => intro us hl _; cases us with
    | nil => simp [VRels]
    | cons => simp at hl
  | cons x X ih =>
    intro us hl hx
    cases us with
    | nil => simp at hl
    | cons u us =>
      simp only [VRels]
      exact ⟨u, us, rfl, hx 0 x u rfl rfl, ih us (by simpa using hl) (fun i y v h1 h2 => hx (i + 1) y v (by simpa using h1) (by simpa using h2))⟩
theorem thA_get {ds : List Nat} {n : Nat} {A B : List AV} {i : Nat} {x : AV} (h : (thA ds n A B)[i]? = some x) : i < B.length ∧ x = if i ∈ ds then thS n (B.getD i .undef) else A.getD i .undef := by
  have hl : i < (thA ds n A B).length := (List.getElem?_eq_some_iff.1 h).1
  have hi : i < B.length := by simpa [thA] using hl
  refine ⟨hi, ?_⟩
  simp only [thA, List.getElem?_map, List.getElem?_range hi, Option.map_some, Option.some.injEq] at h
  exact h.symm
theorem SemC.region_thaw {E : Env} {M : FuncId → Bool} (hR : Rests E M) {lv : Prop} {id : Nat} {ops : Array Oper} {A B : List AV} {os : List Ans} {n z i0 : Nat} {cs : List AV}
    (hw : wS E (.region id ops false) A .nil os (fun x A1 h1 _ => Keep (x = .normal ∧ A1 = B ∧ h1 = ⟨[], [n], []⟩)))
    (hl : B.length = A.length) (h0 : B[i0]? = some (.sl cs n (.tok 0 z))) (hcs : AV.inds [] cs = true) :
    SemC E.P lv E.β (.region id ops false) A .nil (fun x A2 h2 => x = .normal ∧ A2 = thA (dsts ops.toList) n A B ∧ h2 = ⟨[cs], [], []⟩) := by
  intro ro Ge he we en obs G w a t Q hQ
  simp only [wS] at hw
  obtain ⟨A', h', os', hea, _, rfl, rfl⟩ := runW_ok hw
  have hβ' : ∀ γ ∈ G.bases, γ.1 ≤ E.β.nb := by rw [t.st.bases]; exact en.bases
  let Q0 : Exit → Act → World → Prop := fun e a' w' => e = .normal ∧ ∃ G', Step G .nil w G' ⟨[], [n], []⟩ w' ∧ SRel G' ⟨[], [n], []⟩ w' ∧ ARel G' A' a' ∧ ∀ i, i ∉ dsts ops.toList → a'.tmps[i]? = (Act.bare a).tmps[i]?
  have q1 : ∀ e a' w', Q0 e a' w' → e = .normal := fun e a' w' hq => hq.1
  have q2 : ∀ a' w', Q0 .normal a' w' → a'.defers = [] := fun a' w' hq => by obtain ⟨_, _, _, _, r, _⟩ := hq; exact r.defers
  have q3 : ∀ a' w', Q0 .normal a' w' → Q .normal { a' with defers := a.defers } w' := fun a' w' hq => by
    obtain ⟨_, G', st, s, r, hf⟩ := hq
    obtain ⟨v0, hv0, hr0⟩ := vrel_at r.tmps h0
    obtain ⟨G2, s2, st2, tr, _⟩ := thaw_ok t.s rfl st s (k := 0) (n := n) (z := z) (cs := cs) rfl rfl hr0 hcs (by intro x hx; cases hx)
    have e2 : (H.mk [] [n] []).thaw 0 cs = ⟨[cs], [], []⟩ := rfl
    rw [e2] at s2 st2
    have hlen : a'.tmps.toList.length = A'.length := (r.tmps.length).symm
    refine hQ .normal _ _ G2 _ w' ⟨rfl, rfl, rfl⟩ (t.region st2 s2 ⟨?_, r.defers, ?_⟩) fun _ => st2.le
    · refine vrels_of _ _ (by simp [thA, hlen]) fun i x y hx hy => ?_
      obtain ⟨hjl, rfl⟩ := thA_get hx
      split
      · rename_i hi
        have hB : A'[i]? = some (A'.getD i .undef) := by simp [List.getD_eq_getElem?_getD, List.getElem?_eq_getElem hjl]
        obtain ⟨v, hv, hr⟩ := vrel_at r.tmps hB
        rw [hv] at hy; cases hy
        simp only [thS]
        split
        · rename_i hk; exact tr _ _ hk hr
        · simp only [VRel]
      · rename_i hi
        have hjA : i < A.length := by omega
        have hA : A[i]? = some (A.getD i .undef) := by simp [List.getD_eq_getElem?_getD, List.getElem?_eq_getElem hjA]
        obtain ⟨v, hv, hr⟩ := vrel_at t.r.tmps hA
        have := hf i hi
        rw [Array.getElem?_toList] at hv hy
        rw [hy] at this
        have hv' : (Act.bare a).tmps[i]? = some v := hv
        rw [hv'] at this; cases this
        exact VRel.mono st2.le _ _ hr
    · exact t.r.gl.mono st2.le
  refine wpIn_region ?_
  have := arunF_ok hR.summ (Q := Q0) ops.toList 0 A .nil G w (Act.bare a) A' ⟨[], [n], []⟩ (by simp) t.s hβ' t.r hea (fun G' a' w' st' s' r' hf' => ⟨rfl, G', st', s', r', hf'⟩)
  rw [← List.range_eq_range', Array.length_toList] at this
  exact ops_in (a := Act.bare a) (ds := a.defers) q1 q2 q3 _ w this
def regId : Code → Nat
  | .region id _ _ => id
  | _ => 0
def regOps : Code → Array Oper
  | .region _ ops _ => ops
  | _ => #[]
def sq1 : Code → Code
  | .seq x _ => x
  | c => c
def sq2 : Code → Code
  | .seq _ y => y
  | c => c
theorem SemC.seq {lv : Prop} {β : Base} {x y : Code} {A : List AV} {h : H} {K1 K : AX → List AV → H → Prop} (hx : SemC P lv β x A h K1) (hn : ∀ e A1 h1, K1 e A1 h1 → e = .normal) (hy : ∀ A1 h1, K1 .normal A1 h1 → SemC P lv β y A1 h1 K) : SemC P lv β (.seq x y) A h K := by
  intro ro Ge he we en obs G w a t Q hQ
  refine wpIn_seq ?_
  refine hx ro Ge he we en obs G w a t _ (fun x1 A1 h1 G1 a1 w1 hk t1 l1 => ?_)
  obtain rfl := hn _ _ _ hk
  exact hy _ _ hk ro Ge he we en obs G1 w1 a1 t1 Q (fun x A' h' G' a' w' hk2 t2 l2 => hQ x A' h' G' a' w' hk2 t2 fun q => (l1 q).trans (l2 q))
/-- a body, put together from what its parts come to -/
theorem sem_call {E : Env} {M : FuncId → Bool} {f : FuncId} {fn : Func} {args : List AV} {h : H} {r : AV × H} {lv : Prop} (k : FokM E.P M f fn) (hβ : E.β = h.base)
    (hsem : SemC E.P lv E.β (bd fn) (args ++ List.replicate (fn.ntmps - args.length) .undef) h (fun x A' h' => ∃ os', Kfin E fn h r x A' h' os')) : CallOk E.P f args h r.1 r.2 := by
  intro G w vs s hgl hr
  have hl := hr.length
  refine callsIn_wide.1 (callsIn_of_wp_marks (F := fen none) (n := 0) k.at_ k.body trivial ?_ rfl)
  have hle : G.Le { G with bases := (h.blk.length, h.toks.length, h.maps.length) :: G.bases } := ⟨fun _ _ h => h, fun _ _ _ h => h, fun _ _ _ h => h, fun _ _ h => h⟩
  have en : Ent E.β { G with bases := (h.blk.length, h.toks.length, h.maps.length) :: G.bases } h w := ⟨s.push, hβ.symm, hgl, by
    intro γ hγ
    rw [hβ]
    rcases List.mem_cons.1 hγ with rfl | hγ
    · exact Nat.le_refl _
    · exact (s.bases γ hγ).1⟩
  refine hsem none _ h w en [] _ w _ ⟨.refl _ _ _, s.push, fun p hp => (by cases hp), ⟨[], rfl, List.nodup_nil, fun D hD => (by cases hD), fun p hp => (by cases hp)⟩, fun l hl => (by cases hl), ?_⟩ _ (fun x A1 h1 G1 a1 w1 hk t1 _ => ?_)
  · refine ⟨?_, rfl, hgl⟩
    simp only [Array.toList_append, Array.toList_replicate, List.size_toArray]
    rw [← hl]
    exact (VRels.mono hle _ _ hr).append (VRels.replicate (undef_rel _) _)
  · obtain ⟨os1, hk⟩ := hk
    have st1 := t1.st
    have s1 := t1.s
    have r1 := t1.r
    have fin : ∀ vs', resvs E.P h1 A1 fn.results.toList = some vs' → leave h.base (oneOrTup vs') h1 = r → bodyPostM (fen none) 0 E.P fn (fun e w' => ∃ G' u, e = .returned u ∧ Step G h w G' r.2 w' ∧ SRel G' r.2 w' ∧ VRel G' r.1 u) .ret a1 w1 := by
      intro vs' hvs' hlv
      obtain ⟨Ds, eD, hn, hB, hk⟩ := t1.marks
      show LeavesInM (fen none) 0 E.P fn a1.tmps _ a1.defers .returning w1
      rw [eD]
      refine leaves_marks Ds w1 hn hB hk st1 s1 (fun w2 st2 s2 => ?_)
      obtain ⟨u, hu1, hu2⟩ := results_ok s2 r1 hvs'
      obtain ⟨G', g1, g2, g3⟩ := leave_ok s s2 st2 hu2 (v' := r.1) (h' := r.2) hlv
      exact ⟨u, hu1, G', u, rfl, g2, g1, g3⟩
    cases x
    · simp only [Kfin] at hk
      split at hk
      · rename_i vs' hv; exact fin vs' hv hk
      · exact hk.elim
    · exact hk.elim
    · simp only [Kfin] at hk
      split at hk
      · rename_i vs' hv; exact fin vs' hv hk
      · exact hk.elim
theorem SemC.read {E : Env} {M : FuncId → Bool} (hR : Rests E M) {c : Code} (hc : allSimpleM M c = true) {A : List AV} {h : H} {K : Kn} (hw : ∃ os, ∀ u : Nat → AV, Led (wS E c A h os K)) : SemC E.P (E.n = 300) E.β c A h (fun x A' h' => ∃ os', K x A' h' os') := by
  obtain ⟨os, hw⟩ := hw
  exact wS_ok hR c hc A h os K (hw fun _ => .undef).it
theorem SemC.thaw_at {E : Env} {M : FuncId → Bool} (hR : Rests E M) {lv : Prop} {c : Code} (hreg : c = .region (regId c) (regOps c) false) {A B A2 : List AV} {n z i0 : Nat} {cs : List AV}
    (hw : ∃ os, ∀ u : Nat → AV, Led (wS E c A .nil os (fun x A1 h1 _ => Keep (x = .normal ∧ A1 = B ∧ h1 = ⟨[], [n], []⟩))))
    (hl : B.length = A.length) (h0 : B[i0]? = some (.sl cs n (.tok 0 z))) (hcs : AV.inds [] cs = true) (h2 : thA (dsts (regOps c).toList) n A B = A2) :
    SemC E.P lv E.β c A .nil (fun x A' h' => x = .normal ∧ A' = A2 ∧ h' = ⟨[cs], [], []⟩) := by
  obtain ⟨os, hw⟩ := hw
  have hw := (hw fun _ => .undef).it
  subst h2
  generalize hi : regId c = id at hreg
  generalize ho : regOps c = ops at hreg ⊢
  subst hreg
  exact SemC.region_thaw hR hw hl h0 hcs
end
end Go.VM
end
section
/- A contract at a small heap holds at every heap that begins so: what lies behind it stays. -/
namespace Go.VM
set_option linter.unusedSectionVars false
variable [Inhabited Globs]
section
variable {P : Program}
/-- blocks that point to one another only -/
def H.closed (h : H) : Prop := h.toks = [] ∧ h.maps = [] ∧ ∀ cs ∈ h.blk, AV.bnds h.blk.length 0 0 cs = true
/-- what is known of the first blocks alone -/
def Ghost.sub (G : Ghost) (nb : Nat) : Ghost := ⟨fun b => if b < nb then G.φ b else none, G.fr, fun _ _ => none, fun _ => none, []⟩
theorem sub_φ {G : Ghost} {nb b c : Nat} (h : (G.sub nb).φ b = some c) : b < nb ∧ G.φ b = some c := by
  simp only [Ghost.sub] at h
  split at h
  · rename_i q; exact ⟨q, h⟩
  · cases h
theorem sub_below (G : Ghost) (nb : Nat) : G.LeBelow nb 0 0 (G.sub nb) := ⟨fun b c hb h => by simp only [Ghost.sub, if_pos hb]; exact h, fun _ _ _ h => h, fun t n x ht => absurd ht (Nat.not_lt_zero _), fun m c hm => absurd hm (Nat.not_lt_zero _)⟩
theorem SRel.sub {G : Ghost} {h : H} {zs : List (List AV)} {ts : List Nat} {ms : List (List (AV × AV))} {w : World} (hc : h.closed) (s : SRel G ⟨h.blk ++ zs, ts, ms⟩ w) : SRel (G.sub h.blk.length) h w where
  dom := ⟨fun b c hq => (sub_φ hq).1, fun _ _ _ hq => (by cases hq), fun _ _ hq => (by cases hq)⟩
  blk b c hq := by
    obtain ⟨h1, h2⟩ := sub_φ hq
    obtain ⟨cs, arr, e, q1, q2, q3⟩ := s.blk b c h2
    have q4 : h.blk[b]? = some cs := by rw [List.getElem?_append_left h1] at q1; exact q1
    exact ⟨cs, arr, e, q4, q2, VRels.below (sub_below G _) _ _ (hc.2.2 cs (List.mem_of_getElem? q4)) q3⟩
  tok t n ht := by rw [hc.1] at ht; cases ht
  map m c hm := by cases hm
  fr := s.fr
  injφ b b' c h1 h2 := s.injφ b b' c (sub_φ h1).2 (sub_φ h2).2
  φfr b c o hq := s.φfr b c o (sub_φ hq).2
  φtk b c t n cap sz hq ht := by rw [hc.1] at ht; cases ht
  tkle t n x hx := by cases hx
  injtk t t' n n' c cap sz cap' sz' h1 := by rw [hc.1] at h1; cases h1
  injmp m m' c h1 := by cases h1
  bases β hβ := by cases hβ
theorem own_sub {G : Ghost} {h : H} {H' : H} {c : Nat} (hc : h.closed) (ho : Own (G.sub h.blk.length) h c) : ∃ b, b < h.blk.length ∧ G.φ b = some c := by
  rcases ho with ⟨b, hb⟩ | ⟨t, n, cap, sz, ht, _⟩ | ⟨m, hm⟩
  · exact ⟨b, sub_φ hb⟩
  · rw [hc.1] at ht; cases ht
  · cases hm

theorem CallOk.frame {f : FuncId} {args : List AV} {h : H} {v : AV} (hc : h.closed) (ha : AV.bnds h.blk.length 0 0 args = true) (hv : v.bnd h.blk.length 0 0 = true) (k : CallOk P f args h v h)
    (zs : List (List AV)) (ts : List Nat) (ms : List (List (AV × AV))) : CallOk P f args ⟨h.blk ++ zs, ts, ms⟩ v ⟨h.blk ++ zs, ts, ms⟩ := by
  intro G w vs s hgl hr
  refine Calls.mono (k (G.sub h.blk.length) w vs (s.sub hc) hgl (VRels.below (sub_below G _) _ _ ha hr)) ?_
  rintro e w' ⟨G', u, rfl, st, s', hvu⟩
  let G2 : Ghost := { G with fr := G'.fr }
  have hle : G.Le G2 := ⟨fun _ _ q => q, fun c o x q => st.le.fr c o x q, fun _ _ _ q => q, fun _ _ q => q⟩
  have hno : ∀ c, (∀ b, b < h.blk.length → G.φ b ≠ some c) → ¬ Own (G.sub h.blk.length) h c := fun c hn ho => by
    obtain ⟨b, h1, h2⟩ := own_sub (H' := h) hc ho
    exact hn b h1 h2
  have hkeep : ∀ c, c < w.heap.size → (∀ b, b < h.blk.length → G.φ b ≠ some c) → w'.heap[c]? = w.heap[c]? := fun c hl hn => st.keep c hl (hno c hn)
  have hfr : ∀ c o x, G'.fr c o = some x → c < w.heap.size → (∀ b, b < h.blk.length → G.φ b ≠ some c) → G.fr c o = some x := fun c o x q hl hn => by
    rcases st.frnew c o x q with q | q | q
    · exact q
    · omega
    · exact absurd q (hno c hn)
  have hbel : G'.LeBelow h.blk.length 0 0 G2 := ⟨fun b c hb q => (sub_φ (st.pend.1 b c q hb)).2, fun _ _ _ q => q, fun t n x ht => absurd ht (Nat.not_lt_zero _), fun m c hm => absurd hm (Nat.not_lt_zero _)⟩
  refine ⟨G2, u, rfl, ?_, ?_, VRel.below hbel _ _ hv hvu⟩
  · refine ⟨hle, st.os, st.tape, st.output, st.size, fun c hl hn => hkeep c hl (fun b _ hb => hn (.inl ⟨b, hb⟩)), fun c ho => .inl ho, rfl, ⟨fun _ _ q _ => q, Nat.le_refl _⟩, fun c o x q => ?_⟩
    rcases st.frnew c o x q with q | q | q
    · exact .inl q
    · exact .inr (.inl q)
    · obtain ⟨b, _, hb⟩ := own_sub (H' := h) hc q
      exact .inr (.inr (.inl ⟨b, hb⟩))
  · refine ⟨⟨s.dom.φ, s.dom.tk, s.dom.mp⟩, ?_, ?_, ?_, s'.fr, s.injφ, ?_, s.φtk, s.tkle, s.injtk, s.injmp, s.bases⟩
    · intro b c hb
      by_cases hlt : b < h.blk.length
      · have hb' : G'.φ b = some c := st.le.φ b c (by simp only [Ghost.sub, if_pos hlt]; exact hb)
        obtain ⟨cs, arr, e, q1, q2, q3⟩ := s'.blk b c hb'
        exact ⟨cs, arr, e, by rw [List.getElem?_append_left hlt]; exact q1, q2, VRels.below hbel _ _ (hc.2.2 cs (List.mem_of_getElem? q1)) q3⟩
      · obtain ⟨cs, arr, e, q1, q2, q3⟩ := s.blk b c hb
        have hl : c < w.heap.size := s.own_lt (.inl ⟨b, hb⟩)
        refine ⟨cs, arr, e, q1, ?_, VRels.mono hle _ _ q3⟩
        rw [hkeep c hl (fun b' hb' hq => by have := s.injφ b b' c hb hq; omega)]; exact q2
    · intro t n ht
      obtain ⟨c, cap, size, cur, e, q1, q2, q3, q4, q5, q6⟩ := s.tok t n ht
      have hl : c < w.heap.size := s.own_lt (.inr (.inl ⟨t, n, cap, size, ht, q1⟩))
      have hn : ∀ b, b < h.blk.length → G.φ b ≠ some c := fun b _ hq => s.φtk b c t n cap size hq ht q1
      exact ⟨c, cap, size, cur, e, q1, by rw [hkeep c hl hn]; exact q2, q3, q4, q5, fun o x hx => q6 o x (hfr c o x hx hl hn)⟩
    · intro m c hm
      have hl : c < w.heap.size := s.own_lt (.inr (.inr ⟨m, hm⟩))
      obtain ⟨M, es, ck, q1, q2, q3⟩ := s.map m c hm
      have hn : ∀ b, b < h.blk.length → G.φ b ≠ some c := fun b _ hq => by
        obtain ⟨cs, arr, e, _, q5, _⟩ := s.blk b c hq
        rw [q2] at q5; cases q5
      exact ⟨M, es, ck, q1, by rw [hkeep c hl hn]; exact q2, q3.mono hle⟩
    · intro b c o hb
      by_cases hlt : b < h.blk.length
      · exact s'.φfr b c o (st.le.φ b c (by simp only [Ghost.sub, if_pos hlt]; exact hb))
      · have hl : c < w.heap.size := s.own_lt (.inl ⟨b, hb⟩)
        cases hq : G2.fr c o with
        | none => rfl
        | some x =>
          have := hfr c o x hq hl (fun b' hb' hq' => by have := s.injφ b b' c hb hq'; omega)
          rw [s.φfr b c o hb] at this; cases this
/-! ### a table of calls at single heaps, for regions that are run in all their orders -/
structure TRow (P : Program) where
  f : FuncId
  args : List AV
  h : H
  v : AV
  h' : H
  ok : callable P f = true ∧ CallOk P f args h v h'
end
end Go.VM
end
