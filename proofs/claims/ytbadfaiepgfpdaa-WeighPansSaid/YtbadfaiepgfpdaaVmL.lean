/- Leaving a frame; calls. -/
import Derived.Test.YtbadfaiepgfpdaaVmK
namespace Go.VM

def H.base (h : H) : Base := ⟨h.blk.length, h.toks.length, h.maps.length⟩

def frz (nb nt : Nat) (h : H) : Nat → AV → AV
  | 0, _ => .top
  | k + 1, .agg cs => .agg (cs.map (frz nb nt h k))
  | k + 1, .tup cs => .tup (cs.map (frz nb nt h k))
  | k + 1, .cptr cs => .cptr (cs.map (frz nb nt h k))
  | k + 1, .fn f a b => .fn f (a.map (frz nb nt h k)) (b.map (frz nb nt h k))
  | k + 1, .sl cs n (.tok t z) => .sl (cs.map (frz nb nt h k)) n (if t < nt then .tok t z else .no)
  | k + 1, .sl cs n r => .sl (cs.map (frz nb nt h k)) n r
  | k + 1, .msl b o n cap z =>
    if b < nb then .msl b o n cap z
    else match h.blk[b]? with
      | some cs => .sl (((cs.drop o).take (n * z)).map (frz nb nt h k)) n (if cap = n then .full else .no)
      | none => .top
  | _ + 1, v => v

def retok (nt : Nat) (h : H) (v v1 : AV) : AV × List Nat :=
  match v, v1 with
  | .sl _ n (.tok t z), .sl cs1 n1 _ => if nt ≤ t ∧ h.toks[t]? = some n ∧ n1 = n then (.sl cs1 n (.tok nt z), [n]) else (v1, [])
  | .tup (.sl _ n (.tok t z) :: _), .tup (.sl cs1 n1 _ :: rest) => if nt ≤ t ∧ h.toks[t]? = some n ∧ n1 = n then (.tup (.sl cs1 n (.tok nt z) :: rest), [n]) else (v1, [])
  | _, _ => (v1, [])

def leave (β : Base) (v : AV) (h1 : H) : AV × H :=
  if v.bnd β.nb β.nt β.nm then (v, ⟨h1.blk.take β.nb, h1.toks.take β.nt, h1.maps.take β.nm⟩)
  else
    let v1 := frz β.nb β.nt h1 6 v
    if v1.bnd β.nb β.nt h1.maps.length then
      let (v2, ts) := retok β.nt h1 v v1
      (v2, ⟨h1.blk.take β.nb, h1.toks.take β.nt ++ ts, if v1.bnd β.nb β.nt β.nm then h1.maps.take β.nm else h1.maps⟩)
    else (v, h1)

section
variable {P : Program} {G : Ghost} {h : H} {w : World}

theorem key_bnd {a : AV} (h : a.key = true) : a.bnd 0 0 0 = true := by
  cases a <;> simp only [AV.key, AV.key1, Bool.false_eq_true] at h <;> simp only [AV.bnd]
  rw [AV.bnds_iff]
  intro x hx
  have := List.all_eq_true.1 h x hx
  cases x <;> simp only [AV.key1, Bool.false_eq_true] at this <;> simp only [AV.bnd]

def newToks : Option (Nat × Nat) → List Nat
  | none => []
  | some (_, N) => [N]

open Classical in
noncomputable def Ghost.leave (G : Ghost) (w : World) (nb nt nm : Nat) (ot : Option (Nat × Nat)) (bs : List (Nat × Nat × Nat)) : Ghost where
  φ := fun b => if b < nb then G.φ b else none
  fr := fun c o => if ∃ b, nb ≤ b ∧ G.φ b = some c then w.cell? ⟨c, o, none⟩ else G.fr c o
  tk := fun t m => if t < nt then G.tk t m else match ot with
    | some (t0, N) => if t = nt ∧ m = N then G.tk t0 N else none
    | none => none
  mp := fun m => if m < nm then G.mp m else none
  bases := bs

theorem SRel.leave (s : SRel G h w) {nb nt nm nm' : Nat} {bs : List (Nat × Nat × Nat)} (hmem : (nb, nt, nm) ∈ G.bases) (hbs : ∀ β ∈ bs, β ∈ G.bases ∧ β.1 ≤ nb ∧ β.2.1 ≤ nt ∧ β.2.2 ≤ nm) (hm1 : nm ≤ nm') (hm2 : nm' ≤ h.maps.length)
    (ot : Option (Nat × Nat)) (hot : ∀ t0 N, ot = some (t0, N) → nt ≤ t0 ∧ h.toks[t0]? = some N) :
    SRel (G.leave w nb nt nm' ot bs) ⟨h.blk.take nb, h.toks.take nt ++ newToks ot, h.maps.take nm'⟩ w ∧ G.LeBelow nb nt nm' (G.leave w nb nt nm' ot bs) ∧
      (∀ c, Own (G.leave w nb nt nm' ot bs) ⟨h.blk.take nb, h.toks.take nt ++ newToks ot, h.maps.take nm'⟩ c → Own G h c) ∧
      (∀ b c arr e f, nb ≤ b → G.φ b = some c → w.heap[c]? = some (.cells arr e f) → ∀ (o : Nat) u, arr[o]? = some u → (G.leave w nb nt nm' ot bs).fr c o = some u) := by
  obtain ⟨hb1, hb2, hb3, hb4⟩ := s.bases _ hmem
  simp only at hb1 hb2 hb3 hb4
  have hφ : ∀ b c, (G.leave w nb nt nm' ot bs).φ b = some c → b < nb ∧ G.φ b = some c := fun b c hq => by
    simp only [Ghost.leave] at hq; split at hq
    · exact ⟨by assumption, hq⟩
    · cases hq
  have hmp : ∀ b c, (G.leave w nb nt nm' ot bs).mp b = some c → b < nm' ∧ G.mp b = some c := fun b c hq => by
    simp only [Ghost.leave] at hq; split at hq
    · exact ⟨by assumption, hq⟩
    · cases hq
  have htk : ∀ t m x, (G.leave w nb nt nm' ot bs).tk t m = some x → (t < nt ∧ G.tk t m = some x) ∨ (t = nt ∧ ∃ t0, ot = some (t0, m) ∧ G.tk t0 m = some x) := fun t m x hq => by
    simp only [Ghost.leave] at hq; split at hq
    · exact .inl ⟨by assumption, hq⟩
    · split at hq
      · rename_i t0 N
        split at hq
        · rename_i hc; obtain ⟨rfl, rfl⟩ := hc; exact .inr ⟨rfl, t0, rfl, hq⟩
        · cases hq
      · cases hq
  have hlent : (h.toks.take nt).length = nt := by simp; omega
  have htoks : ∀ t m, (h.toks.take nt ++ newToks ot)[t]? = some m → (t < nt ∧ h.toks[t]? = some m) ∨ (t = nt ∧ ∃ t0, ot = some (t0, m) ∧ nt ≤ t0 ∧ h.toks[t0]? = some m) := fun t m hq => by
    by_cases ht : t < nt
    · rw [List.getElem?_append_left (by omega), List.getElem?_take, if_pos ht] at hq
      exact .inl ⟨ht, hq⟩
    · rw [List.getElem?_append_right (by omega), hlent] at hq
      cases hopt : ot with
      | none => rw [hopt] at hq; simp [newToks] at hq
      | some p =>
        obtain ⟨t0, N⟩ := p
        rw [hopt] at hq
        simp only [newToks] at hq
        have h0 : t - nt = 0 := by
          have := (List.getElem?_eq_some_iff.1 hq).1
          simp at this; omega
        rw [h0] at hq
        simp at hq; subst hq
        exact .inr ⟨by omega, t0, rfl, hot t0 N hopt⟩
  have hle : G.LeBelow nb nt nm' (G.leave w nb nt nm' ot bs) := by
    refine ⟨fun b c hb hq => ?_, fun c o v hq => ?_, fun t n x ht hq => ?_, fun m c hm hq => ?_⟩
    · simp only [Ghost.leave, if_pos hb]; exact hq
    · simp only [Ghost.leave]
      split
      · exact s.fr c o v hq
      · exact hq
    · simp only [Ghost.leave, if_pos ht]; exact hq
    · simp only [Ghost.leave, if_pos hm]; exact hq
  have hfr : ∀ c, (∀ b, nb ≤ b → G.φ b ≠ some c) → ∀ o, (G.leave w nb nt nm' ot bs).fr c o = G.fr c o := fun c hc o => by
    simp only [Ghost.leave]; rw [if_neg]; rintro ⟨b, h1, h2⟩; exact hc b h1 h2
  refine ⟨⟨⟨fun b c hq => ?_, fun t n x hq => ?_, fun m c hq => ?_⟩, ?_, ?_, ?_, ?_, ?_, ?_, ?_, ?_, ?_, ?_, ?_⟩, hle, ?_, ?_⟩
  · have := (hφ b c hq).1; simp; omega
  · simp only [List.length_append, hlent]
    rcases htk t n x hq with ⟨h1, _⟩ | ⟨rfl, t0, h1, _⟩
    · omega
    · simp [h1, newToks]
  · have := (hmp m c hq).1; simp; omega
  · intro b c hq
    obtain ⟨h1, h2⟩ := hφ b c hq
    obtain ⟨cs, arr, e, h3, h4, h5⟩ := s.blk b c h2
    refine ⟨cs, arr, e, by rw [List.getElem?_take, if_pos h1]; exact h3, h4, VRels.below hle _ _ ?_ h5⟩
    exact AV.bnds_mono (Nat.le_refl _) (Nat.le_refl _) hm1 _ (hb4 b c cs h2 h1 h3)
  · intro t n hq
    rcases htoks t n hq with ⟨h1, h2⟩ | ⟨rfl, t0, h1, h2, h3⟩
    · obtain ⟨c, cap, size, cur, e, k1, k2, k3, k4, k5, k6⟩ := s.tok t n h2
      refine ⟨c, cap, size, cur, e, hle.tk _ _ _ h1 k1, k2, k3, k4, k5, fun o v hv => k6 o v ?_⟩
      rwa [hfr c (fun b _ hb => s.φtk b c t n cap size hb h2 k1)] at hv
    · obtain ⟨c, cap, size, cur, e, k1, k2, k3, k4, k5, k6⟩ := s.tok t0 n h3
      refine ⟨c, cap, size, cur, e, ?_, k2, k3, k4, k5, fun o v hv => k6 o v ?_⟩
      · simp only [Ghost.leave, Nat.lt_irrefl, if_false, h1, and_self, if_true]; exact k1
      · rwa [hfr c (fun b _ hb => s.φtk b c t0 n cap size hb h3 k1)] at hv
  · intro m c hq
    obtain ⟨h1, h2⟩ := hmp m c hq
    obtain ⟨M, es, ck, h3, h4, hMok, M', h5, h6, h7, h8⟩ := s.map m c h2
    refine ⟨M, es, ck, by rw [List.getElem?_take, if_pos h1]; exact h3, h4, hMok, M', h5, h6, fun i kv e q1 q2 => ?_, h8⟩
    have hin := hMok.2 kv (h5.mem_iff.1 (List.mem_of_getElem? q1))
    obtain ⟨r1, r2⟩ := h7 i kv e q1 q2
    exact ⟨VRel.below hle _ _ (AV.bnd_mono (Nat.zero_le _) (Nat.zero_le _) (Nat.zero_le _) _ (key_bnd hin.1)) r1, VRel.below hle _ _ (AV.bnd_mono (Nat.zero_le _) (Nat.zero_le _) (Nat.zero_le _) _ hin.2) r2⟩
  · intro c o v hq
    simp only [Ghost.leave] at hq
    split at hq
    · exact hq
    · exact s.fr c o v hq
  · intro b b' c h1 h2
    exact s.injφ b b' c (hφ b c h1).2 (hφ b' c h2).2
  · intro b c o hq
    obtain ⟨h1, h2⟩ := hφ b c hq
    rw [hfr c (fun b' hb' hq' => by have := s.injφ b b' c h2 hq'; omega)]
    exact s.φfr b c o h2
  · intro b c t n cap sz hq ht hk
    obtain ⟨h1, h2⟩ := hφ b c hq
    rcases htoks t n ht with ⟨g1, g2⟩ | ⟨rfl, t0, g1, g2, g3⟩
    · rcases htk t n _ hk with ⟨_, k2⟩ | ⟨k1, _⟩
      · exact s.φtk b c t n cap sz h2 g2 k2
      · omega
    · rcases htk t n _ hk with ⟨k1, _⟩ | ⟨_, t1, k1, k2⟩
      · omega
      · rw [g1] at k1; cases k1
        exact s.φtk b c t0 n cap sz h2 g3 k2
  · intro t n x hq cur hc
    rcases htoks t cur hc with ⟨g1, g2⟩ | ⟨rfl, t0, g1, g2, g3⟩
    · rcases htk t n _ hq with ⟨_, k2⟩ | ⟨k1, _⟩
      · exact s.tkle t n x k2 cur g2
      · omega
    · rcases htk t n _ hq with ⟨k1, _⟩ | ⟨_, t1, k1, k2⟩
      · omega
      · rw [g1] at k1; cases k1; exact Nat.le_refl _
  · intro t t' n n' c cap sz cap' sz' h1 h2 h3 h4
    rcases htoks t n h1 with ⟨g1, g2⟩ | ⟨rfl, t0, g1, g2, g3⟩ <;> rcases htoks t' n' h2 with ⟨g1', g2'⟩ | ⟨rfl, t0', g1', g2', g3'⟩
    · rcases htk t n _ h3 with ⟨_, k2⟩ | ⟨k1, _⟩
      · rcases htk t' n' _ h4 with ⟨_, k2'⟩ | ⟨k1, _⟩
        · exact s.injtk t t' n n' c cap sz cap' sz' g2 g2' k2 k2'
        · omega
      · omega
    · rcases htk t n _ h3 with ⟨_, k2⟩ | ⟨k1, _⟩
      · rcases htk _ n' _ h4 with ⟨k1, _⟩ | ⟨_, t1, k1, k2'⟩
        · omega
        · rw [g1'] at k1; cases k1
          have := s.injtk t t0' n n' c cap sz cap' sz' g2 g3' k2 k2'
          omega
      · omega
    · rcases htk t' n' _ h4 with ⟨_, k2'⟩ | ⟨k1, _⟩
      · rcases htk _ n _ h3 with ⟨k1, _⟩ | ⟨_, t1, k1, k2⟩
        · omega
        · rw [g1] at k1; cases k1
          have := s.injtk t0 t' n n' c cap sz cap' sz' g3 g2' k2 k2'
          omega
      · omega
    · rfl
  · intro m m' c h1 h2
    exact s.injmp m m' c (hmp m c h1).2 (hmp m' c h2).2
  · intro β hβ
    obtain ⟨h1, h2, h3, h4⟩ := hbs β hβ
    obtain ⟨k1, k2, k3, k4⟩ := s.bases β h1
    refine ⟨by simp; omega, by simp only [List.length_append, hlent]; omega, by simp; omega, fun b c cs hq hb hcs => ?_⟩
    obtain ⟨q1, q2⟩ := hφ b c hq
    rw [List.getElem?_take, if_pos q1] at hcs
    exact k4 b c cs q2 hb hcs
  · intro c ho
    rcases ho with ⟨b, hb⟩ | ⟨t, n, cap, sz, ht, hk⟩ | ⟨m, hm⟩
    · exact .inl ⟨b, (hφ b c hb).2⟩
    · rcases htoks t n ht with ⟨g1, g2⟩ | ⟨rfl, t0, g1, g2, g3⟩
      · rcases htk t n _ hk with ⟨_, k2⟩ | ⟨k1, _⟩
        · exact .inr (.inl ⟨t, n, cap, sz, g2, k2⟩)
        · omega
      · rcases htk _ n _ hk with ⟨k1, _⟩ | ⟨_, t1, k1, k2⟩
        · omega
        · rw [g1] at k1; cases k1
          exact .inr (.inl ⟨t0, n, cap, sz, g3, k2⟩)
    · exact .inr (.inr ⟨m, (hmp m c hm).2⟩)
  · intro b c arr e f hb hq hh o u hu
    simp only [Ghost.leave]
    rw [if_pos ⟨b, hb, hq⟩]
    simpa [World.cell?, hh] using hu

/-- frozen values stand for what they stood for -/
theorem frz_rel (s : SRel G h w) {G' : Ghost} {nb nt nm : Nat} (hle : G.LeBelow nb nt nm G') (hfz : ∀ b c arr e f, nb ≤ b → G.φ b = some c → w.heap[c]? = some (.cells arr e f) → ∀ (o : Nat) u, arr[o]? = some u → G'.fr c o = some u) :
    ∀ (k : Nat) (v : AV) (u : Value), VRel G v u → (frz nb nt h k v).bnd nb nt nm = true → VRel G' (frz nb nt h k v) u := by
  intro k
  induction k with
  | zero => intro v u _ _; simp [frz, VRel]
  | succ k ih =>
    have ihs : ∀ (cs : List AV) (us : List Value), VRels G cs us → AV.bnds nb nt nm (cs.map (frz nb nt h k)) = true → VRels G' (cs.map (frz nb nt h k)) us := by
      intro cs
      induction cs with
      | nil => intro us hv _; simpa [VRels] using hv
      | cons c cs ihc =>
        intro us hv hb
        simp only [VRels] at hv
        obtain ⟨u, us', rfl, h1, h2⟩ := hv
        simp only [List.map_cons, AV.bnds, Bool.and_eq_true] at hb
        simp only [List.map_cons, VRels]
        exact ⟨u, us', rfl, ih c u h1 hb.1, ihc us' h2 hb.2⟩
    intro v u hv hb
    cases v
    case agg cs =>
      simp only [frz, AV.bnd, VRel] at hv hb ⊢
      obtain ⟨vs, rfl, hs⟩ := hv
      exact ⟨vs, rfl, ihs cs _ hs hb⟩
    case tup cs =>
      simp only [frz, AV.bnd, VRel] at hv hb ⊢
      obtain ⟨vs, rfl, hs⟩ := hv
      exact ⟨vs, rfl, ihs cs _ hs hb⟩
    case cptr cs =>
      simp only [frz, AV.bnd, VRel] at hv hb ⊢
      obtain ⟨c, o, vs, rfl, hs, hf⟩ := hv
      exact ⟨c, o, vs, rfl, ihs cs _ hs hb, fun i u hu => hle.fr _ _ _ (hf i u hu)⟩
    case fn f a b =>
      simp only [frz, AV.bnd, VRel, Bool.and_eq_true] at hv hb ⊢
      obtain ⟨fs, cs, rfl, h1, h2⟩ := hv
      exact ⟨fs, cs, rfl, ihs a _ h1 hb.1, ihs b _ h2 hb.2⟩
    case sl cs n r =>
      simp only [VRel] at hv
      rcases hv with ⟨rfl, rfl, rfl, rfl⟩ | ⟨c, o, cap, vs, rfl, h1, h2, h3, h4, h5⟩
      · simp [frz, VRel]
      · have hbs : AV.bnds nb nt nm (cs.map (frz nb nt h k)) = true := by
          cases r <;> simp only [frz, AV.bnd, Bool.and_eq_true] at hb <;> exact hb.2
        have hcs := ihs cs vs h4 hbs
        have hfr : ∀ (i : Nat) (u : Value), vs[i]? = some u → G'.fr c (o + i) = some u := fun i u hu => hle.fr _ _ _ (h5 i u hu)
        cases r <;> simp only [frz, VRel] <;> refine .inr ⟨c, o, cap, vs, rfl, h1, h2, ?_, hcs, hfr⟩
        · exact h3
        · exact h3
        · trivial
        · rename_i t z
          split
          · rename_i ht
            exact ⟨h3.1, hle.tk _ _ _ ht h3.2⟩
          · trivial
    case msl b o n cap z =>
      simp only [VRel] at hv
      obtain ⟨c, h1, rfl, h2, h3⟩ := hv
      simp only [frz] at hb ⊢
      split at hb
      · rename_i hlt
        rw [if_pos hlt]
        simp only [VRel]
        exact ⟨c, hle.φ _ _ hlt h1, rfl, h2, h3⟩
      · rename_i hlt
        rw [if_neg hlt]
        obtain ⟨cs, arr, e, k1, k2, k3⟩ := s.blk b c h1
        simp only [k1, AV.bnd, Bool.and_eq_true] at hb ⊢
        simp only [VRel]
        refine .inr ⟨c, o, cap, (arr.toList.drop o).take (n * z), rfl, h2, h3, ?_, ihs _ _ ((k3.drop o).take _) hb.2, fun i u hu => ?_⟩
        · split
          · rename_i hc; exact hc
          · trivial
        · rw [List.getElem?_take] at hu
          split at hu
          · rw [List.getElem?_drop] at hu
            exact hfz b c arr e (0, 0) (by omega) h1 k2 (o + i) u (by simpa using hu)
          · cases hu
    case ptr b o =>
      simp only [frz] at hb ⊢
      exact VRel.below hle _ _ hb hv
    case map m =>
      simp only [frz] at hb ⊢
      exact VRel.below hle _ _ hb hv
    case top => simp [frz, VRel]
    all_goals (simp only [frz, VRel] at hv ⊢; exact hv)
end
end Go.VM
