/- Calls out of nothing: what holds in an empty heap holds in every one. -/
import Derived.Test.YtbadfaiepgfpdaaVmM5
namespace Go.VM

def H.nil : H := ⟨[], [], []⟩

def Room.shift (dt : Nat) : Room → Room
  | .tok t z => .tok (t + dt) z
  | r => r
mutual
def AV.shift (dt dm : Nat) : AV → AV
  | .agg cs => .agg (AV.shifts dt dm cs)
  | .tup cs => .tup (AV.shifts dt dm cs)
  | .cptr cs => .cptr (AV.shifts dt dm cs)
  | .sl cs n r => .sl (AV.shifts dt dm cs) n (r.shift dt)
  | .map m => .map (m + dm)
  | .fn f a b => .fn f (AV.shifts dt dm a) (AV.shifts dt dm b)
  | v => v
def AV.shifts (dt dm : Nat) : List AV → List AV
  | [] => []
  | a :: as => AV.shift dt dm a :: AV.shifts dt dm as
end

section
variable {P : Program} {G : Ghost} {w : World}

structure Ghost.Moved (dt dm : Nat) (G G' : Ghost) : Prop where
  φ : ∀ b, G.φ b = none
  fr : ∀ c o v, G.fr c o = some v → G'.fr c o = some v
  tk : ∀ t n x, G.tk t n = some x → G'.tk (t + dt) n = some x
  mp : ∀ m c, G.mp m = some c → G'.mp (m + dm) = some c

theorem RoomOk.moved {G G' : Ghost} {dt dm : Nat} (h : G.Moved dt dm G') {r : Room} {c o n cap : Nat} (hr : RoomOk G r c o n cap) : RoomOk G' (r.shift dt) c o n cap := by
  cases r <;> simp only [RoomOk, Room.shift] at *
  · exact hr
  · exact ⟨hr.1, h.tk _ _ _ hr.2⟩

mutual
theorem VRel.moved {G G' : Ghost} {dt dm : Nat} (h : G.Moved dt dm G') : ∀ (a : AV) (v : Value), VRel G a v → VRel G' (a.shift dt dm) v
  | .bool _, _, hv | .int _ _, _, hv | .str _, _, hv | .nilP, _, hv | .nilM, _, hv | .nilF, _, hv | .nilI, _, hv | .top, _, hv => by first | (simp only [AV.shift, VRel]; done) | (simp only [AV.shift, VRel] at hv ⊢; exact hv)
  | .agg cs, v, hv => by
    simp only [VRel, AV.shift] at *
    obtain ⟨vs, e, hs⟩ := hv; exact ⟨vs, e, VRels.moved h cs _ hs⟩
  | .tup cs, v, hv => by
    simp only [VRel, AV.shift] at *
    obtain ⟨vs, e, hs⟩ := hv; exact ⟨vs, e, VRels.moved h cs _ hs⟩
  | .ptr b o, v, hv => by
    simp only [VRel] at hv
    obtain ⟨c, e, _⟩ := hv; rw [h.φ] at e; cases e
  | .cptr cs, v, hv => by
    simp only [VRel, AV.shift] at *
    obtain ⟨c, o, vs, e, hs, hf⟩ := hv; exact ⟨c, o, vs, e, VRels.moved h cs _ hs, fun i u hu => h.fr _ _ _ (hf i u hu)⟩
  | .sl cs n r, v, hv => by
    simp only [VRel, AV.shift] at *
    rcases hv with ⟨rfl, rfl, h1, h2⟩ | ⟨c, o, cap, vs, e, h1, h2, h3, hs, hf⟩
    · exact .inl ⟨rfl, rfl, h1, h2⟩
    · exact .inr ⟨c, o, cap, vs, e, h1, h2, h3.moved h, VRels.moved h cs _ hs, fun i u hu => h.fr _ _ _ (hf i u hu)⟩
  | .msl b o n cap z, v, hv => by
    simp only [VRel] at hv
    obtain ⟨c, e, _⟩ := hv; rw [h.φ] at e; cases e
  | .map m, v, hv => by
    simp only [VRel, AV.shift] at *
    obtain ⟨c, e, hs⟩ := hv; exact ⟨c, h.mp _ _ e, hs⟩
  | .fn f a b, v, hv => by
    simp only [VRel, AV.shift] at *
    obtain ⟨fs, cs, e, h1, h2⟩ := hv; exact ⟨fs, cs, e, VRels.moved h a _ h1, VRels.moved h b _ h2⟩
theorem VRels.moved {G G' : Ghost} {dt dm : Nat} (h : G.Moved dt dm G') : ∀ (as : List AV) (vs : List Value), VRels G as vs → VRels G' (AV.shifts dt dm as) vs
  | [], _, hv => by simpa only [AV.shifts, VRels] using hv
  | a :: as, vs, hv => by
    simp only [VRels, AV.shifts] at *
    obtain ⟨v, vs', e, h1, h2⟩ := hv; exact ⟨v, vs', e, VRel.moved h a v h1, VRels.moved h as vs' h2⟩
end

mutual
theorem AV.shift_pure {dt dm : Nat} : ∀ a : AV, a.bnd 0 0 0 = true → a.shift dt dm = a
  | .bool _, _ | .int _ _, _ | .str _, _ | .nilP, _ | .nilM, _ | .nilF, _ | .nilI, _ | .top, _ => by simp only [AV.shift]
  | .agg cs, h | .tup cs, h | .cptr cs, h => by simp only [AV.bnd] at h; simp only [AV.shift, AV.shifts_pure cs h]
  | .ptr b o, h => by simp [AV.bnd] at h
  | .msl b _ _ _ _, h => by simp [AV.bnd] at h
  | .map m, h => by simp [AV.bnd] at h
  | .sl cs n r, h => by
    simp only [AV.bnd, Bool.and_eq_true] at h
    simp only [AV.shift, AV.shifts_pure cs h.2]
    have := h.1
    cases r <;> simp [Room.bnd, Room.shift] at this ⊢
  | .fn f a b, h => by simp only [AV.bnd, Bool.and_eq_true] at h; simp only [AV.shift, AV.shifts_pure a h.1, AV.shifts_pure b h.2]
theorem AV.shifts_pure {dt dm : Nat} : ∀ as : List AV, AV.bnds 0 0 0 as = true → AV.shifts dt dm as = as
  | [], _ => by simp only [AV.shifts]
  | a :: as, h => by simp only [AV.bnds, Bool.and_eq_true] at h; simp only [AV.shifts, AV.shift_pure a h.1, AV.shifts_pure as h.2]
end

theorem frame_call {f : FuncId} {args : List AV} {v : AV} {ts : List Nat} {ms : List (List (AV × AV))} (hc : CallOk P f args .nil v ⟨[], ts, ms⟩) (ha : AV.bnds 0 0 0 args = true) (h : H) :
    CallOk P f args h (v.shift h.toks.length h.maps.length) ⟨h.blk, h.toks ++ ts, h.maps ++ ms⟩ := by
  intro G w vs s hr
  let G0 : Ghost := ⟨fun _ => none, G.fr, fun _ _ => none, fun _ => none, []⟩
  have hle0 : G.LeBelow 0 0 0 G0 := ⟨fun b c hb => absurd hb (Nat.not_lt_zero _), fun _ _ _ h => h, fun t n x ht => absurd ht (Nat.not_lt_zero _), fun m c hm => absurd hm (Nat.not_lt_zero _)⟩
  have s0 : SRel G0 .nil w := by
    constructor
    case dom => exact ⟨(by intro _ _ h; cases h), (by intro _ _ _ h; cases h), (by intro _ _ h; cases h)⟩
    case fr => exact s.fr
    case blk => intro _ _ h; cases h
    case tok => intro t n ht; simp [H.nil] at ht
    case map => intro _ _ h; cases h
    case injφ => intro _ _ _ h; cases h
    case φfr => intro _ _ _ h; cases h
    case φtk => intro _ _ _ _ _ _ h; cases h
    case tkle => intro _ _ _ h; cases h
    case injtk => intro t t' n n' c cap sz cap' sz' ht; simp [H.nil] at ht
    case injmp => intro _ _ _ h; cases h
    case bases => intro _ h; cases h
  have hown0 : ∀ c, ¬ Own G0 .nil c := fun c ho => by
    rcases ho with ⟨b, hb⟩ | ⟨t, n, cap, sz, ht, _⟩ | ⟨m, hm⟩
    · cases hb
    · simp [H.nil] at ht
    · cases hm
  refine (hc G0 w vs s0 (VRels.below hle0 _ _ ha hr)).mono ?_
  rintro e w' ⟨G1, u, rfl, st, s1, hv⟩
  have hφ1 : ∀ b, G1.φ b = none := fun b => by
    cases hb : G1.φ b with
    | none => rfl
    | some c => exact absurd (s1.dom.φ b c hb) (Nat.not_lt_zero _)
  have hsame : ∀ c, c < w.heap.size → w'.heap[c]? = w.heap[c]? := fun c hc => st.keep c hc (hown0 c)
  have hnew : ∀ c, Own G1 ⟨[], ts, ms⟩ c → w.heap.size ≤ c := fun c ho => (st.own c ho).resolve_left (hown0 c)
  have hfr : ∀ c o x, G1.fr c o = some x → G.fr c o = some x ∨ w.heap.size ≤ c := fun c o x hx => by
    rcases st.frnew c o x hx with q | q | q
    · exact .inl q
    · exact .inr q
    · exact absurd q (hown0 c)
  let G2 : Ghost := ⟨G.φ, G1.fr, fun t n => if t < h.toks.length then G.tk t n else G1.tk (t - h.toks.length) n, fun m => if m < h.maps.length then G.mp m else G1.mp (m - h.maps.length), G.bases⟩
  have hle : G.Le G2 := by
    refine ⟨fun _ _ h => h, fun c o x hx => st.le.fr c o x hx, fun t n x hx => ?_, fun m c hm => ?_⟩
    · simp only [G2, if_pos (s.dom.tk t n x hx)]; exact hx
    · simp only [G2, if_pos (s.dom.mp m c hm)]; exact hm
  have hmoved : G1.Moved h.toks.length h.maps.length G2 := by
    refine ⟨hφ1, fun _ _ _ h => h, fun t n x hx => ?_, fun m c hm => ?_⟩
    · simp only [G2]; rw [if_neg (by omega), Nat.add_sub_cancel]; exact hx
    · simp only [G2]; rw [if_neg (by omega), Nat.add_sub_cancel]; exact hm
  have hle1 : G1.LeBelow 0 0 0 G2 := ⟨fun b c hb => absurd hb (Nat.not_lt_zero _), fun _ _ _ h => h, fun t n x ht => absurd ht (Nat.not_lt_zero _), fun m c hm => absurd hm (Nat.not_lt_zero _)⟩
  have htk : ∀ t n x, G2.tk t n = some x → (t < h.toks.length ∧ G.tk t n = some x) ∨ (h.toks.length ≤ t ∧ G1.tk (t - h.toks.length) n = some x) := fun t n x hx => by
    by_cases ht : t < h.toks.length
    · simp only [G2, if_pos ht] at hx; exact .inl ⟨ht, hx⟩
    · simp only [G2, if_neg ht] at hx; exact .inr ⟨by omega, hx⟩
  have hmp : ∀ m c, G2.mp m = some c → (m < h.maps.length ∧ G.mp m = some c) ∨ (h.maps.length ≤ m ∧ G1.mp (m - h.maps.length) = some c) := fun m c hx => by
    by_cases ht : m < h.maps.length
    · simp only [G2, if_pos ht] at hx; exact .inl ⟨ht, hx⟩
    · simp only [G2, if_neg ht] at hx; exact .inr ⟨by omega, hx⟩
  have htoks : ∀ t n, (h.toks ++ ts)[t]? = some n → (t < h.toks.length ∧ h.toks[t]? = some n) ∨ (h.toks.length ≤ t ∧ ts[t - h.toks.length]? = some n) := fun t n hx => by
    by_cases ht : t < h.toks.length
    · rw [List.getElem?_append_left ht] at hx; exact .inl ⟨ht, hx⟩
    · rw [List.getElem?_append_right (by omega)] at hx; exact .inr ⟨by omega, hx⟩
  have tok_old : ∀ t n c cap sz, h.toks[t]? = some n → G.tk t n = some (c, cap, sz) → c < w.heap.size := fun t n c cap sz h1 h2 => s.own_lt (.inr (.inl ⟨t, n, cap, sz, h1, h2⟩))
  have tok_new : ∀ t n c cap sz, ts[t]? = some n → G1.tk t n = some (c, cap, sz) → w.heap.size ≤ c := fun t n c cap sz h1 h2 => hnew c (.inr (.inl ⟨t, n, cap, sz, h1, h2⟩))
  refine ⟨G2, u, rfl, ?_, ?_, VRel.moved hmoved _ _ hv⟩
  · refine ⟨hle, st.os, st.tape, st.output, st.size, fun c hc _ => hsame c hc, fun c ho => ?_, rfl, ⟨fun _ _ h _ => h, Nat.le_refl _⟩, fun c o x hx => (hfr c o x hx).imp id .inl⟩
    rcases ho with ⟨b, hb⟩ | ⟨t, n, cap, sz, ht, hk⟩ | ⟨m, hm⟩
    · exact .inl (.inl ⟨b, hb⟩)
    · rcases htoks t n ht with ⟨g1, g2⟩ | ⟨g1, g2⟩ <;> rcases htk t n _ hk with ⟨k1, k2⟩ | ⟨k1, k2⟩
      · exact .inl (.inr (.inl ⟨t, n, cap, sz, g2, k2⟩))
      · omega
      · omega
      · exact .inr (tok_new _ n c cap sz g2 k2)
    · rcases hmp m c hm with ⟨_, k2⟩ | ⟨_, k2⟩
      · exact .inl (.inr (.inr ⟨m, k2⟩))
      · exact .inr (hnew c (.inr (.inr ⟨_, k2⟩)))
  · refine ⟨⟨s.dom.φ, fun t n x hx => ?_, fun m c hm => ?_⟩, fun b c hb => ?_, fun t n ht => ?_, fun m c hm => ?_, s1.fr, s.injφ, fun b c o hb => ?_, fun b c t n cap sz hb ht hk => ?_, fun t n x hx cur hcur => ?_, fun t t' n n' c cap sz cap' sz' h1 h2 h3 h4 => ?_, fun m m' c h1 h2 => ?_, fun β hβ => ?_⟩
    · simp only [List.length_append]
      rcases htk t n x hx with ⟨k1, _⟩ | ⟨k1, k2⟩
      · omega
      · have := s1.dom.tk _ n x k2; simp only at this; omega
    · simp only [List.length_append]
      rcases hmp m c hm with ⟨k1, _⟩ | ⟨k1, k2⟩
      · omega
      · have := s1.dom.mp _ c k2; simp only at this; omega
    · obtain ⟨cs, arr, e, h1, h2, h3⟩ := s.blk b c hb
      exact ⟨cs, arr, e, h1, by rw [hsame c (lt_of_get h2)]; exact h2, VRels.mono hle _ _ h3⟩
    · rcases htoks t n ht with ⟨g1, g2⟩ | ⟨g1, g2⟩
      · obtain ⟨c, cap, size, cur, e, k1, k2, k3, k4, k5, k6⟩ := s.tok t n g2
        refine ⟨c, cap, size, cur, e, hle.tk _ _ _ k1, by rw [hsame c (lt_of_get k2)]; exact k2, k3, k4, k5, fun o x hx => ?_⟩
        rcases hfr c o x hx with q | q
        · exact k6 o x q
        · have := lt_of_get k2; omega
      · obtain ⟨c, cap, size, cur, e, k1, k2, k3⟩ := s1.tok _ n g2
        refine ⟨c, cap, size, cur, e, ?_, k2, k3⟩
        simp only [G2]; rw [if_neg (by omega)]; exact k1
    · rcases hmp m c hm with ⟨k1, k2⟩ | ⟨k1, k2⟩
      · obtain ⟨M, es, ck, q1, q2, q3⟩ := s.map m c k2
        exact ⟨M, es, ck, by simp only; rw [List.getElem?_append_left k1]; exact q1, by rw [hsame c (lt_of_get q2)]; exact q2, q3.mono hle⟩
      · obtain ⟨M, es, ck, q1, q2, hMok, M', q3, q4, q5, q6⟩ := s1.map _ c k2
        refine ⟨M, es, ck, by simp only; rw [List.getElem?_append_right k1]; exact q1, q2, hMok, M', q3, q4, fun i kv e g1 g2 => ?_, q6⟩
        have hin := hMok.2 kv (q3.mem_iff.1 (List.mem_of_getElem? g1))
        obtain ⟨r1, r2⟩ := q5 i kv e g1 g2
        exact ⟨VRel.below hle1 _ _ (key_bnd hin.1) r1, VRel.below hle1 _ _ hin.2 r2⟩
    · cases hq : G2.fr c o with
      | none => rfl
      | some x =>
        rcases hfr c o x hq with q | q
        · rw [s.φfr b c o hb] at q; cases q
        · have := s.own_lt (.inl ⟨b, hb⟩); omega
    · rcases htoks t n ht with ⟨g1, g2⟩ | ⟨g1, g2⟩ <;> rcases htk t n _ hk with ⟨k1, k2⟩ | ⟨k1, k2⟩
      · exact s.φtk b c t n cap sz hb g2 k2
      · omega
      · omega
      · have h1 := tok_new _ n c cap sz g2 k2
        have h2 := s.own_lt (.inl ⟨b, hb⟩)
        omega
    · rcases htoks t cur hcur with ⟨g1, g2⟩ | ⟨g1, g2⟩ <;> rcases htk t n _ hx with ⟨k1, k2⟩ | ⟨k1, k2⟩
      · exact s.tkle t n x k2 cur g2
      · omega
      · omega
      · exact s1.tkle _ n x k2 cur g2
    · rcases htoks t n h1 with ⟨g1, g2⟩ | ⟨g1, g2⟩ <;> rcases htk t n _ h3 with ⟨k1, k2⟩ | ⟨k1, k2⟩ <;> rcases htoks t' n' h2 with ⟨g1', g2'⟩ | ⟨g1', g2'⟩ <;> rcases htk t' n' _ h4 with ⟨k1', k2'⟩ | ⟨k1', k2'⟩ <;> first
        | omega
        | exact s.injtk t t' n n' c cap sz cap' sz' g2 g2' k2 k2'
        | (have a1 := tok_old _ _ _ _ _ g2 k2; have a2 := tok_new _ _ _ _ _ g2' k2'; omega)
        | (have a1 := tok_new _ _ _ _ _ g2 k2; have a2 := tok_old _ _ _ _ _ g2' k2'; omega)
        | (have := s1.injtk _ _ n n' c cap sz cap' sz' g2 g2' k2 k2'; omega)
    · rcases hmp m c h1 with ⟨k1, k2⟩ | ⟨k1, k2⟩ <;> rcases hmp m' c h2 with ⟨k1', k2'⟩ | ⟨k1', k2'⟩
      · exact s.injmp m m' c k2 k2'
      · have a1 := s.own_lt (.inr (.inr ⟨_, k2⟩)); have a2 := hnew c (.inr (.inr ⟨_, k2'⟩)); omega
      · have a1 := s.own_lt (.inr (.inr ⟨_, k2'⟩)); have a2 := hnew c (.inr (.inr ⟨_, k2⟩)); omega
      · have := s1.injmp _ _ c k2 k2'; omega
    · obtain ⟨b1, b2, b3, b4⟩ := s.bases β hβ
      exact ⟨b1, by simp; omega, by simp; omega, b4⟩

theorem pure_call {f : FuncId} {args : List AV} {v : AV} (hc : CallOk P f args .nil v .nil) (ha : AV.bnds 0 0 0 args = true) (hv : v.bnd 0 0 0 = true) (h : H) : CallOk P f args h v h := by
  have := frame_call (ts := []) (ms := []) hc ha h
  rw [AV.shift_pure v hv] at this
  simpa using this
end
end Go.VM
