/- The abstract heap, its relation to the model's world, and steps. -/
import Derived.Test.YtbadfaiepgfpdaaVmA
namespace Go.VM

structure H where
  blk : List (List AV)
  toks : List Nat
  maps : List (List (AV × AV))
  deriving Inhabited

def Room.bnd (nt : Nat) : Room → Bool
  | .tok t _ => decide (t < nt)
  | _ => true

mutual
def AV.bnd (nb nt nm : Nat) : AV → Bool
  | .agg cs | .tup cs | .cptr cs => AV.bnds nb nt nm cs
  | .ptr b _ => decide (b < nb)
  | .sl cs _ r => r.bnd nt && AV.bnds nb nt nm cs
  | .msl b _ _ _ _ => decide (b < nb)
  | .map m => decide (m < nm)
  | .fn _ a b => AV.bnds nb nt nm a && AV.bnds nb nt nm b
  | _ => true
def AV.bnds (nb nt nm : Nat) : List AV → Bool
  | [] => true
  | a :: as => AV.bnd nb nt nm a && AV.bnds nb nt nm as
end

/-- keys of maps -/
def AV.key1 : AV → Bool
  | .bool _ | .int _ _ | .str _ => true
  | _ => false
def AV.key : AV → Bool
  | .agg cs => cs.all AV.key1
  | a => a.key1

/-- one cell -/
def AV.one : AV → Bool
  | .agg _ | .tup _ | .top => false
  | _ => true

structure Dom (G : Ghost) (nb nt nm : Nat) : Prop where
  φ : ∀ b c, G.φ b = some c → b < nb
  tk : ∀ t n x, G.tk t n = some x → t < nt
  mp : ∀ m c, G.mp m = some c → m < nm

theorem RoomOk.bnd {G : Ghost} {nb nt nm : Nat} (d : Dom G nb nt nm) {r : Room} {c o n cap : Nat} (h : RoomOk G r c o n cap) : r.bnd nt = true := by
  cases r <;> simp only [RoomOk, Room.bnd] at *
  simp [d.tk _ _ _ h.2]

mutual
theorem VRel.bnd {G : Ghost} {nb nt nm : Nat} (d : Dom G nb nt nm) : ∀ (a : AV) (v : Value), VRel G a v → a.bnd nb nt nm = true
  | .bool _, _, _ | .int _ _, _, _ | .str _, _, _ | .nilP, _, _ | .nilM, _, _ | .nilF, _, _ | .nilI, _, _ | .top, _, _ => by simp only [AV.bnd]
  | .agg cs, v, h => by
    simp only [VRel, AV.bnd] at *
    obtain ⟨vs, _, hs⟩ := h; exact VRels.bnd d cs _ hs
  | .tup cs, v, h => by
    simp only [VRel, AV.bnd] at *
    obtain ⟨vs, _, hs⟩ := h; exact VRels.bnd d cs _ hs
  | .ptr b o, v, h => by
    simp only [VRel, AV.bnd] at *
    obtain ⟨c, e, _⟩ := h; simpa using d.φ _ _ e
  | .cptr cs, v, h => by
    simp only [VRel, AV.bnd] at *
    obtain ⟨c, o, vs, _, hs, _⟩ := h; exact VRels.bnd d cs _ hs
  | .sl cs n r, v, h => by
    simp only [VRel, AV.bnd] at *
    rcases h with ⟨rfl, rfl, _, _⟩ | ⟨c, o, cap, vs, _, _, _, h3, hs, _⟩
    · simp [Room.bnd, AV.bnds]
    · simp [h3.bnd d, VRels.bnd d cs _ hs]
  | .msl b o n cap z, v, h => by
    simp only [VRel, AV.bnd] at *
    obtain ⟨c, e, _⟩ := h; simpa using d.φ _ _ e
  | .map m, v, h => by
    simp only [VRel, AV.bnd] at *
    obtain ⟨c, e, _⟩ := h; simpa using d.mp _ _ e
  | .fn f a b, v, h => by
    simp only [VRel, AV.bnd] at *
    obtain ⟨fs, cs, _, h1, h2⟩ := h; simp [VRels.bnd d a _ h1, VRels.bnd d b _ h2]
theorem VRels.bnd {G : Ghost} {nb nt nm : Nat} (d : Dom G nb nt nm) : ∀ (as : List AV) (vs : List Value), VRels G as vs → AV.bnds nb nt nm as = true
  | [], _, _ => by simp only [AV.bnds]
  | a :: as, vs, h => by
    simp only [VRels, AV.bnds] at *
    obtain ⟨v, vs', _, h1, h2⟩ := h; simp [VRel.bnd d a v h1, VRels.bnd d as vs' h2]
end

/-- G' knows all that G knows below the bounds -/
structure Ghost.LeBelow (nb nt nm : Nat) (G G' : Ghost) : Prop where
  φ : ∀ b c, b < nb → G.φ b = some c → G'.φ b = some c
  fr : ∀ c o v, G.fr c o = some v → G'.fr c o = some v
  tk : ∀ t n x, t < nt → G.tk t n = some x → G'.tk t n = some x
  mp : ∀ m c, m < nm → G.mp m = some c → G'.mp m = some c

theorem RoomOk.below {G G' : Ghost} {nb nt nm : Nat} (h : G.LeBelow nb nt nm G') {r : Room} (hb : r.bnd nt = true) {c o n cap : Nat} (hr : RoomOk G r c o n cap) : RoomOk G' r c o n cap := by
  cases r <;> simp only [RoomOk, Room.bnd] at *
  · exact hr
  · exact ⟨hr.1, h.tk _ _ _ (by simpa using hb) hr.2⟩

mutual
theorem VRel.below {G G' : Ghost} {nb nt nm : Nat} (h : G.LeBelow nb nt nm G') : ∀ (a : AV) (v : Value), a.bnd nb nt nm = true → VRel G a v → VRel G' a v
  | .bool _, _, _, hv | .int _ _, _, _, hv | .str _, _, _, hv | .nilP, _, _, hv | .nilM, _, _, hv | .nilF, _, _, hv | .nilI, _, _, hv | .top, _, _, hv => by first | (simp only [VRel]; done) | (simp only [VRel] at hv ⊢; exact hv)
  | .agg cs, v, hb, hv => by
    simp only [VRel, AV.bnd] at *
    obtain ⟨vs, e, hs⟩ := hv; exact ⟨vs, e, VRels.below h cs _ hb hs⟩
  | .tup cs, v, hb, hv => by
    simp only [VRel, AV.bnd] at *
    obtain ⟨vs, e, hs⟩ := hv; exact ⟨vs, e, VRels.below h cs _ hb hs⟩
  | .ptr b o, v, hb, hv => by
    simp only [VRel, AV.bnd, decide_eq_true_eq] at *
    obtain ⟨c, e, hs⟩ := hv; exact ⟨c, h.φ _ _ hb e, hs⟩
  | .cptr cs, v, hb, hv => by
    simp only [VRel, AV.bnd] at *
    obtain ⟨c, o, vs, e, hs, hf⟩ := hv; exact ⟨c, o, vs, e, VRels.below h cs _ hb hs, fun i u hu => h.fr _ _ _ (hf i u hu)⟩
  | .sl cs n r, v, hb, hv => by
    simp only [VRel, AV.bnd, Bool.and_eq_true] at *
    rcases hv with hv | ⟨c, o, cap, vs, e, h1, h2, h3, hs, hf⟩
    · exact .inl hv
    · exact .inr ⟨c, o, cap, vs, e, h1, h2, h3.below h hb.1, VRels.below h cs _ hb.2 hs, fun i u hu => h.fr _ _ _ (hf i u hu)⟩
  | .msl b o n cap z, v, hb, hv => by
    simp only [VRel, AV.bnd, decide_eq_true_eq] at *
    obtain ⟨c, e, hs⟩ := hv; exact ⟨c, h.φ _ _ hb e, hs⟩
  | .map m, v, hb, hv => by
    simp only [VRel, AV.bnd, decide_eq_true_eq] at *
    obtain ⟨c, e, hs⟩ := hv; exact ⟨c, h.mp _ _ hb e, hs⟩
  | .fn f a b, v, hb, hv => by
    simp only [VRel, AV.bnd, Bool.and_eq_true] at *
    obtain ⟨fs, cs, e, h1, h2⟩ := hv; exact ⟨fs, cs, e, VRels.below h a _ hb.1 h1, VRels.below h b _ hb.2 h2⟩
theorem VRels.below {G G' : Ghost} {nb nt nm : Nat} (h : G.LeBelow nb nt nm G') : ∀ (as : List AV) (vs : List Value), AV.bnds nb nt nm as = true → VRels G as vs → VRels G' as vs
  | [], _, _, hv => by simpa only [VRels] using hv
  | a :: as, vs, hb, hv => by
    simp only [VRels, AV.bnds, Bool.and_eq_true] at *
    obtain ⟨v, vs', e, h1, h2⟩ := hv; exact ⟨v, vs', e, VRel.below h a v hb.1 h1, VRels.below h as vs' hb.2 h2⟩
end

mutual
theorem AV.bnd_mono {nb nt nm nb' nt' nm' : Nat} (hb : nb ≤ nb') (ht : nt ≤ nt') (hm : nm ≤ nm') : ∀ a : AV, a.bnd nb nt nm = true → a.bnd nb' nt' nm' = true
  | .bool _, _ | .int _ _, _ | .str _, _ | .nilP, _ | .nilM, _ | .nilF, _ | .nilI, _ | .top, _ => by simp only [AV.bnd]
  | .agg cs, h | .tup cs, h | .cptr cs, h => by simp only [AV.bnd] at *; exact AV.bnds_mono hb ht hm cs h
  | .ptr b o, h => by simp only [AV.bnd, decide_eq_true_eq] at *; omega
  | .msl b _ _ _ _, h => by simp only [AV.bnd, decide_eq_true_eq] at *; omega
  | .map m, h => by simp only [AV.bnd, decide_eq_true_eq] at *; omega
  | .sl cs n r, h => by
    simp only [AV.bnd, Bool.and_eq_true] at *
    refine ⟨?_, AV.bnds_mono hb ht hm cs h.2⟩
    have := h.1
    cases r <;> simp only [Room.bnd, decide_eq_true_eq] at *
    omega
  | .fn f a b, h => by simp only [AV.bnd, Bool.and_eq_true] at *; exact ⟨AV.bnds_mono hb ht hm a h.1, AV.bnds_mono hb ht hm b h.2⟩
theorem AV.bnds_mono {nb nt nm nb' nt' nm' : Nat} (hb : nb ≤ nb') (ht : nt ≤ nt') (hm : nm ≤ nm') : ∀ as : List AV, AV.bnds nb nt nm as = true → AV.bnds nb' nt' nm' as = true
  | [], _ => by simp only [AV.bnds]
  | a :: as, h => by simp only [AV.bnds, Bool.and_eq_true] at *; exact ⟨AV.bnd_mono hb ht hm a h.1, AV.bnds_mono hb ht hm as h.2⟩
end

/-! Lists -/
theorem VRels.length {G : Ghost} : ∀ {as : List AV} {vs : List Value}, VRels G as vs → as.length = vs.length
  | [], _, h => by simp only [VRels] at h; simp [h]
  | a :: as, _, h => by
    simp only [VRels] at h
    obtain ⟨v, vs', rfl, _, h2⟩ := h
    simp [h2.length]
theorem VRels.get {G : Ghost} : ∀ {as : List AV} {vs : List Value}, VRels G as vs → ∀ (i : Nat) (a : AV), as[i]? = some a → ∃ v, vs[i]? = some v ∧ VRel G a v
  | [], _, _, i, a, h => by simp at h
  | a :: as, _, h, i, b, hb => by
    simp only [VRels] at h
    obtain ⟨v, vs', rfl, h1, h2⟩ := h
    cases i with
    | zero => simp at hb; subst hb; exact ⟨v, by simp, h1⟩
    | succ i => simp at hb; obtain ⟨u, e, r⟩ := h2.get i b hb; exact ⟨u, by simpa using e, r⟩
theorem VRels.get' {G : Ghost} {as : List AV} {vs : List Value} (h : VRels G as vs) (i : Nat) (v : Value) (hv : vs[i]? = some v) : ∃ a, as[i]? = some a ∧ VRel G a v := by
  have hl := h.length
  have hi : i < vs.length := by rw [List.getElem?_eq_some_iff] at hv; exact hv.1
  obtain ⟨u, e, r⟩ := h.get i as[i] (by simp)
  rw [hv] at e; cases e
  exact ⟨as[i], by simp, r⟩
theorem VRels.append {G : Ghost} : ∀ {as bs : List AV} {vs us : List Value}, VRels G as vs → VRels G bs us → VRels G (as ++ bs) (vs ++ us)
  | [], _, _, _, h, k => by simp only [VRels] at h; subst h; simpa using k
  | a :: as, _, _, _, h, k => by
    simp only [VRels] at h
    obtain ⟨v, vs', rfl, h1, h2⟩ := h
    simp only [List.cons_append, VRels]
    exact ⟨v, _, rfl, h1, h2.append k⟩
theorem VRels.drop {G : Ghost} : ∀ {as : List AV} {vs : List Value} (n : Nat), VRels G as vs → VRels G (as.drop n) (vs.drop n)
  | as, vs, 0, h => by simpa using h
  | [], _, n + 1, h => by simp only [VRels] at h; subst h; simp [VRels]
  | a :: as, _, n + 1, h => by
    simp only [VRels] at h
    obtain ⟨v, vs', rfl, h1, h2⟩ := h
    simpa using h2.drop n
theorem VRels.take {G : Ghost} : ∀ {as : List AV} {vs : List Value} (n : Nat), VRels G as vs → VRels G (as.take n) (vs.take n)
  | _, _, 0, _ => by simp [VRels]
  | [], _, n + 1, h => by simp only [VRels] at h; subst h; simp [VRels]
  | a :: as, _, n + 1, h => by
    simp only [VRels] at h
    obtain ⟨v, vs', rfl, h1, h2⟩ := h
    simp only [List.take_succ_cons, VRels]
    exact ⟨v, _, rfl, h1, h2.take n⟩
theorem VRels.set {G : Ghost} : ∀ {as : List AV} {vs : List Value} (n : Nat) {a : AV} {v : Value}, VRels G as vs → VRel G a v → VRels G (as.set n a) (vs.set n v)
  | [], _, n, _, _, h, _ => by simp only [VRels] at h; subst h; simp [VRels]
  | a :: as, _, 0, _, _, h, k => by
    simp only [VRels] at h
    obtain ⟨v, vs', rfl, h1, h2⟩ := h
    simp only [List.set_cons_zero, VRels]; exact ⟨_, _, rfl, k, h2⟩
  | a :: as, _, n + 1, _, _, h, k => by
    simp only [VRels] at h
    obtain ⟨v, vs', rfl, h1, h2⟩ := h
    simp only [List.set_cons_succ, VRels]; exact ⟨_, _, rfl, h1, h2.set n k⟩
theorem VRels.replicate {G : Ghost} {a : AV} {v : Value} (h : VRel G a v) : ∀ n, VRels G (List.replicate n a) (List.replicate n v)
  | 0 => by simp [VRels]
  | n + 1 => by simp only [List.replicate_succ, VRels]; exact ⟨v, _, rfl, h, VRels.replicate h n⟩

theorem AV.bnds_iff {nb nt nm : Nat} : ∀ {as : List AV}, AV.bnds nb nt nm as = true ↔ ∀ a ∈ as, a.bnd nb nt nm = true
  | [] => by simp [AV.bnds]
  | a :: as => by simp [AV.bnds, AV.bnds_iff (as := as)]

/-- one abstract cell is one of the model's -/
theorem VRel.one {G : Ghost} {a : AV} {v : Value} (h : VRel G a v) (ha : a.one = true) : v.oneCell' = true := by
  cases a <;> simp only [VRel, AV.one, Bool.false_eq_true] at *
  case sl => rcases h with ⟨_, _, _, rfl⟩ | ⟨c, o, cap, vs, rfl, _⟩ <;> rfl
  all_goals first
    | (subst h; rfl)
    | (obtain ⟨c, o, vs, rfl, _⟩ := h; rfl)
    | (obtain ⟨c, _, rfl⟩ := h; rfl)
    | (obtain ⟨c, _, rfl, _⟩ := h; rfl)
    | (obtain ⟨fs, cs, rfl, _⟩ := h; rfl)

def MOk (M : List (AV × AV)) : Prop := (M.map (·.1)).Nodup ∧ ∀ kv ∈ M, kv.1.key = true ∧ kv.2.bnd 0 0 0 = true
def MRel (G : Ghost) (M : List (AV × AV)) (es : Array MapEntry) (clock : Nat) : Prop :=
  MOk M ∧ ∃ M' : List (AV × AV), M'.Perm M ∧ M'.length = es.size ∧
    (∀ (i : Nat) (kv : AV × AV) (e : MapEntry), M'[i]? = some kv → es[i]? = some e → VRel G kv.1 e.key ∧ VRel G kv.2 e.val) ∧ (∀ e ∈ es.toList, e.born < clock) ∧ (es.toList.map (·.born)).Nodup

theorem MRel.mono {G G' : Ghost} (h : G.Le G') {M : List (AV × AV)} {es : Array MapEntry} {clock : Nat} (hm : MRel G M es clock) : MRel G' M es clock := by
  obtain ⟨ho, M', h1, h2, h3, h4⟩ := hm
  exact ⟨ho, M', h1, h2, fun i kv e a b => ⟨VRel.mono h _ _ (h3 i kv e a b).1, VRel.mono h _ _ (h3 i kv e a b).2⟩, h4⟩

structure SRel (G : Ghost) (h : H) (w : World) : Prop where
  dom : Dom G h.blk.length h.toks.length h.maps.length
  blk : ∀ b c, G.φ b = some c → ∃ cs arr e, h.blk[b]? = some cs ∧ w.heap[c]? = some (.cells arr e (0, 0)) ∧ VRels G cs arr.toList
  tok : ∀ t n, h.toks[t]? = some n → ∃ c cap size cur e, G.tk t n = some (c, cap, size) ∧ w.heap[c]? = some (.cells cur e (0, 0)) ∧ cur.size = cap * size ∧ n ≤ cap ∧ cap ≤ maxLen ∧
    ∀ o v, G.fr c o = some v → o < n * size
  map : ∀ m c, G.mp m = some c → ∃ M es clock, h.maps[m]? = some M ∧ w.heap[c]? = some (.map es clock) ∧ MRel G M es clock
  fr : ∀ c o v, G.fr c o = some v → w.cell? ⟨c, o, none⟩ = some v
  injφ : ∀ b b' c, G.φ b = some c → G.φ b' = some c → b = b'
  φfr : ∀ b c o, G.φ b = some c → G.fr c o = none
  φtk : ∀ b c t n cap s, G.φ b = some c → h.toks[t]? = some n → G.tk t n ≠ some (c, cap, s)
  tkle : ∀ t n x, G.tk t n = some x → ∀ cur, h.toks[t]? = some cur → n ≤ cur
  injtk : ∀ t t' n n' c cap s cap' s', h.toks[t]? = some n → h.toks[t']? = some n' → G.tk t n = some (c, cap, s) → G.tk t' n' = some (c, cap', s') → t = t'
  injmp : ∀ m m' c, G.mp m = some c → G.mp m' = some c → m = m'
  bases : ∀ β ∈ G.bases, β.1 ≤ h.blk.length ∧ β.2.1 ≤ h.toks.length ∧ β.2.2 ≤ h.maps.length ∧
    ∀ b c cs, G.φ b = some c → b < β.1 → h.blk[b]? = some cs → AV.bnds β.1 β.2.1 β.2.2 cs = true

def Own (G : Ghost) (h : H) (c : Nat) : Prop :=
  (∃ b, G.φ b = some c) ∨ (∃ t n cap s, h.toks[t]? = some n ∧ G.tk t n = some (c, cap, s)) ∨ (∃ m, G.mp m = some c)

structure Step (G : Ghost) (h : H) (w : World) (G' : Ghost) (h' : H) (w' : World) : Prop where
  le : G.Le G'
  os : w'.os = w.os
  tape : w'.tape = w.tape
  output : w'.output = w.output
  size : w.heap.size ≤ w'.heap.size
  keep : ∀ c, c < w.heap.size → ¬ Own G h c → w'.heap[c]? = w.heap[c]?
  own : ∀ c, Own G' h' c → Own G h c ∨ w.heap.size ≤ c
  bases : G'.bases = G.bases
  pend : (∀ b c, G'.φ b = some c → b < h.blk.length → G.φ b = some c) ∧ h.blk.length ≤ h'.blk.length
  frnew : ∀ c o v, G'.fr c o = some v → G.fr c o = some v ∨ w.heap.size ≤ c ∨ Own G h c

theorem Step.refl (G : Ghost) (h : H) (w : World) : Step G h w G h w :=
  ⟨.refl G, rfl, rfl, rfl, Nat.le_refl _, fun _ _ _ => rfl, fun _ h => .inl h, rfl, ⟨fun _ _ h _ => h, Nat.le_refl _⟩, fun _ _ _ h => .inl h⟩
theorem Step.trans {G G1 G2 : Ghost} {h h1 h2 : H} {w w1 w2 : World} (a : Step G h w G1 h1 w1) (b : Step G1 h1 w1 G2 h2 w2) : Step G h w G2 h2 w2 :=
  ⟨a.le.trans b.le, b.os.trans a.os, b.tape.trans a.tape, b.output.trans a.output, Nat.le_trans a.size b.size,
    fun c hc hn => (b.keep c (Nat.lt_of_lt_of_le hc a.size) (fun ho => by rcases a.own c ho with h | h; exact hn h; omega)).trans (a.keep c hc hn),
    fun c ho => by
      rcases b.own c ho with h | h
      · exact a.own c h
      · exact .inr (Nat.le_trans a.size h),
    b.bases.trans a.bases, ⟨fun x c hx hl => a.pend.1 x c (b.pend.1 x c hx (Nat.lt_of_lt_of_le hl a.pend.2)) hl, Nat.le_trans a.pend.2 b.pend.2⟩, fun c o v hv => by
      rcases b.frnew c o v hv with q | q | q
      · exact a.frnew c o v q
      · exact .inr (.inl (Nat.le_trans a.size q))
      · rcases a.own c q with q | q
        · exact .inr (.inr q)
        · exact .inr (.inl q)⟩
end Go.VM
